/- Whether numbers, configs and asks may be: what num's In, conf's has, check, Check, CheckAsk, checkBoth, flag and bounded answer, and the reference's within, Check and CheckAsk. Conditions: conf's spans lie as they are laid, for conf's. -/
import Derived.Test.YtmkdmnaonddghaaDoorJoin
namespace Go.Proofs.YtmkdmnaonddghaaDoor
open Go.RowKit

/-- Is it from lo to hi? -/
def inB (n lo hi : Int) : Bool := decide (lo ≤ n) && decide (n ≤ hi)
theorem inB_iff (n lo hi : Int) : inB n lo hi = true ↔ lo ≤ n ∧ n ≤ hi := by simp [inB]
theorem in_any (n lo hi : Int) (w : World) : Calls Tryd.prog 57 #[.int .i64 n, .int .i64 lo, .int .i64 hi] w fun e w' => e = .returned (.bool (inB n lo hi)) ∧ w = w' := by
  cases h1 : decide (lo ≤ n) with
  | true =>
    have e : inB n lo hi = decide (n ≤ hi) := by simp only [inB, h1, Bool.true_and]
    rw [e]
    clear e
    go_enter Tryd.func57, Tryd.ntmps57
    go_wp2
    go_ret
    exact ⟨rfl, rfl⟩
  | false =>
    have e : inB n lo hi = false := by simp only [inB, h1, Bool.false_and]
    rw [e]
    clear e
    go_enter Tryd.func57, Tryd.ntmps57
    go_wp2
    go_ret
    exact ⟨rfl, rfl⟩
theorem within_any (n lo hi : Int) (w : World) : Calls Tryd.prog 21 #[.int .i64 n, .int .i64 lo, .int .i64 hi] w fun e w' => e = .returned (.bool (inB n lo hi)) ∧ w = w' := by
  cases h1 : decide (lo ≤ n) with
  | true =>
    have e : inB n lo hi = decide (n ≤ hi) := by simp only [inB, h1, Bool.true_and]
    rw [e]
    clear e
    go_enter Tryd.func21, Tryd.ntmps21
    go_wp2
    go_ret
    exact ⟨rfl, rfl⟩
  | false =>
    have e : inB n lo hi = false := by simp only [inB, h1, Bool.false_and]
    rw [e]
    clear e
    go_enter Tryd.func21, Tryd.ntmps21
    go_wp2
    go_ret
    exact ⟨rfl, rfl⟩
theorem has_any (l m o n : Int) (w : World) : Calls Tryd.prog 50 #[.agg #[.int .i64 l, .int .i64 m, .int .i64 o], .int .i64 n] w fun e w' => e = .returned (.bool (inB n l m)) ∧ Below w.heap.size w w' := by
  go_enter Tryd.func50, Tryd.ntmps50
  go_wp2_with (refine (in_any _ _ _ _).mono ?_; rintro e w1 ⟨rfl, rfl⟩)
  go_ret
  exact ⟨rfl, (Below.refl _ w).alloc (Nat.le_refl _) _⟩
def flagI (b : Bool) : Int := if b then 1 else 0
theorem flag_any (b : Bool) (w : World) : Calls Tryd.prog 24 #[.bool b] w fun e w' => e = .returned (.int .i64 (flagI b)) ∧ w = w' := by
  cases b
  · go_enter Tryd.func24, Tryd.ntmps24
    go_wp2
    go_ret
    exact ⟨rfl, rfl⟩
  · go_enter Tryd.func24, Tryd.ntmps24
    go_wp2
    go_ret
    exact ⟨rfl, rfl⟩
def boundI (n : Int) : Int := max (-1) (min n 1048577)
theorem bounded_any (n : Int) (w : World) : Calls Tryd.prog 43 #[.int .i64 n] w fun e w' => e = .returned (.int .i64 (boundI n)) ∧ w = w' := by
  go_enter Tryd.func43, Tryd.ntmps43
  go_wp2
  go_ret
  exact ⟨rfl, rfl⟩
/-- Whether numbers may be, the first of which is the one at place p. -/
def chkN : Nat → List Int → Int
  | _, [] => 0
  | p, x :: r => if inB x (leastAt p) (mostAt p) then chkN (p + 1) r else 3
def ints (xs : List Int) : List Value := xs.map (Value.int .i64)
theorem ints_at (xs : List Int) (k : Nat) (h : k < xs.length) : (ints xs).toArray[k]? = some (.int .i64 (xs.getD k 0)) := by
  simp [ints, List.getD, h]
set_option maxRecDepth 100000 in
theorem check_any (p g : Nat) (xs : List Int) (w : World) (hL : Laid w) (hB : Blk w g 3 (ints xs).toArray) (hn : p + xs.length ≤ 7) :
    Calls Tryd.prog 28 #[.int .i64 p, .slice (some ⟨g, 0, none⟩) xs.length xs.length] w fun e w' => e = .returned (.int .i64 (chkN p xs)) ∧ Below w.heap.size w w' := by
  obtain ⟨n, en⟩ : ∃ n, xs.length = n := ⟨_, rfl⟩
  have HN := Lib.hid en
  rw [en] at hn ⊢
  clear en
  have hg := hB.lt
  go_enter Tryd.func28, Tryd.ntmps28
  go_wp2
  go_loopw [5, 6, 9] (fun _ _ i wr => ∃ k : Nat, k ≤ n ∧ i = .int .i64 k ∧ chkN p xs = chkN (p + k) (xs.drop k) ∧ Below w.heap.size w wr) (fun _ _ i _ => n - (intOf i).toNat)
  case atStart => exact ⟨0, Nat.zero_le _, rfl, rfl, Below.refl _ _⟩
  case round =>
    obtain ⟨k, hk, rfl, hc, hb⟩ := hrel
    by_cases hlt : k < n
    · obtain ⟨j, hj⟩ : ∃ j, p + k = j := ⟨_, rfl⟩
      have e1 : (p : Int) + (k : Int) = (j : Int) := by omega
      obtain ⟨s0, s1, s2⟩ := (hL.on hb).span j (by omega)
      have hcell : wr.cell? ⟨g, k, none⟩ = some (.int .i64 (xs.getD k 0)) := by
        rw [(hB.below hb hg).cell]
        exact ints_at xs k (by rw [HN.out]; exact hlt)
      have hd : xs.drop k = xs.getD k 0 :: xs.drop (k + 1) := by
        rw [List.drop_eq_getElem_cons (by rw [HN.out]; exact hlt)]
        simp [List.getD, show k < xs.length by rw [HN.out]; exact hlt]
      rw [hd, hj] at hc
      simp only [chkN] at hc
      have t0 : decide ((k : Int) < (n : Int)) = true := decide_eq_true (by omega)
      have j0 : (0 : Int) ≤ (k : Int) := by omega
      have j1 : (k : Int) < (n : Int) := by omega
      have j2 : (0 : Int) ≤ (j : Int) := by omega
      have j3 : (j : Int) < 7 := by omega
      have HC := Lib.hid hc
      clear hc hd
      generalize xs.getD k 0 = x at *
      cases hi : inB x (leastAt j) (mostAt j) with
      | true =>
        have HK : Hid (chkN p xs = chkN (p + (k + 1)) (xs.drop (k + 1))) := Lib.hid (by rw [HC.out, hi, if_pos rfl, ← hj]; rfl)
        have hh := fun w => has_any (leastAt j) (mostAt j) (octsAt j) x w
        rw [hi] at hh
        clear hi
        go_wp2_with fail
        refine (hh _).mono ?_
        rintro e w1 ⟨rfl, hb1⟩
        go_wp2
        go_roundw
        case rel => exact ⟨k + 1, by omega, by go_num, HK.out, hb.trans (hb1.mono hb.size)⟩
        case measure => simp [intOf]; omega
      | false =>
        have HK : Hid (chkN p xs = 3) := Lib.hid (by rw [HC.out, hi]; rfl)
        have hh := fun w => has_any (leastAt j) (mostAt j) (octsAt j) x w
        rw [hi] at hh
        clear hi
        go_wp2_with fail
        refine (hh _).mono ?_
        rintro e w1 ⟨rfl, hb1⟩
        go_wp2
        go_ret
        exact ⟨by rw [HK.out]; rfl, hb.trans (hb1.mono hb.size)⟩
    · obtain rfl : k = n := by omega
      have t0 : decide ((k : Int) < (k : Int)) = false := decide_eq_false (by omega)
      have HK : Hid (chkN p xs = 0) := Lib.hid (by rw [hc, List.drop_of_length_le (by rw [HN.out]; exact Nat.le_refl _)]; rfl)
      clear hc
      go_wp2
      go_ret
      exact ⟨by rw [HK.out]; rfl, hb⟩
end Go.Proofs.YtmkdmnaonddghaaDoor
