/- Lists of instructions, and of threads' code, that a call makes itself; the contracts of prog's Size and of the law's Few. Conditions: at most 1900 octets, for Size. -/
import Derived.Test.YtcbekkbhhepeaaaDoorRefOcts
namespace Go.Proofs.YtcbekkbhhepeaaaDoor
open Go.RowKit

theorem info46 : (Tryd.prog.info? 46).map (fun i => (i.zero, i.size, i.bytes)) = some (some (.slice none 0 0), 1, 24) := by kernel_rfl
theorem info45 : (Tryd.prog.info? 45).map (fun i => (i.zero, i.size, i.bytes)) = some (some (.agg #[.int .i64 0, .int .i64 0, .int .i64 0, .int .i64 0, .int .i64 0]), 5, 40) := by kernel_rfl
/-- Instructions as cells. -/
def flat5 (xs : List Ins) : List Value := xs.flatMap fun x => [.int .i64 x.o, .int .i64 x.a, .int .i64 x.b, .int .i64 x.c, .int .i64 x.n]
theorem flat5_snoc (xs : List Ins) (x : Ins) : flat5 (xs ++ [x]) = flat5 xs ++ [.int .i64 x.o, .int .i64 x.a, .int .i64 x.b, .int .i64 x.c, .int .i64 x.n] := by simp [flat5]
theorem flat5_len : ∀ (xs : List Ins), (flat5 xs).length = xs.length * 5
  | [] => rfl
  | x :: t => by
    have := flat5_len t
    unfold flat5 at *
    rw [List.flatMap_cons, List.length_append, this]
    simp
    omega
theorem flat5_get : ∀ (xs : List Ins) (j : Nat) (x : Ins), xs[j]? = some x → (flat5 xs)[j * 5]? = some (.int .i64 x.o) ∧ (flat5 xs)[j * 5 + 1]? = some (.int .i64 x.a) ∧ (flat5 xs)[j * 5 + 2]? = some (.int .i64 x.b) ∧ (flat5 xs)[j * 5 + 3]? = some (.int .i64 x.c) ∧ (flat5 xs)[j * 5 + 4]? = some (.int .i64 x.n)
  | [], j, x, h => by simp at h
  | y :: r, 0, x, h => by
    simp at h
    subst h
    simp [flat5]
  | y :: r, j + 1, x, h => by
    have e1 : (j + 1) * 5 = j * 5 + 5 := by omega
    have e2 : flat5 (y :: r) = .int .i64 y.o :: .int .i64 y.a :: .int .i64 y.b :: .int .i64 y.c :: .int .i64 y.n :: flat5 r := by simp [flat5]
    have ih := flat5_get r j x (by simpa using h)
    rw [e1, e2]
    exact ih
/-- What the call owns from block base on. -/
def From (w : World) (base : Nat) : Nat → Prop := fun g => base ≤ g ∧ g < w.heap.size
theorem own_lst {w : World} {base n : Nat} {v : Value} {xs : List Ins} (h : w.ownsRow base 45 5 v n (flat5 xs)) : ∃ A cap, v = .slice A n cap ∧ Lst w (From w base) A n cap xs := by
  have hl : xs.length = n := by have := h.1; rw [flat5_len] at this; omega
  rcases h.2 with ⟨rfl, rfl⟩ | ⟨g, cap, cur, rfl, hb, hg, hnc, hcm, hcs, ht⟩
  · obtain rfl : xs = [] := List.eq_nil_of_length_eq_zero hl
    exact ⟨none, 0, rfl, Lst.nil _ _⟩
  · refine ⟨_, cap, rfl, hl, hnc, hcm, fun hh => (by cases hh), fun ad ha i x hx => ?_⟩
    injection ha with ha
    subst ha
    obtain ⟨f0, f1, f2, f3, f4⟩ := flat5_get xs i x hx
    have hi : i < n := by rw [← hl]; exact (List.getElem?_eq_some_iff.1 hx).1
    refine ⟨g, 0, rfl, ⟨hb, (Array.getElem?_eq_some_iff.1 hg).1⟩, ?_⟩
    rw [Nat.zero_add]
    exact ⟨(h.cellAt (g := g) _ (by omega)).trans f0, (h.cellAt (g := g) _ (by omega)).trans f1, (h.cellAt (g := g) _ (by omega)).trans f2, (h.cellAt (g := g) _ (by omega)).trans f3, (h.cellAt (g := g) _ (by omega)).trans f4⟩

/-- A list of lists that the call owns; what it leads to lies in blocks of S. -/
structure OwnM (w : World) (base : Nat) (S : Nat → Prop) (v : Value) (n : Nat) (xss : List (List Ins)) : Prop where
  len : xss.length = n
  ex : ∃ vs, w.ownsRow base 46 1 v n vs ∧ ∀ (i : Nat) (xs : List Ins), xss[i]? = some xs → ∃ A' n' cap', vs[i]? = some (.slice A' n' cap') ∧ Lst w S A' n' cap' xs
theorem OwnM.nil (w : World) (base : Nat) (S : Nat → Prop) : OwnM w base S (.slice none 0 0) 0 [] := ⟨rfl, [], World.ownsRow_nil _ _ _ _, fun i xs h => by simp at h⟩
theorem OwnM.mat {w : World} {base n : Nat} {S : Nat → Prop} {v : Value} {xss : List (List Ins)} (h : OwnM w base S v n xss) : ∃ A cap, v = .slice A n cap ∧ Mat w (fun g => S g ∨ From w base g) A n cap xss := by
  obtain ⟨hl, vs, ho, hall⟩ := h
  rcases id ho.2 with ⟨rfl, rfl⟩ | ⟨g, cap, cur, rfl, hb, hg, hnc, hcm, hcs, ht⟩
  · obtain rfl : xss = [] := List.eq_nil_of_length_eq_zero hl
    exact ⟨none, 0, rfl, Mat.nil _ _⟩
  · refine ⟨_, cap, rfl, hl, hnc, hcm, fun hh => (by cases hh), fun ad ha i xs hx => ?_⟩
    injection ha with ha
    subst ha
    have hi : i < n := by rw [← hl]; exact (List.getElem?_eq_some_iff.1 hx).1
    obtain ⟨A', n', cap', hv, hL⟩ := hall i xs hx
    refine ⟨g, 0, A', n', cap', rfl, .inr ⟨hb, (Array.getElem?_eq_some_iff.1 hg).1⟩, ?_, hL.more fun g hg => .inl hg⟩
    rw [Nat.zero_add]
    exact (ho.cellAt (g := g) i (by omega)).trans hv
theorem OwnM.lt {w : World} {base n : Nat} {S : Nat → Prop} {v : Value} {xss : List (List Ins)} (h : OwnM w base S v n xss) : ∀ g, v.ownBlock = some g → base ≤ g := by
  obtain ⟨_, vs, ho, _⟩ := h
  exact fun g hv => (ho.lt g hv).1
theorem OwnM.below {w w' : World} {base n : Nat} {S : Nat → Prop} {v : Value} {xss : List (List Ins)} (h : OwnM w base S v n xss) (hb : Below w.heap.size w w') (hS : ∀ g, S g → g < w.heap.size) : OwnM w' base S v n xss := by
  obtain ⟨hl, vs, ho, hall⟩ := h
  refine ⟨hl, vs, own_below ho hb, fun i xs hx => ?_⟩
  obtain ⟨A', n', cap', hv, hL⟩ := hall i xs hx
  exact ⟨A', n', cap', hv, hL.below hb hS⟩
theorem OwnM.more {w : World} {base n : Nat} {S S' : Nat → Prop} {v : Value} {xss : List (List Ins)} (h : OwnM w base S v n xss) (hS : ∀ g, S g → S' g) : OwnM w base S' v n xss := by
  obtain ⟨hl, vs, ho, hall⟩ := h
  refine ⟨hl, vs, ho, fun i xs hx => ?_⟩
  obtain ⟨A', n', cap', hv, hL⟩ := hall i xs hx
  exact ⟨A', n', cap', hv, hL.more hS⟩

/-- 'x[:k]', k not 0. -/
theorem under46 : Tryd.prog.underlying 46 = some (.slice (Tryd.prog.elem 46)) := by kernel_rfl
theorem size46 (w : World) : (sizeOf (Tryd.prog.elem 46)).run Tryd.prog w = .ok 5 w := by kernel_rfl
theorem cutI (A : Option Addr) (n cap : Nat) (hc : 20 ≤ cap) (w : World) :
    (Instr.slice 46 (.slice A n cap) none (some (.int .i64 20)) none).run Tryd.prog w = .ok (.slice A 20 cap) w := by
  rw [run_slice_h w 46 A n cap under46 .i64 _ (by omega) (by omega), size46]
  have e3 : ¬ cap = 0 := by omega
  simp only [Result.andThen, sliced, show (20 : Int).toNat = 20 from rfl, if_neg e3, Nat.sub_zero, Nat.zero_mul]
  rcases A with _ | ad
  · rfl
  · simp [Addr.add]
theorem Lst.front {w : World} {S : Nat → Prop} {A : Option Addr} {n cap : Nat} {xs : List Ins} (h : Lst w S A n cap xs) {k : Nat} (hk : k ≤ n) : Lst w S A k cap (xs.take k) :=
  ⟨by rw [List.length_take, h.len]; omega, Nat.le_trans hk h.room, h.most, h.none_, fun ad ha i x hx => by
    rw [List.getElem?_take] at hx
    split at hx
    · exact h.cell ad ha i x hx
    · cases hx⟩

set_option maxRecDepth 100000 in
set_option maxHeartbeats 1000000 in
theorem size_any {w : World} {S : Nat → Prop} {A : Option Addr} {n cap : Nat} {xss : List (List Ins)} (h : Mat w S A n cap xss) (hS : ∀ g, S g → g < w.heap.size) (r c s : Int) (hsz : sizeM xss ≤ 1900) (zz : Nat) (hzz : 5 + sizeM xss = zz) :
    Calls Tryd.prog 12 #[.agg #[.int .i64 r, .int .i64 c, .int .i64 s, .slice A n cap]] w fun e w' => e = .returned (.int .i64 (zz : Int)) ∧ Below w.heap.size w w' := by
  have hm := len_i64 h.room h.most
  have hlen := Lib.hid h.len
  have HS := Lib.hid hsz
  have HZZ := Lib.hid hzz
  clear hsz hzz
  obtain ⟨W0, eW0⟩ : ∃ W0, W0 = w.alloc (.cells #[.int .i64 r, .int .i64 c, .int .i64 s, .slice A n cap] 24) := ⟨_, rfl⟩
  have b0 : Below w.heap.size w W0 := by rw [eW0]; exact (Below.refl _ w).alloc (Nat.le_refl _) _
  have p0 : Blk W0 w.heap.size 24 #[.int .i64 r, .int .i64 c, .int .i64 s, .slice A n cap] := by rw [eW0]; exact heap_alloc_new w _
  have z3 := p0.cell 3
  replace h := h.below b0 hS
  go_enter Tryd.func12, Tryd.ntmps12
  go_wp2_with fail
  rw [← eW0]
  clear eW0
  go_wp2_with fail
  go_loop [3, 9] (fun v i => ∃ k : Nat, i = .int .i64 k ∧ k ≤ n ∧ v = .int .i64 ((5 + sizeM (xss.take k) : Nat) : Int)) (fun _ i => n - (intOf i).toNat)
  case atStart => exact ⟨0, rfl, Nat.zero_le _, rfl⟩
  case round =>
    obtain ⟨k, rfl, hk, rfl⟩ := hrel
    by_cases hlt : k < n
    · obtain ⟨g, off, A1, n1, c1, xs, rfl, hg, hx, h0, hl⟩ := h.at_ k hlt
      have t0 : decide ((k : Int) < (n : Int)) = true := decide_eq_true (by omega)
      have i0 : (0 : Int) ≤ (k : Int) := by omega
      have i1 : (k : Int) < (n : Int) := by omega
      have hE : sizeM (xss.take (k + 1)) = sizeM (xss.take k) + (1 + 12 * n1) := by
        rw [take_snoc hx, sizeM_app, sizeM, sizeM, hl.len]
        omega
      have h1 := sizeM_take xss (k + 1)
      have h2 := HS.out
      rw [hE] at h1
      have HE := Lib.hid hE
      obtain ⟨z, ez⟩ : ∃ z, sizeM (xss.take k) = z := ⟨_, rfl⟩
      have HZ := Lib.hid ez
      rw [ez] at h1
      rw [ez]
      have h3 : z + (1 + 12 * n1) ≤ 1900 := by omega
      clear hE ez h1 h2 hx hl
      go_wp2
      go_round
      case rel => exact ⟨k + 1, by go_num, by omega, by rw [HE.out, HZ.out]; go_num⟩
      case measure => simp [intOf]; omega
    · have t0 : decide ((k : Int) < (n : Int)) = false := decide_eq_false (by omega)
      obtain rfl : k = n := by omega
      have e : xss.take k = xss := List.take_of_length_le (by rw [hlen.out]; exact Nat.le_refl _)
      rw [e, HZZ.out]
      clear e
      go_wp2
      go_ret
      exact ⟨rfl, b0⟩
end Go.Proofs.YtcbekkbhhepeaaaDoor
