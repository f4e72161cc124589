/- Any calls answer as a list would: the walk. Conditions: none. -/
import Derived.Test.YtjbmdbnjoekpmaaAlive
namespace Go.Proofs.Ytjbmdbnjoekpmaa
open Go.RowKit Go.Conc

/-- The calls that came in: call i is of the kind K i, with the number N i. -/
def IsOps (w : World) (A : Option Addr) (n cap : Nat) (K N : Nat → Int) : Prop :=
  n ≤ cap ∧ cap ≤ maxLen ∧ ∀ i, i < n → ∃ b off, A = some ⟨b, off, none⟩ ∧ b < w.heap.size ∧ w.cell? ⟨b, off + i * 2, none⟩ = some (.int .i64 (K i)) ∧ w.cell? ⟨b, off + i * 2 + 1, none⟩ = some (.int .i64 (N i))

/-- A pipe and the list that tells it, both made behind w. -/
structure Tells (w wr : World) (p c room : Nat) (v : Value) (xs : List Int) : Prop where
  pip : Pip wr p c room xs
  own : ∃ A cp, v = .slice A xs.length cp ∧ Own wr w.heap.size A xs.length cp xs
  below : Below w.heap.size w wr
  far : w.heap.size ≤ c

set_option maxRecDepth 100000 in
set_option maxHeartbeats 2000000 in
theorem runs_walk (r : Int) (O : Option Addr) (n cap : Nat) (K N : Nat → Int) (w : World) (ho : IsOps w O n cap K N) :
    Calls Try.prog 3 #[.int .i64 r, .slice O n cap] w fun e w' => e = .returned (.bool true) ∧ Below w.heap.size w w' := by
  have hn63 : (n : Int) ≤ 9223372036854775807 := by have := ho.1; have := ho.2.1; unfold maxLen at this; omega
  go_enter Try.func3, Try.ntmps3
  go_wp2_with (first
    | (go_at_call 6; refine (alive_any _).mono ?_; rintro e w1 ⟨rfl, hb1⟩)
    | (go_at_call 7; refine (new_any r _).mono ?_; rintro e w2 ⟨p, c, rfl, hp2, hpp, hcc, hb2⟩)
    | (go_at_call 8; refine (near_any r _).mono ?_; rintro e w' ⟨rfl, rfl⟩))
  have HT : Tells w w2 p c (near r) (.slice none 0 0) [] := ⟨hp2, ⟨none, 0, rfl, Own.nil _ _⟩, hb1.trans (hb2.mono hb1.size), Nat.le_trans hb1.size hcc⟩
  clear hp2 hpp hcc hb2 hb1
  generalize near r = room at *
  go_loopw [6, 7] (fun v i wr => ∃ (k : Nat) (xs : List Int), i = .int .i64 k ∧ k ≤ n ∧ k ≤ 80 ∧ Tells w wr p c room v xs) (fun _ i _ => 80 - (intOf i).toNat)
  case atStart => exact ⟨0, [], rfl, Nat.zero_le _, Nat.zero_le _, HT⟩
  case round =>
    obtain ⟨k, xs, rfl, hkn, hk80, HTr⟩ := hrel
    clear HT
    obtain ⟨A, cp, rfl, hown⟩ := HTr.own
    have hB := HTr.below.size
    by_cases hk1 : k < n
    · by_cases hk2 : k < 80
      · have hk3 : (k : Int) < 80 := by omega
        obtain ⟨b, off, rfl, hbw, hc0, hc1⟩ := ho.2.2 k hk1
        have c0 := (HTr.below.cell (p := ⟨b, off + k * 2, none⟩) hbw).trans hc0
        have c1 := (HTr.below.cell (p := ⟨b, off + k * 2 + 1, none⟩) hbw).trans hc1
        clear hc0 hc1
        generalize K k = kd at c0
        generalize N k = m at c1
        have hr := run_any p c room A cp w.heap.size xs kd m wr HTr.pip hown hB
        go_wp2_with fail
        refine hr.mono ?_
        rintro e w3 ⟨A3, cp3, rfl, H3⟩
        generalize stepN room xs kd m = ys at H3 ⊢
        have ht := told_any p c room A3 cp3 w.heap.size ys w3 H3.pip H3.own
        go_wp2_with fail
        refine ht.mono ?_
        rintro e w4 ⟨rfl, h4, hg4⟩
        have HT4 : Tells w w4 p c room (.slice A3 ys.length cp3) ys :=
          ⟨h4, ⟨A3, cp3, rfl, H3.own.kept hg4 (H3.own.chan H3.pip.holds)⟩, (HTr.below.trans (H3.aside.below hB HTr.far (fun g hg => (hown.lt hg).1))).grown hg4 (by have := H3.aside.size; omega) (fun j hj => by injection hj with hj; rw [← hj]; exact HTr.far), HTr.far⟩
        clear H3 h4 hg4 HTr hown
        go_wp2
        go_roundw
        case rel => exact ⟨k + 1, ys, by go_num, by omega, by omega, HT4⟩
        case measure => simp [intOf]; omega
      · obtain rfl : k = 80 := by omega
        go_wp2_with fail
        refine (told_any p c room A cp w.heap.size xs wr HTr.pip hown).mono ?_
        rintro e w4 ⟨rfl, h4, hg4⟩
        go_wp2
        go_ret
        exact ⟨rfl, HTr.below.grown hg4 hB (fun j hj => by injection hj with hj; rw [← hj]; exact HTr.far)⟩
    · obtain rfl : k = n := by omega
      go_wp2_with fail
      refine (told_any p c room A cp w.heap.size xs wr HTr.pip hown).mono ?_
      rintro e w4 ⟨rfl, h4, hg4⟩
      go_wp2
      go_ret
      exact ⟨rfl, HTr.below.grown hg4 hB (fun j hj => by injection hj with hj; rw [← hj]; exact HTr.far)⟩
end Go.Proofs.Ytjbmdbnjoekpmaa
