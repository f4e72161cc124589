/- The statements' small trial comes out true; the law of marks. Conditions: none. -/
import Derived.Test.YtmhpkpihojdchaaSplit
namespace Go.Proofs.Ytmhpkpihojdchaa
open Go.RowKit Go.ChangeShapes Go.WideShapes

theorem seesB_made {w : World} {g : Nat} {l : List Bg} (n : Nat) (hn : l.length = n) (hm : n ≤ 1000) (h : Blk w g 28 (flatB l).toArray) : SeesB w (some ⟨g, 0, none⟩) n n l :=
  ⟨by unfold flatB; rw [flat_len Bg.len, hn], Nat.le_refl _, by unfold maxLen; omega, fun e => (by cases e), fun ad' e _ => by
    cases e
    exact ⟨g, 0, rfl, h.lt, range_blk h⟩⟩
set_option maxRecDepth 100000 in
set_option maxHeartbeats 4000000 in
theorem alive_any (w : World) : Calls Try.prog 5 #[] w fun e w' => e = .returned (.bool true) ∧ Below w.heap.size w w' := by
  obtain ⟨w1, ew1⟩ : ∃ W, w.alloc (.cells #[.int .i64 1, .int .i64 0, .int .i64 3, .int .i64 2, .int .i64 0, .int .i64 4] 28) = W := ⟨_, rfl⟩
  have hb1 : Below w.heap.size w w1 := by rw [← ew1]; exact (Below.refl _ w).alloc (Nat.le_refl _) _
  have hx1 : SeesB w1 (some ⟨w.heap.size, 0, none⟩) 2 2 [⟨1, 0, 3⟩, ⟨2, 0, 4⟩] := by
    refine seesB_made 2 rfl (by omega) ?_
    rw [← ew1]
    exact heap_alloc_new w _
  have c1 := split_any (e := 5) hx1 (by omega) (by intro b hb; simp at hb; rcases hb with rfl | rfl <;> (unfold Wide; decide)) (by unfold Wide; decide)
  have eF : goL [⟨1, 0, 3⟩, ⟨2, 0, 4⟩] 5 = [⟨1, 0, 3⟩] := by decide
  have eK : stayL [⟨1, 0, 3⟩, ⟨2, 0, 4⟩] 5 = [⟨2, 0, 4⟩] := by decide
  rw [eF, eK] at c1
  simp only [List.length_cons, List.length_nil, Nat.zero_add] at c1
  have e1 : markZ 3 = 7 := by decide +kernel
  have m1 := fun W => mark_any 3 W
  rw [e1] at m1
  have a1 := fun W => agrees_any 7 3 W
  have a2 := fun W => agrees_any 0 3 W
  have a3 := fun W => agrees_any 5 3 W
  rw [e1] at a1 a2 a3
  rw [show ((7 : Int) == 0 || (7 : Int) == 7) = true by decide] at a1
  rw [show ((0 : Int) == 0 || (0 : Int) == 7) = true by decide] at a2
  rw [show ((5 : Int) == 0 || (5 : Int) == 7) = false by decide] at a3
  clear eF eK e1 hx1
  go_enter Try.func5, Try.ntmps5
  go_wp2_with fail
  clear ew1
  refine c1.mono ?_
  rintro e W ⟨A1, k1, A2, k2, rfl, hF, hK, hbW⟩
  have hbw := hb1.trans (hbW.mono hb1.size)
  have HF := Lib.hid hbw
  clear c1 hF hK hb1 hbW hbw
  go_wp2_with fail
  refine (m1 _).mono ?_
  rintro e w' ⟨rfl, rfl⟩
  go_wp2_with fail
  refine (a1 _).mono ?_
  rintro e w' ⟨rfl, rfl⟩
  go_wp2_with fail
  refine (a2 _).mono ?_
  rintro e w' ⟨rfl, rfl⟩
  go_wp2_with fail
  refine (a3 _).mono ?_
  rintro e w' ⟨rfl, rfl⟩
  go_wp2
  go_ret
  exact ⟨rfl, HF.out⟩
set_option maxRecDepth 100000 in
theorem marks_any (e m : Int) (w : World) : Calls Try.prog 3 #[.int .i64 e, .int .i64 m] w fun r w' => r = .returned (.bool true) ∧ Below w.heap.size w w' := by
  have c1 := fun W => mark_any e W
  have c2 := fun W => agrees_any m e W
  have c3 := fun W => agrees_any (markZ e) e W
  have hl := mark_law e
  rw [show (markZ e == 0 || markZ e == markZ e) = true by simp] at c3
  generalize markZ e = M at *
  obtain ⟨b0, eb0⟩ : ∃ b, (m == 0) = b := ⟨_, rfl⟩
  obtain ⟨b1, eb1⟩ : ∃ b, (m == M) = b := ⟨_, rfl⟩
  rw [eb0, eb1] at c2
  go_enter Try.func3, Try.ntmps3
  go_wp2_with fail
  refine (alive_any w).mono ?_
  rintro r W ⟨rfl, hb⟩
  have HB := Lib.hid hb
  clear hb
  cases b0 <;> cases b1
  all_goals
    go_wp2_with fail
    refine (c1 _).mono ?_
    rintro r W2 ⟨rfl, rfl⟩
    go_wp2_with fail
    refine (c2 _).mono ?_
    rintro r W2 ⟨rfl, rfl⟩
    go_wp2_with fail
    refine (c3 _).mono ?_
    rintro r W2 ⟨rfl, rfl⟩
    go_wp2
    go_ret
    exact ⟨rfl, HB.out⟩
end Go.Proofs.Ytmhpkpihojdchaa
