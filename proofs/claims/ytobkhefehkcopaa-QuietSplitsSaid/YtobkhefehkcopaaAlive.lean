/- The statements' small trial comes out true. Conditions: none. -/
import Derived.Test.YtobkhefehkcopaaSplit
import Derived.Test.YtobkhefehkcopaaPass
namespace Go.Proofs.Ytobkhefehkcopaa
open Go.RowKit Go.ChangeShapes Go.WideShapes

theorem seesB_made {w : World} {g : Nat} {l : List Bg} (n : Nat) (hn : l.length = n) (hm : n ≤ 1000) (h : Blk w g 34 (flatB l).toArray) : SeesB w (some ⟨g, 0, none⟩) n n l :=
  ⟨by unfold flatB; rw [flat_len Bg.len, hn], Nat.le_refl _, by unfold maxLen; omega, fun e => (by cases e), fun ad' e _ => by
    cases e
    exact ⟨g, 0, rfl, h.lt, range_blk h⟩⟩
theorem seesI_made {w : World} {g : Nat} {l : List Int} (n : Nat) (hn : l.length = n) (hm : n ≤ 1000) (h : Blk w g 2 (ints l).toArray) : SeesI w (some ⟨g, 0, none⟩) n n l :=
  ⟨by unfold ints; rw [flat_len int1_len, hn], Nat.le_refl _, by unfold maxLen; omega, fun e => (by cases e), fun ad' e _ => by
    cases e
    exact ⟨g, 0, rfl, h.lt, range_blk h⟩⟩
/-- A list of two numbers, just made. -/
theorem two_made {W W' : World} (a b : Int) (e : W.alloc (.cells #[.int .i64 a, .int .i64 b] 2) = W') : SeesI W' (some ⟨W.heap.size, 0, none⟩) 2 2 [a, b] ∧ Below W.heap.size W W' := by
  subst e
  exact ⟨seesI_made 2 rfl (by omega) (heap_alloc_new W _), (Below.refl _ W).alloc (Nat.le_refl _) _⟩
set_option maxRecDepth 100000 in
set_option maxHeartbeats 4000000 in
theorem alive_any (w : World) : Calls Try.prog 5 #[] w fun e w' => e = .returned (.bool true) ∧ Below w.heap.size w w' := by
  obtain ⟨w1, ew1⟩ : ∃ W, w.alloc (.cells #[.int .i64 1, .int .i64 0, .int .i64 0, .int .i64 2, .int .i64 0, .int .i64 0] 34) = W := ⟨_, rfl⟩
  have hb1 : Below w.heap.size w w1 := by rw [← ew1]; exact (Below.refl _ w).alloc (Nat.le_refl _) _
  have hx1 : SeesB w1 (some ⟨w.heap.size, 0, none⟩) 2 2 [⟨1, 0, 0⟩, ⟨2, 0, 0⟩] := by
    refine seesB_made 2 rfl (by omega) ?_
    rw [← ew1]
    exact heap_alloc_new w _
  have c1 := split_any (x := 1) (k := 1) hx1 (by omega) (by decide) (by omega)
  have p1 : allB 0 [1, 2] [1, 1] 2 = true := by decide
  have p2 : allB 0 [2, 1] [1, 1] 2 = false := by decide
  have p3 : passB 1 0 2 [1, 1] = true := by decide
  clear hx1
  go_enter Try.func5, Try.ntmps5
  go_wp2_with fail
  clear ew1
  refine c1.mono ?_
  rintro e W ⟨A1, k1, A2, k2, rfl, hF, hK, hbW⟩
  have hbw := hb1.trans (hbW.mono hb1.size)
  clear c1 hF hK hb1 hbW
  obtain ⟨W1, eW1⟩ : ∃ W1, W.alloc (.cells #[.int .i64 1, .int .i64 2] 2) = W1 := ⟨_, rfl⟩
  obtain ⟨W2, eW2⟩ : ∃ W2, W1.alloc (.cells #[.int .i64 1, .int .i64 1] 2) = W2 := ⟨_, rfl⟩
  have s1 := two_made _ _ eW1
  have s2 := two_made _ _ eW2
  have c2 := over_any 0 (s1.1.on s2.2) s2.1
  rw [p1] at c2
  have hb2 := hbw.trans ((s1.2.trans (s2.2.mono s1.2.size)).mono hbw.size)
  have HB2 := Lib.hid hb2
  clear s1 s2 hb2 hbw
  go_wp2_with fail
  clear eW1 eW2
  refine c2.mono ?_
  rintro e w' ⟨rfl, rfl⟩
  clear c2
  have hbw := HB2.out
  obtain ⟨W3, eW3⟩ : ∃ W3, W2.alloc (.cells #[.int .i64 2, .int .i64 1] 2) = W3 := ⟨_, rfl⟩
  obtain ⟨W4, eW4⟩ : ∃ W4, W3.alloc (.cells #[.int .i64 1, .int .i64 1] 2) = W4 := ⟨_, rfl⟩
  have s1 := two_made _ _ eW3
  have s2 := two_made _ _ eW4
  have c2 := over_any 0 (s1.1.on s2.2) s2.1
  rw [p2] at c2
  have hb2 := hbw.trans ((s1.2.trans (s2.2.mono s1.2.size)).mono hbw.size)
  have HB3 := Lib.hid hb2
  clear s1 s2 hb2 hbw HB2
  go_wp2_with fail
  clear eW3 eW4
  refine c2.mono ?_
  rintro e w' ⟨rfl, rfl⟩
  clear c2
  have hbw := HB3.out
  obtain ⟨W5, eW5⟩ : ∃ W5, W4.alloc (.cells #[.int .i64 1, .int .i64 1] 2) = W5 := ⟨_, rfl⟩
  have s1 := two_made _ _ eW5
  have c2 := passed_any 1 0 2 s1.1
  rw [p3] at c2
  have hb2 := hbw.trans (s1.2.mono hbw.size)
  have HB4 := Lib.hid hb2
  clear s1 hb2 hbw HB3 p1 p2 p3
  go_wp2_with fail
  clear eW5
  refine c2.mono ?_
  rintro e w' ⟨rfl, rfl⟩
  clear c2
  go_wp2
  go_ret
  exact ⟨rfl, HB4.out⟩
end Go.Proofs.Ytobkhefehkcopaa
