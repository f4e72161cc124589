/- The statements' small trial comes out true. Conditions: none. -/
import Derived.Test.YtfpocghjdhhkpaaSplit
namespace Go.Proofs.Ytfpocghjdhhkpaa
open Go.RowKit Go.Shelf Go.ChangeShapes Go.WideShapes Go.Sort

theorem seesB_made {w : World} {g : Nat} {l : List Bg} (n : Nat) (hn : l.length = n) (hm : n ≤ 1000) (h : Blk w g 33 (flatB l).toArray) : SeesB w (some ⟨g, 0, none⟩) n n l :=
  ⟨by unfold flatB; rw [flat_len Bg.len, hn], Nat.le_refl _, by unfold maxLen; omega, fun e => (by cases e), fun ad' e _ => by
    cases e
    exact ⟨g, 0, rfl, h.lt, range_blk h⟩⟩
theorem seesI_made {w : World} {g : Nat} {l : List Int} (n : Nat) (hn : l.length = n) (hm : n ≤ 1000) (h : Blk w g 2 (ints l).toArray) : SeesI w (some ⟨g, 0, none⟩) n n l :=
  ⟨by unfold ints; rw [flat_len int1_len, hn], Nat.le_refl _, by unfold maxLen; omega, fun e => (by cases e), fun ad' e _ => by
    cases e
    exact ⟨g, 0, rfl, h.lt, range_blk h⟩⟩
set_option maxRecDepth 100000 in
set_option maxHeartbeats 4000000 in
theorem alive_any (w : World) : Calls Try.prog 5 #[] w fun e w' => e = .returned (.bool true) ∧ Below w.heap.size w w' := by
  obtain ⟨w1, ew1⟩ : ∃ W, (w.alloc (.cells #[.int .i64 1, .int .i64 0, .int .i64 0, .int .i64 2, .int .i64 0, .int .i64 0] 33)).alloc (.cells #[.int .i64 2] 2) = W := ⟨_, rfl⟩
  have hb1 : Below w.heap.size w w1 := by rw [← ew1]; exact ((Below.refl _ w).alloc (Nat.le_refl _) _).alloc (by simp) _
  have hx1 : SeesB w1 (some ⟨w.heap.size, 0, none⟩) 2 2 [⟨1, 0, 0⟩, ⟨2, 0, 0⟩] := by
    refine seesB_made 2 rfl (by omega) ?_
    rw [← ew1]
    exact (Below.heap_alloc _ _ _ (by simp)).trans (heap_alloc_new w _)
  have hz1 : SeesI w1 (some ⟨w.heap.size + 1, 0, none⟩) 1 1 [2] := by
    refine seesI_made 1 rfl (by omega) ?_
    rw [← ew1]
    have := heap_alloc_new (w.alloc (.cells #[.int .i64 1, .int .i64 0, .int .i64 0, .int .i64 2, .int .i64 0, .int .i64 0] 33)) (.cells #[.int .i64 2] 2)
    rwa [World.size_alloc] at this
  have c1 := split_any hx1 hz1 (by omega) (by omega)
  have eF : freeL [⟨1, 0, 0⟩, ⟨2, 0, 0⟩] [2] = [⟨1, 0, 0⟩] := by decide
  have eK : keptL [⟨1, 0, 0⟩, ⟨2, 0, 0⟩] [2] = [⟨2, 0, 0⟩] := by decide
  rw [eF, eK] at c1
  simp only [List.length_cons, List.length_nil, Nat.zero_add] at c1
  have c2 := fun W => slot_any 3 2 2 W
  have e2 : slotP 3 2 2 = ⟨5, 1, 1⟩ := by decide
  have e3 : slotB 3 2 2 = true := by decide
  have c3 := fun W => count_any 2 2 W
  have e4 : cl 2 4 * cl 2 2 = 4 := by decide
  rw [e2, e3] at c2
  rw [e4] at c3
  have c2 : ∀ W, Calls Try.prog 7 #[.int .i64 3, .int .i64 2, .int .i64 2] W fun e w' => e = .returned (.tuple #[.agg #[.int .i64 5, .int .i64 1, .int .i64 1], .bool true]) ∧ Below W.heap.size W w' := c2
  clear eF eK e2 e3 e4 hx1 hz1
  go_enter Try.func5, Try.ntmps5
  go_wp2_with fail
  clear ew1
  refine c1.mono ?_
  rintro e W ⟨A1, k1, A2, k2, rfl, hF, hK, hbW⟩
  have hF : SeesB W A1 1 k1 [⟨1, 0, 0⟩] := hF
  have hK : SeesB W A2 1 k2 [⟨2, 0, 0⟩] := hK
  obtain ⟨g, o, rfl, hr⟩ := hF.at_ (i := 0) rfl
  have q0 : W.cell? ⟨g, o, none⟩ = some (.int .i64 1) := by have := hr 0 _ rfl; simpa using this
  have hg := World.block_lt_of_cell? _ _ q0
  have hbw := hb1.trans (hbW.mono hb1.size)
  clear c1 hF hK hr hb1 hbW
  go_wp2_with fail
  refine (c2 _).mono ?_
  rintro e W2 ⟨rfl, hb2⟩
  have q2 : W2.cell? ⟨g, o, none⟩ = some (.int .i64 1) := (hb2.cell (p := ⟨g, o, none⟩) hg).trans q0
  have hb3 : Below W2.heap.size W2 (W2.alloc (.cells #[.int .i64 5, .int .i64 1, .int .i64 1] 25)) := (Below.refl _ W2).alloc (Nat.le_refl _) _
  have q3 : (W2.alloc (.cells #[.int .i64 5, .int .i64 1, .int .i64 1] 25)).cell? ⟨g, o, none⟩ = some (.int .i64 1) := (hb3.cell (p := ⟨g, o, none⟩) (World.block_lt_of_cell? _ _ q2)).trans q2
  have heq : ∀ W, (binOp BinOp.eql 25 (.agg #[.int .i64 5, .int .i64 1, .int .i64 1]) (.agg #[.int .i64 5, .int .i64 1, .int .i64 1])).run Try.prog W = .ok (.bool true) W := fun W => eq25 ⟨5, 1, 1⟩ ⟨5, 1, 1⟩ W
  have hfin : Below w.heap.size w (W2.alloc (.cells #[.int .i64 5, .int .i64 1, .int .i64 1] 25)) := hbw.trans ((hb2.trans (hb3.mono hb2.size)).mono hbw.size)
  have HF := Lib.hid hfin
  clear hfin q0 q2 hg hb2 hb3 hbw
  go_wp2_with (go_at_call 8; refine (c3 _).mono ?_; rintro e w' ⟨rfl, rfl⟩)

  go_ret
  exact ⟨rfl, HF.out⟩
end Go.Proofs.Ytfpocghjdhhkpaa
