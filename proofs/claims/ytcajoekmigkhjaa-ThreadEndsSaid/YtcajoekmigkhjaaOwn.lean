/- A thread cloned, started, begun. Conditions: at most a thousand elements in each list. -/
import Derived.Test.YtcajoekmigkhjaaFew
import Derived.Test.YtcajoekmigkhjaaStep
namespace Go.Proofs.Ytcajoekmigkhjaa
open Go.RowKit Go.ChangeShapes Go.WideShapes Go.Great

set_option maxRecDepth 100000 in
set_option maxHeartbeats 4000000 in
theorem clone_any {w : World} {x : Th} {z s : List Int} {l : List Bg} (h : Reads w x z l s) (h1 : x.se.n ≤ 1000) (h2 : x.bg.n ≤ 1000) (h3 : x.sn.n ≤ 1000) :
    Calls Try.prog 15 #[.agg x.cs.toArray] w fun e w' => ∃ A1 c1 A2 c2 A3 c3, e = .returned (.agg (x.put ⟨A1, x.se.n, c1⟩ ⟨A2, x.bg.n, c2⟩ ⟨A3, x.sn.n, c3⟩).cs.toArray) ∧ Own w.heap.size w' (x.put ⟨A1, x.se.n, c1⟩ ⟨A2, x.bg.n, c2⟩ ⟨A3, x.sn.n, c3⟩) z l s ∧ Below w.heap.size w w' := by
  obtain ⟨p1, f1⟩ : ∃ p, w.heap.size = p := ⟨_, rfl⟩
  obtain ⟨W1, ea1⟩ : ∃ W, w.alloc (.cells x.cs.toArray 32) = W := ⟨_, rfl⟩
  have ka1 : Below w.heap.size w W1 := by rw [← ea1]; exact (Below.refl _ w).alloc (Nat.le_refl _) _
  have b1 : Blk W1 p1 32 x.cs.toArray := by rw [← ea1]; exact blk_new w _ 32 _ f1
  have kk : Below w.heap.size w W1 := ka1
  have hp1 : w.heap.size ≤ p1 := Nat.le_of_eq f1
  clear ka1
  obtain ⟨p2, f2⟩ : ∃ p, W1.heap.size = p := ⟨_, rfl⟩
  obtain ⟨W2, ea2⟩ : ∃ W, W1.alloc (.cells #[.int .i64 0, .int .i64 0, .int .i64 0, .int .i64 0, .int .i64 0, .int .i64 0, .int .i64 0, .int .i64 0, .int .i64 0, .int .i64 0, .int .i64 0, .int .i64 0, .int .i64 0, .int .i64 0, .int .i64 0, .int .i64 0, .int .i64 0, .int .i64 0, .slice none 0 0, .slice none 0 0, .slice none 0 0, .int .i64 0] 32) = W := ⟨_, rfl⟩
  have ka2 : Below W1.heap.size W1 W2 := by rw [← ea2]; exact (Below.refl _ W1).alloc (Nat.le_refl _) _
  have b2 : Blk W2 p2 32 #[.int .i64 0, .int .i64 0, .int .i64 0, .int .i64 0, .int .i64 0, .int .i64 0, .int .i64 0, .int .i64 0, .int .i64 0, .int .i64 0, .int .i64 0, .int .i64 0, .int .i64 0, .int .i64 0, .int .i64 0, .int .i64 0, .int .i64 0, .int .i64 0, .slice none 0 0, .slice none 0 0, .slice none 0 0, .int .i64 0] := by rw [← ea2]; exact blk_new W1 _ 32 _ f2
  have q1_2 : p1 < p2 := by rw [← f2]; exact b1.lt
  replace b1 := b1.on ka2
  have kk0 := kk
  replace kk := kk.trans (ka2.mono kk.size)
  have hp2 : w.heap.size ≤ p2 := by rw [← f2]; exact kk0.size
  clear ka2 kk0
  have c2_1_18 : W2.cell? ⟨p1, 18, none⟩ = some (.slice x.se.A x.se.n x.se.cap) := b1.cell 18
  have kk0_3 := kk
  obtain ⟨p3, f3⟩ : ∃ p, W2.heap.size = p := ⟨_, rfl⟩
  obtain ⟨W3, ea3⟩ : ∃ W, W2.alloc (.cells #[.slice x.se.A x.se.n x.se.cap] 27) = W := ⟨_, rfl⟩
  have ka3 : Below W2.heap.size W2 W3 := by rw [← ea3]; exact (Below.refl _ W2).alloc (Nat.le_refl _) _
  have b3 : Blk W3 p3 27 #[.slice x.se.A x.se.n x.se.cap] := by rw [← ea3]; exact blk_new W2 _ 27 _ f3
  have q1_3 : p1 < p3 := by rw [← f3]; exact b1.lt
  replace b1 := b1.on ka3
  have q2_3 : p2 < p3 := by rw [← f3]; exact b2.lt
  replace b2 := b2.on ka3
  have kk0 := kk
  replace kk := kk.trans (ka3.mono kk.size)
  have hp3 : w.heap.size ≤ p3 := by rw [← f3]; exact kk0.size
  clear ka3 kk0
  have dd3 := concatI_one (headI_one (W := W3) f3 ea3.symm (h.on kk0_3).se) (by omega)
  go_enter Try.func15, Try.ntmps15
  go_wp2_with fail
  refine (dd3).mono ?_
  rintro e W4 ⟨A1, c1, rfl, o1, k3⟩
  clear c2_1_18
  replace o1 := own_mono o1 kk.size
  replace b1 := b1.on k3
  replace b2 := b2.on k3
  replace b3 := b3.on k3
  replace kk := kk.trans (k3.mono kk.size)
  clear k3
  clear dd3
  have c4_1_18 : W4.cell? ⟨p1, 18, none⟩ = some (.slice x.se.A x.se.n x.se.cap) := b1.cell 18
  have fr4_1_18 := b1.free 18
  obtain ⟨W5, es5⟩ : ∃ W, W4.setCell ⟨p1, 18, none⟩ (.slice A1 x.se.n c1) = W := ⟨_, rfl⟩
  replace o1 := set_own o1 b1 (by decide) es5
  replace b2 := set_far b2 es5 (by omega)
  replace b3 := set_far b3 es5 (by omega)
  replace b1 : Blk W5 p1 32 (x.put ⟨A1, x.se.n, c1⟩ x.bg x.sn).cs.toArray := set_named b1 es5 rfl
  replace kk := kk.trans (set_below es5 hp1 kk.size)
  have c5_1_19 : W5.cell? ⟨p1, 19, none⟩ = some (.slice x.bg.A x.bg.n x.bg.cap) := b1.cell 19
  have kk0_4 := kk
  obtain ⟨p4, f4⟩ : ∃ p, W5.heap.size = p := ⟨_, rfl⟩
  obtain ⟨W6, ea6⟩ : ∃ W, W5.alloc (.cells #[.slice x.bg.A x.bg.n x.bg.cap] 30) = W := ⟨_, rfl⟩
  have ka6 : Below W5.heap.size W5 W6 := by rw [← ea6]; exact (Below.refl _ W5).alloc (Nat.le_refl _) _
  have b4 : Blk W6 p4 30 #[.slice x.bg.A x.bg.n x.bg.cap] := by rw [← ea6]; exact blk_new W5 _ 30 _ f4
  have q1_4 : p1 < p4 := by rw [← f4]; exact b1.lt
  replace b1 := b1.on ka6
  have q2_4 : p2 < p4 := by rw [← f4]; exact b2.lt
  replace b2 := b2.on ka6
  have q3_4 : p3 < p4 := by rw [← f4]; exact b3.lt
  replace b3 := b3.on ka6
  replace o1 := ownB_below o1 ka6
  have kk0 := kk
  replace kk := kk.trans (ka6.mono kk.size)
  have hp4 : w.heap.size ≤ p4 := by rw [← f4]; exact kk0.size
  clear ka6 kk0
  have dd4 := concat_one (head_one (W := W6) f4 ea6.symm (h.on kk0_4).bg) (by omega)
  go_wp2_with fail
  refine (dd4).mono ?_
  rintro e W7 ⟨A2, c2, rfl, o2, k4⟩
  clear c4_1_18 fr4_1_18 c5_1_19
  replace o2 := own_mono o2 kk.size
  replace b1 := b1.on k4
  replace b2 := b2.on k4
  replace b3 := b3.on k4
  replace b4 := b4.on k4
  replace o1 := ownB_below o1 k4
  replace kk := kk.trans (k4.mono kk.size)
  clear k4
  clear dd4
  have c7_1_19 : W7.cell? ⟨p1, 19, none⟩ = some (.slice x.bg.A x.bg.n x.bg.cap) := b1.cell 19
  have fr7_1_19 := b1.free 19
  obtain ⟨W8, es8⟩ : ∃ W, W7.setCell ⟨p1, 19, none⟩ (.slice A2 x.bg.n c2) = W := ⟨_, rfl⟩
  replace o1 := set_own o1 b1 (by decide) es8
  replace o2 := set_own o2 b1 (by decide) es8
  replace b2 := set_far b2 es8 (by omega)
  replace b3 := set_far b3 es8 (by omega)
  replace b4 := set_far b4 es8 (by omega)
  replace b1 : Blk W8 p1 32 (x.put ⟨A1, x.se.n, c1⟩ ⟨A2, x.bg.n, c2⟩ x.sn).cs.toArray := set_named b1 es8 rfl
  replace kk := kk.trans (set_below es8 hp1 kk.size)
  have c8_1_20 : W8.cell? ⟨p1, 20, none⟩ = some (.slice x.sn.A x.sn.n x.sn.cap) := b1.cell 20
  have kk0_5 := kk
  obtain ⟨p5, f5⟩ : ∃ p, W8.heap.size = p := ⟨_, rfl⟩
  obtain ⟨W9, ea9⟩ : ∃ W, W8.alloc (.cells #[.slice x.sn.A x.sn.n x.sn.cap] 27) = W := ⟨_, rfl⟩
  have ka9 : Below W8.heap.size W8 W9 := by rw [← ea9]; exact (Below.refl _ W8).alloc (Nat.le_refl _) _
  have b5 : Blk W9 p5 27 #[.slice x.sn.A x.sn.n x.sn.cap] := by rw [← ea9]; exact blk_new W8 _ 27 _ f5
  have q1_5 : p1 < p5 := by rw [← f5]; exact b1.lt
  replace b1 := b1.on ka9
  have q2_5 : p2 < p5 := by rw [← f5]; exact b2.lt
  replace b2 := b2.on ka9
  have q3_5 : p3 < p5 := by rw [← f5]; exact b3.lt
  replace b3 := b3.on ka9
  have q4_5 : p4 < p5 := by rw [← f5]; exact b4.lt
  replace b4 := b4.on ka9
  replace o1 := ownB_below o1 ka9
  replace o2 := ownB_below o2 ka9
  have kk0 := kk
  replace kk := kk.trans (ka9.mono kk.size)
  have hp5 : w.heap.size ≤ p5 := by rw [← f5]; exact kk0.size
  clear ka9 kk0
  have dd5 := concatI_one (headI_one (W := W9) f5 ea9.symm (h.on kk0_5).sn) (by omega)
  go_wp2_with fail
  refine (dd5).mono ?_
  rintro e W10 ⟨A3, c3, rfl, o3, k5⟩
  clear c7_1_19 fr7_1_19 c8_1_20
  replace o3 := own_mono o3 kk.size
  replace b1 := b1.on k5
  replace b2 := b2.on k5
  replace b3 := b3.on k5
  replace b4 := b4.on k5
  replace b5 := b5.on k5
  replace o1 := ownB_below o1 k5
  replace o2 := ownB_below o2 k5
  replace kk := kk.trans (k5.mono kk.size)
  clear k5
  clear dd5
  have c10_1_20 : W10.cell? ⟨p1, 20, none⟩ = some (.slice x.sn.A x.sn.n x.sn.cap) := b1.cell 20
  have fr10_1_20 := b1.free 20
  obtain ⟨W11, es11⟩ : ∃ W, W10.setCell ⟨p1, 20, none⟩ (.slice A3 x.sn.n c3) = W := ⟨_, rfl⟩
  replace o1 := set_own o1 b1 (by decide) es11
  replace o2 := set_own o2 b1 (by decide) es11
  replace o3 := set_own o3 b1 (by decide) es11
  replace b2 := set_far b2 es11 (by omega)
  replace b3 := set_far b3 es11 (by omega)
  replace b4 := set_far b4 es11 (by omega)
  replace b5 := set_far b5 es11 (by omega)
  replace b1 : Blk W11 p1 32 (x.put ⟨A1, x.se.n, c1⟩ ⟨A2, x.bg.n, c2⟩ ⟨A3, x.sn.n, c3⟩).cs.toArray := set_named b1 es11 rfl
  replace kk := kk.trans (set_below es11 hp1 kk.size)
  have lb1 := b1
  obtain ⟨W12, es12⟩ : ∃ W, W11.setRow p2 (x.put ⟨A1, x.se.n, c1⟩ ⟨A2, x.bg.n, c2⟩ ⟨A3, x.sn.n, c3⟩).cs.toArray = W := ⟨_, rfl⟩
  have bo2 := b2
  replace o1 := row_own o1 b2 (by decide) es12
  replace o2 := row_own o2 b2 (by decide) es12
  replace o3 := row_own o3 b2 (by decide) es12
  replace b1 := row_far b1 es12 (by omega)
  replace b3 := row_far b3 es12 (by omega)
  replace b4 := row_far b4 es12 (by omega)
  replace b5 := row_far b5 es12 (by omega)
  replace b2 : Blk W12 p2 32 (x.put ⟨A1, x.se.n, c1⟩ ⟨A2, x.bg.n, c2⟩ ⟨A3, x.sn.n, c3⟩).cs.toArray := row_named b2 es12
  replace kk := kk.trans (row_below es12 hp2 kk.size)
  go_wp2_with (first | ((with_reducible refine at_load 32 (.tmp 1) ?_); refine wpList_load_row rfl 32 (.tmp 1) rfl p1 rfl 32 (x.put ⟨A1, x.se.n, c1⟩ ⟨A2, x.bg.n, c2⟩ ⟨A3, x.sn.n, c3⟩).cs.toArray (0, 0) _ lb1 Try.underlying32 rfl (sizeT _) ?_) | ((with_reducible refine at_store 32 (.tmp 2) (.tmp 20) ?_); refine wpList_store_row rfl 32 (.tmp 2) (.tmp 20) rfl p2 (x.put ⟨A1, x.se.n, c1⟩ ⟨A2, x.bg.n, c2⟩ ⟨A3, x.sn.n, c3⟩).cs.toArray rfl rfl 32 #[.int .i64 0, .int .i64 0, .int .i64 0, .int .i64 0, .int .i64 0, .int .i64 0, .int .i64 0, .int .i64 0, .int .i64 0, .int .i64 0, .int .i64 0, .int .i64 0, .int .i64 0, .int .i64 0, .int .i64 0, .int .i64 0, .int .i64 0, .int .i64 0, .slice none 0 0, .slice none 0 0, .slice none 0 0, .int .i64 0] bo2 (sizeT _) rfl (Th.onea _) ?_; rw [es12]))
  refine bodyPost_ret (results_cell_row (cs := (x.put ⟨A1, x.se.n, c1⟩ ⟨A2, x.bg.n, c2⟩ ⟨A3, x.sn.n, c3⟩).cs.toArray) rfl _ _ p2 32 (0, 0) _ rfl b2 Try.underlying32 rfl (sizeT _)) rfl ?_
  exact ⟨A1, c1, A2, c2, A3, c3, rfl, ⟨o1, o2, o3⟩, kk⟩
end Go.Proofs.Ytcajoekmigkhjaa
