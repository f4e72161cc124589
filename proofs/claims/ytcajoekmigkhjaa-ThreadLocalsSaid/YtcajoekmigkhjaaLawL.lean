/- Any thread, behind any instruction that touches nothing shared, is as told; of others it is as it was. Conditions: none. -/
import Derived.Test.YtcajoekmigkhjaaAlive
import Derived.Test.YtcajoekmigkhjaaRLocal
import Derived.Test.YtcajoekmigkhjaaSame
namespace Go.Proofs.Ytcajoekmigkhjaa
open Go.RowKit Go.ChangeShapes Go.WideShapes Go.Great

set_option maxRecDepth 100000 in
set_option maxHeartbeats 4000000 in
theorem locals_any {w : World} {x : Th} {z s : List Int} {l : List Bg} (i : Ins) (h : Reads w x z l s) : Calls Try.prog 6 #[.agg x.cs.toArray, .agg i.cs.toArray] w fun e w' => e = .returned (.bool true) ∧ Below w.heap.size w w' := by
  obtain ⟨p1, f1⟩ : ∃ p, w.heap.size = p := ⟨_, rfl⟩
  obtain ⟨W1, ea1⟩ : ∃ W, w.alloc (.cells x.cs.toArray 32) = W := ⟨_, rfl⟩
  have ka1 : Below w.heap.size w W1 := by rw [← ea1]; exact (Below.refl _ w).alloc (Nat.le_refl _) _
  have b1 : Blk W1 p1 32 x.cs.toArray := by rw [← ea1]; exact blk_new w _ 32 _ f1
  have kk : Below w.heap.size w W1 := ka1
  have hp1 : w.heap.size ≤ p1 := Nat.le_of_eq f1
  clear ka1
  obtain ⟨p2, f2⟩ : ∃ p, W1.heap.size = p := ⟨_, rfl⟩
  obtain ⟨W2, ea2⟩ : ∃ W, W1.alloc (.cells i.cs.toArray 42) = W := ⟨_, rfl⟩
  have ka2 : Below W1.heap.size W1 W2 := by rw [← ea2]; exact (Below.refl _ W1).alloc (Nat.le_refl _) _
  have b2 : Blk W2 p2 42 i.cs.toArray := by rw [← ea2]; exact blk_new W1 _ 42 _ f2
  have q1_2 : p1 < p2 := by rw [← f2]; exact b1.lt
  replace b1 := b1.on ka2
  have kk0 := kk
  replace kk := kk.trans (ka2.mono kk.size)
  have hp2 : w.heap.size ≤ p2 := by rw [← f2]; exact kk0.size
  clear ka2 kk0
  have hR0 := fewT_reads h
  have u1 : (fewT x).se.n ≤ 1000 := Nat.le_trans (Sl.cut_n _ 12) (by omega)
  have u2 : (fewT x).bg.n ≤ 1000 := Nat.le_trans (Sl.cut_n _ 12) (by omega)
  have u3 : (fewT x).sn.n ≤ 1000 := Nat.le_trans (Sl.cut_n _ 8) (by omega)
  go_enter Try.func6, Try.ntmps6
  go_wp2_with fail
  clear f1
  refine (alive_any _).mono ?_
  rintro e W3 ⟨rfl, k1⟩
  replace b1 := b1.on k1
  replace b2 := b2.on k1
  replace kk := kk.trans (k1.mono kk.size)
  clear k1
  have d1 := fewt_any (h.on kk)
  go_wp2_with (((with_reducible refine at_load 32 (.tmp 2) ?_); refine wpList_load_row rfl 32 (.tmp 2) rfl p1 rfl 32 x.cs.toArray (0, 0) _ b1 Try.underlying32 rfl (sizeT _) ?_))
  refine (d1).mono ?_
  rintro e W4 ⟨rfl, k1⟩
  replace b1 := b1.on k1
  replace b2 := b2.on k1
  replace kk := kk.trans (k1.mono kk.size)
  clear k1
  clear d1
  obtain ⟨W5, es5⟩ : ∃ W, W4.setRow p1 (fewT x).cs.toArray = W := ⟨_, rfl⟩
  have bo1 := b1
  replace b2 := row_far b2 es5 (by omega)
  replace b1 : Blk W5 p1 32 (fewT x).cs.toArray := row_named b1 es5
  replace kk := kk.trans (row_below es5 hp1 kk.size)
  have bo1_ := bo1
  have d1 := local_any i (hR0.on kk) u1 u2 u3
  go_wp2_with (first | ((with_reducible refine at_store 32 (.tmp 2) (.tmp 12) ?_); refine wpList_store_row rfl 32 (.tmp 2) (.tmp 12) rfl p1 (fewT x).cs.toArray rfl rfl 32 x.cs.toArray bo1_ (sizeT _) rfl (Th.onea _) ?_; rw [es5]) | ((with_reducible refine at_load 32 (.tmp 2) ?_); refine wpList_load_row rfl 32 (.tmp 2) rfl p1 rfl 32 (fewT x).cs.toArray (0, 0) _ b1 Try.underlying32 rfl (sizeT _) ?_) | ((with_reducible refine at_load 42 (.tmp 3) ?_); refine wpList_load_row rfl 42 (.tmp 3) rfl p2 rfl 42 i.cs.toArray (0, 0) _ b2 Try.underlying42 rfl size42 ?_))
  refine (d1).mono ?_
  rintro e W6 ⟨A1, ac1, A2, ac2, A3, ac3, rfl, ⟨o1, o2, o3⟩, k2⟩
  replace o1 := own_mono o1 kk.size
  replace o2 := own_mono o2 kk.size
  replace o3 := own_mono o3 kk.size
  replace b1 := b1.on k2
  replace b2 := b2.on k2
  replace kk := kk.trans (k2.mono kk.size)
  clear k2
  clear d1
  skip
  obtain ⟨p3, f3⟩ : ∃ p, W6.heap.size = p := ⟨_, rfl⟩
  obtain ⟨W7, ea7⟩ : ∃ W, W6.alloc (.cells #[.int .i64 0, .int .i64 0, .int .i64 0, .int .i64 0, .int .i64 0, .int .i64 0, .int .i64 0, .int .i64 0, .int .i64 0, .int .i64 0, .int .i64 0, .int .i64 0, .int .i64 0, .int .i64 0, .int .i64 0, .int .i64 0, .int .i64 0, .int .i64 0, .slice none 0 0, .slice none 0 0, .slice none 0 0, .int .i64 0] 32) = W := ⟨_, rfl⟩
  have ka7 : Below W6.heap.size W6 W7 := by rw [← ea7]; exact (Below.refl _ W6).alloc (Nat.le_refl _) _
  have b3 : Blk W7 p3 32 #[.int .i64 0, .int .i64 0, .int .i64 0, .int .i64 0, .int .i64 0, .int .i64 0, .int .i64 0, .int .i64 0, .int .i64 0, .int .i64 0, .int .i64 0, .int .i64 0, .int .i64 0, .int .i64 0, .int .i64 0, .int .i64 0, .int .i64 0, .int .i64 0, .slice none 0 0, .slice none 0 0, .slice none 0 0, .int .i64 0] := by rw [← ea7]; exact blk_new W6 _ 32 _ f3
  have q1_3 : p1 < p3 := by rw [← f3]; exact b1.lt
  replace b1 := b1.on ka7
  have q2_3 : p2 < p3 := by rw [← f3]; exact b2.lt
  replace b2 := b2.on ka7
  replace o1 := ownB_below o1 ka7
  replace o2 := ownB_below o2 ka7
  replace o3 := ownB_below o3 ka7
  have kk0 := kk
  replace kk := kk.trans (ka7.mono kk.size)
  have hp3 : w.heap.size ≤ p3 := by rw [← f3]; exact kk0.size
  clear ka7 kk0
  obtain ⟨W8, es8⟩ : ∃ W, W7.setRow p3 ((locT (fewT x) i).put ⟨A1, (fewT x).se.n, ac1⟩ ⟨A2, (fewT x).bg.n, ac2⟩ ⟨A3, (fewT x).sn.n, ac3⟩).cs.toArray = W := ⟨_, rfl⟩
  have bo3 := b3
  replace o1 := row_own o1 b3 (by decide) es8
  replace o2 := row_own o2 b3 (by decide) es8
  replace o3 := row_own o3 b3 (by decide) es8
  replace b1 := row_far b1 es8 (by omega)
  replace b2 := row_far b2 es8 (by omega)
  replace b3 : Blk W8 p3 32 ((locT (fewT x) i).put ⟨A1, (fewT x).se.n, ac1⟩ ⟨A2, (fewT x).bg.n, ac2⟩ ⟨A3, (fewT x).sn.n, ac3⟩).cs.toArray := row_named b3 es8
  replace kk := kk.trans (row_below es8 hp3 kk.size)
  have bo3_ := bo3
  have d1 := rlocal_any i (hR0.on kk) u1 u2 u3
  go_wp2_with (first | ((with_reducible refine at_store 32 (.tmp 5) (.tmp 17) ?_); refine wpList_store_row rfl 32 (.tmp 5) (.tmp 17) rfl p3 ((locT (fewT x) i).put ⟨A1, (fewT x).se.n, ac1⟩ ⟨A2, (fewT x).bg.n, ac2⟩ ⟨A3, (fewT x).sn.n, ac3⟩).cs.toArray rfl rfl 32 #[.int .i64 0, .int .i64 0, .int .i64 0, .int .i64 0, .int .i64 0, .int .i64 0, .int .i64 0, .int .i64 0, .int .i64 0, .int .i64 0, .int .i64 0, .int .i64 0, .int .i64 0, .int .i64 0, .int .i64 0, .int .i64 0, .int .i64 0, .int .i64 0, .slice none 0 0, .slice none 0 0, .slice none 0 0, .int .i64 0] bo3_ (sizeT _) rfl (Th.onea _) ?_; rw [es8]) | ((with_reducible refine at_load 32 (.tmp 2) ?_); refine wpList_load_row rfl 32 (.tmp 2) rfl p1 rfl 32 (fewT x).cs.toArray (0, 0) _ b1 Try.underlying32 rfl (sizeT _) ?_) | ((with_reducible refine at_load 42 (.tmp 3) ?_); refine wpList_load_row rfl 42 (.tmp 3) rfl p2 rfl 42 i.cs.toArray (0, 0) _ b2 Try.underlying42 rfl size42 ?_))
  refine (d1).mono ?_
  rintro e W9 ⟨D1, dc1, D2, dc2, D3, dc3, rfl, ⟨g1, g2, g3⟩, k3⟩
  replace g1 := own_mono g1 kk.size
  replace g2 := own_mono g2 kk.size
  replace g3 := own_mono g3 kk.size
  replace b1 := b1.on k3
  replace b2 := b2.on k3
  replace b3 := b3.on k3
  replace o1 := ownB_below o1 k3
  replace o2 := ownB_below o2 k3
  replace o3 := ownB_below o3 k3
  replace kk := kk.trans (k3.mono kk.size)
  clear k3
  clear d1
  obtain ⟨p4, f4⟩ : ∃ p, W9.heap.size = p := ⟨_, rfl⟩
  obtain ⟨W10, ea10⟩ : ∃ W, W9.alloc (.cells #[.int .i64 0, .int .i64 0, .int .i64 0, .int .i64 0, .int .i64 0, .int .i64 0, .int .i64 0, .int .i64 0, .int .i64 0, .int .i64 0, .int .i64 0, .int .i64 0, .int .i64 0, .int .i64 0, .int .i64 0, .int .i64 0, .int .i64 0, .int .i64 0, .slice none 0 0, .slice none 0 0, .slice none 0 0, .int .i64 0] 32) = W := ⟨_, rfl⟩
  have ka10 : Below W9.heap.size W9 W10 := by rw [← ea10]; exact (Below.refl _ W9).alloc (Nat.le_refl _) _
  have b4 : Blk W10 p4 32 #[.int .i64 0, .int .i64 0, .int .i64 0, .int .i64 0, .int .i64 0, .int .i64 0, .int .i64 0, .int .i64 0, .int .i64 0, .int .i64 0, .int .i64 0, .int .i64 0, .int .i64 0, .int .i64 0, .int .i64 0, .int .i64 0, .int .i64 0, .int .i64 0, .slice none 0 0, .slice none 0 0, .slice none 0 0, .int .i64 0] := by rw [← ea10]; exact blk_new W9 _ 32 _ f4
  have q1_4 : p1 < p4 := by rw [← f4]; exact b1.lt
  replace b1 := b1.on ka10
  have q2_4 : p2 < p4 := by rw [← f4]; exact b2.lt
  replace b2 := b2.on ka10
  have q3_4 : p3 < p4 := by rw [← f4]; exact b3.lt
  replace b3 := b3.on ka10
  replace o1 := ownB_below o1 ka10
  replace o2 := ownB_below o2 ka10
  replace o3 := ownB_below o3 ka10
  replace g1 := ownB_below g1 ka10
  replace g2 := ownB_below g2 ka10
  replace g3 := ownB_below g3 ka10
  have kk0 := kk
  replace kk := kk.trans (ka10.mono kk.size)
  have hp4 : w.heap.size ≤ p4 := by rw [← f4]; exact kk0.size
  clear ka10 kk0
  obtain ⟨W11, es11⟩ : ∃ W, W10.setRow p4 ((locT (fewT x) i).put ⟨D1, (fewT x).se.n, dc1⟩ ⟨D2, (fewT x).bg.n, dc2⟩ ⟨D3, (fewT x).sn.n, dc3⟩).cs.toArray = W := ⟨_, rfl⟩
  have bo4 := b4
  replace o1 := row_own o1 b4 (by decide) es11
  replace o2 := row_own o2 b4 (by decide) es11
  replace o3 := row_own o3 b4 (by decide) es11
  replace g1 := row_own g1 b4 (by decide) es11
  replace g2 := row_own g2 b4 (by decide) es11
  replace g3 := row_own g3 b4 (by decide) es11
  replace b1 := row_far b1 es11 (by omega)
  replace b2 := row_far b2 es11 (by omega)
  replace b3 := row_far b3 es11 (by omega)
  replace b4 : Blk W11 p4 32 ((locT (fewT x) i).put ⟨D1, (fewT x).se.n, dc1⟩ ⟨D2, (fewT x).bg.n, dc2⟩ ⟨D3, (fewT x).sn.n, dc3⟩).cs.toArray := row_named b4 es11
  replace kk := kk.trans (row_below es11 hp4 kk.size)
  have bo4_ := bo4
  have r1 : Reads W11 ((locT (fewT x) i).put ⟨A1, (fewT x).se.n, ac1⟩ ⟨A2, (fewT x).bg.n, ac2⟩ ⟨A3, (fewT x).sn.n, ac3⟩) (z.take 12) (l.take 12) (s.take 8) := ⟨own_seesI o1, own_seesB o2, own_seesI o3⟩
  have r2 : Reads W11 ((locT (fewT x) i).put ⟨D1, (fewT x).se.n, dc1⟩ ⟨D2, (fewT x).bg.n, dc2⟩ ⟨D3, (fewT x).sn.n, dc3⟩) (z.take 12) (l.take 12) (s.take 8) := ⟨own_seesI g1, own_seesB g2, own_seesI g3⟩
  have d1 : Calls Try.prog 11 #[.agg ((locT (fewT x) i).put ⟨A1, (fewT x).se.n, ac1⟩ ⟨A2, (fewT x).bg.n, ac2⟩ ⟨A3, (fewT x).sn.n, ac3⟩).cs.toArray, .agg ((locT (fewT x) i).put ⟨D1, (fewT x).se.n, dc1⟩ ⟨D2, (fewT x).bg.n, dc2⟩ ⟨D3, (fewT x).sn.n, dc3⟩).cs.toArray] W11 fun e w' => e = .returned (.bool true) ∧ Below W11.heap.size W11 w' := thread_same (A1 := D1) (c1 := dc1) (A2 := D2) (c2 := dc2) (A3 := D3) (c3 := dc3) r1 r2
  clear r1 r2 o1 o2 o3 g1 g2 g3
  go_wp2_with (first | ((with_reducible refine at_store 32 (.tmp 7) (.tmp 23) ?_); refine wpList_store_row rfl 32 (.tmp 7) (.tmp 23) rfl p4 ((locT (fewT x) i).put ⟨D1, (fewT x).se.n, dc1⟩ ⟨D2, (fewT x).bg.n, dc2⟩ ⟨D3, (fewT x).sn.n, dc3⟩).cs.toArray rfl rfl 32 #[.int .i64 0, .int .i64 0, .int .i64 0, .int .i64 0, .int .i64 0, .int .i64 0, .int .i64 0, .int .i64 0, .int .i64 0, .int .i64 0, .int .i64 0, .int .i64 0, .int .i64 0, .int .i64 0, .int .i64 0, .int .i64 0, .int .i64 0, .int .i64 0, .slice none 0 0, .slice none 0 0, .slice none 0 0, .int .i64 0] bo4_ (sizeT _) rfl (Th.onea _) ?_; rw [es11]) | ((with_reducible refine at_load 32 (.tmp 5) ?_); refine wpList_load_row rfl 32 (.tmp 5) rfl p3 rfl 32 ((locT (fewT x) i).put ⟨A1, (fewT x).se.n, ac1⟩ ⟨A2, (fewT x).bg.n, ac2⟩ ⟨A3, (fewT x).sn.n, ac3⟩).cs.toArray (0, 0) _ b3 Try.underlying32 rfl (sizeT _) ?_) | ((with_reducible refine at_load 32 (.tmp 7) ?_); refine wpList_load_row rfl 32 (.tmp 7) rfl p4 rfl 32 ((locT (fewT x) i).put ⟨D1, (fewT x).se.n, dc1⟩ ⟨D2, (fewT x).bg.n, dc2⟩ ⟨D3, (fewT x).sn.n, dc3⟩).cs.toArray (0, 0) _ b4 Try.underlying32 rfl (sizeT _) ?_))
  refine (d1).mono ?_
  rintro e W12 ⟨rfl, k4⟩
  replace b1 := b1.on k4
  replace b2 := b2.on k4
  replace b3 := b3.on k4
  replace b4 := b4.on k4
  replace kk := kk.trans (k4.mono kk.size)
  clear k4
  generalize locB i = lb
  go_wp2_with fail
  go_ret
  exact ⟨rfl, kk⟩
end Go.Proofs.Ytcajoekmigkhjaa
