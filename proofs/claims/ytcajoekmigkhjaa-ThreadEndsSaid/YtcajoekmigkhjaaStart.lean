/- A thread started, and begun. Conditions: at most a thousand elements in each list. -/
import Derived.Test.YtcajoekmigkhjaaOwn
namespace Go.Proofs.Ytcajoekmigkhjaa
open Go.RowKit Go.ChangeShapes Go.WideShapes Go.Great

/-- A thread at its beginning. -/
def begT (f : Int) : Th := { noT with fu := f }
set_option maxRecDepth 100000 in
set_option maxHeartbeats 4000000 in
theorem start_any {w : World} {x : Th} {z s : List Int} {l : List Bg} (h : Reads w x z l s) (h1 : x.se.n ≤ 1000) (h2 : x.bg.n ≤ 1000) (h3 : x.sn.n ≤ 1000) :
    Calls Try.prog 14 #[.agg x.cs.toArray] w fun e w' => ∃ A1 c1 A2 c2 A3 c3, e = .returned (.agg ((stT x).put ⟨A1, x.se.n, c1⟩ ⟨A2, x.bg.n, c2⟩ ⟨A3, x.sn.n, c3⟩).cs.toArray) ∧ Own w.heap.size w' (x.put ⟨A1, x.se.n, c1⟩ ⟨A2, x.bg.n, c2⟩ ⟨A3, x.sn.n, c3⟩) z l s ∧ Below w.heap.size w w' := by
  obtain ⟨p1, f1⟩ : ∃ p, w.heap.size = p := ⟨_, rfl⟩
  obtain ⟨W1, ea1⟩ : ∃ W, w.alloc (.cells x.cs.toArray 32) = W := ⟨_, rfl⟩
  have ka1 : Below w.heap.size w W1 := by rw [← ea1]; exact (Below.refl _ w).alloc (Nat.le_refl _) _
  have b1 : Blk W1 p1 32 x.cs.toArray := by rw [← ea1]; exact blk_new w _ 32 _ f1
  have kk : Below w.heap.size w W1 := ka1
  have hp1 : w.heap.size ≤ p1 := Nat.le_of_eq f1
  clear ka1
  obtain ⟨p2, f2⟩ : ∃ p, W1.heap.size = p := ⟨_, rfl⟩
  obtain ⟨W2, ea2⟩ : ∃ W, W1.alloc (.cells #[.int .i64 0, .int .i64 0, .int .i64 0, .int .i64 0, .int .i64 0, .int .i64 0, .int .i64 0, .int .i64 0, .int .i64 0, .int .i64 0, .int .i64 0, .int .i64 0, .int .i64 0, .int .i64 0, .int .i64 0, .int .i64 0, .int .i64 0, .int .i64 0, .slice none 0 0, .slice none 0 0, .slice none 0 0, .int .i64 0] 32) = W := ⟨_, rfl⟩
  have ka2 : Below W1.heap.size W1 W2 := by rw [← ea2]; exact (Below.refl _ W1).alloc (Nat.le_refl _) _
  have b2 : Blk W2 p2 32 #[.int .i64 0, .int .i64 0, .int .i64 0, .int .i64 0, .int .i64 0, .int .i64 0, .int .i64 0, .int .i64 0, .int .i64 0, .int .i64 0, .int .i64 0, .int .i64 0, .int .i64 0, .int .i64 0, .int .i64 0, .int .i64 0, .int .i64 0, .int .i64 0, .slice none 0 0, .slice none 0 0, .slice none 0 0, .int .i64 0] := by rw [← ea2]; exact blk_new W1 _ 32 _ f2
  have q1_2 : p1 < p2 := by rw [← f2]; exact b1.lt
  replace b1 := b1.on ka2
  have kk0 := kk
  replace kk := kk.trans (ka2.mono kk.size)
  have hp2 : w.heap.size ≤ p2 := by rw [← f2]; exact kk0.size
  clear ka2 kk0
  have d1 := clone_any (h.on kk) h1 h2 h3
  go_enter Try.func14, Try.ntmps14
  go_wp2_with (((with_reducible refine at_load 32 (.tmp 1) ?_); refine wpList_load_row rfl 32 (.tmp 1) rfl p1 rfl 32 x.cs.toArray (0, 0) _ b1 Try.underlying32 rfl (sizeT _) ?_))
  refine (d1).mono ?_
  rintro e W3 ⟨A1, c1, A2, c2, A3, c3, rfl, ⟨o1, o2, o3⟩, k1⟩
  replace o1 := own_mono o1 kk.size
  replace o2 := own_mono o2 kk.size
  replace o3 := own_mono o3 kk.size
  replace b1 := b1.on k1
  replace b2 := b2.on k1
  replace kk := kk.trans (k1.mono kk.size)
  clear k1
  clear d1
  obtain ⟨W4, es4⟩ : ∃ W, W3.setRow p1 (x.put ⟨A1, x.se.n, c1⟩ ⟨A2, x.bg.n, c2⟩ ⟨A3, x.sn.n, c3⟩).cs.toArray = W := ⟨_, rfl⟩
  have bo1 := b1
  replace o1 := row_own o1 b1 (by decide) es4
  replace o2 := row_own o2 b1 (by decide) es4
  replace o3 := row_own o3 b1 (by decide) es4
  replace b2 := row_far b2 es4 (by omega)
  replace b1 : Blk W4 p1 32 (x.put ⟨A1, x.se.n, c1⟩ ⟨A2, x.bg.n, c2⟩ ⟨A3, x.sn.n, c3⟩).cs.toArray := row_named b1 es4
  replace kk := kk.trans (row_below es4 hp1 kk.size)
  have bo1_ := bo1
  have fr4_1_1 := b1.free 1
  have c4_1_1 : W4.cell? ⟨p1, 1, none⟩ = some (.int .i64 x.fu) := b1.cell 1
  obtain ⟨W5, es5⟩ : ∃ W, W4.setCell ⟨p1, 1, none⟩ (.int .i64 (wrap64 (x.fu - 1))) = W := ⟨_, rfl⟩
  replace o1 := set_own o1 b1 (by decide) es5
  replace o2 := set_own o2 b1 (by decide) es5
  replace o3 := set_own o3 b1 (by decide) es5
  replace b2 := set_far b2 es5 (by omega)
  replace b1 : Blk W5 p1 32 ({ x.put ⟨A1, x.se.n, c1⟩ ⟨A2, x.bg.n, c2⟩ ⟨A3, x.sn.n, c3⟩ with fu := wrap64 (x.fu - 1) } : Th).cs.toArray := set_named b1 es5 rfl
  replace kk := kk.trans (set_below es5 hp1 kk.size)
  have fr5_1_0 := b1.free 0
  have c5_1_0 : W5.cell? ⟨p1, 0, none⟩ = some (.int .i64 x.pc) := b1.cell 0
  obtain ⟨W6, es6⟩ : ∃ W, W5.setCell ⟨p1, 0, none⟩ (.int .i64 (wrap64 (x.pc + 1))) = W := ⟨_, rfl⟩
  replace o1 := set_own o1 b1 (by decide) es6
  replace o2 := set_own o2 b1 (by decide) es6
  replace o3 := set_own o3 b1 (by decide) es6
  replace b2 := set_far b2 es6 (by omega)
  replace b1 : Blk W6 p1 32 ((stT x).put ⟨A1, x.se.n, c1⟩ ⟨A2, x.bg.n, c2⟩ ⟨A3, x.sn.n, c3⟩).cs.toArray := set_named b1 es6 rfl
  replace kk := kk.trans (set_below es6 hp1 kk.size)
  have lb1 := b1
  obtain ⟨W7, es7⟩ : ∃ W, W6.setRow p2 ((stT x).put ⟨A1, x.se.n, c1⟩ ⟨A2, x.bg.n, c2⟩ ⟨A3, x.sn.n, c3⟩).cs.toArray = W := ⟨_, rfl⟩
  have bo2 := b2
  replace o1 := row_own o1 b2 (by decide) es7
  replace o2 := row_own o2 b2 (by decide) es7
  replace o3 := row_own o3 b2 (by decide) es7
  replace b1 := row_far b1 es7 (by omega)
  replace b2 : Blk W7 p2 32 ((stT x).put ⟨A1, x.se.n, c1⟩ ⟨A2, x.bg.n, c2⟩ ⟨A3, x.sn.n, c3⟩).cs.toArray := row_named b2 es7
  replace kk := kk.trans (row_below es7 hp2 kk.size)
  go_wp2_with (first | ((with_reducible refine at_store 32 (.tmp 1) (.tmp 4) ?_); refine wpList_store_row rfl 32 (.tmp 1) (.tmp 4) rfl p1 (x.put ⟨A1, x.se.n, c1⟩ ⟨A2, x.bg.n, c2⟩ ⟨A3, x.sn.n, c3⟩).cs.toArray rfl rfl 32 x.cs.toArray bo1_ (sizeT _) rfl (Th.onea _) ?_; rw [es4]) | ((with_reducible refine at_load 32 (.tmp 1) ?_); refine wpList_load_row rfl 32 (.tmp 1) rfl p1 rfl 32 ((stT x).put ⟨A1, x.se.n, c1⟩ ⟨A2, x.bg.n, c2⟩ ⟨A3, x.sn.n, c3⟩).cs.toArray (0, 0) _ lb1 Try.underlying32 rfl (sizeT _) ?_) | ((with_reducible refine at_store 32 (.tmp 2) (.tmp 13) ?_); refine wpList_store_row rfl 32 (.tmp 2) (.tmp 13) rfl p2 ((stT x).put ⟨A1, x.se.n, c1⟩ ⟨A2, x.bg.n, c2⟩ ⟨A3, x.sn.n, c3⟩).cs.toArray rfl rfl 32 #[.int .i64 0, .int .i64 0, .int .i64 0, .int .i64 0, .int .i64 0, .int .i64 0, .int .i64 0, .int .i64 0, .int .i64 0, .int .i64 0, .int .i64 0, .int .i64 0, .int .i64 0, .int .i64 0, .int .i64 0, .int .i64 0, .int .i64 0, .int .i64 0, .slice none 0 0, .slice none 0 0, .slice none 0 0, .int .i64 0] bo2 (sizeT _) rfl (Th.onea _) ?_; rw [es7]))
  refine bodyPost_ret (results_cell_row (cs := ((stT x).put ⟨A1, x.se.n, c1⟩ ⟨A2, x.bg.n, c2⟩ ⟨A3, x.sn.n, c3⟩).cs.toArray) rfl _ _ p2 32 (0, 0) _ rfl b2 Try.underlying32 rfl (sizeT _)) rfl ?_
  exact ⟨A1, c1, A2, c2, A3, c3, rfl, ⟨o1, o2, o3⟩, kk⟩
set_option maxRecDepth 100000 in
set_option maxHeartbeats 4000000 in
theorem begin_any (c : Cf) (w : World) : Calls Try.prog 12 #[.agg c.cs.toArray] w fun e w' => e = .returned (.agg (begT (cl c.f 16)).cs.toArray) ∧ Below w.heap.size w w' := by
  obtain ⟨p1, f1⟩ : ∃ p, w.heap.size = p := ⟨_, rfl⟩
  obtain ⟨W1, ea1⟩ : ∃ W, w.alloc (.cells c.cs.toArray 23) = W := ⟨_, rfl⟩
  have ka1 : Below w.heap.size w W1 := by rw [← ea1]; exact (Below.refl _ w).alloc (Nat.le_refl _) _
  have b1 : Blk W1 p1 23 c.cs.toArray := by rw [← ea1]; exact blk_new w _ 23 _ f1
  have kk : Below w.heap.size w W1 := ka1
  have hp1 : w.heap.size ≤ p1 := Nat.le_of_eq f1
  clear ka1
  obtain ⟨p2, f2⟩ : ∃ p, W1.heap.size = p := ⟨_, rfl⟩
  obtain ⟨W2, ea2⟩ : ∃ W, W1.alloc (.cells #[.int .i64 0, .int .i64 0, .int .i64 0, .int .i64 0, .int .i64 0, .int .i64 0, .int .i64 0, .int .i64 0, .int .i64 0, .int .i64 0, .int .i64 0, .int .i64 0, .int .i64 0, .int .i64 0, .int .i64 0, .int .i64 0, .int .i64 0, .int .i64 0, .slice none 0 0, .slice none 0 0, .slice none 0 0, .int .i64 0] 32) = W := ⟨_, rfl⟩
  have ka2 : Below W1.heap.size W1 W2 := by rw [← ea2]; exact (Below.refl _ W1).alloc (Nat.le_refl _) _
  have b2 : Blk W2 p2 32 #[.int .i64 0, .int .i64 0, .int .i64 0, .int .i64 0, .int .i64 0, .int .i64 0, .int .i64 0, .int .i64 0, .int .i64 0, .int .i64 0, .int .i64 0, .int .i64 0, .int .i64 0, .int .i64 0, .int .i64 0, .int .i64 0, .int .i64 0, .int .i64 0, .slice none 0 0, .slice none 0 0, .slice none 0 0, .int .i64 0] := by rw [← ea2]; exact blk_new W1 _ 32 _ f2
  have q1_2 : p1 < p2 := by rw [← f2]; exact b1.lt
  replace b1 := b1.on ka2
  have kk0 := kk
  replace kk := kk.trans (ka2.mono kk.size)
  have hp2 : w.heap.size ≤ p2 := by rw [← f2]; exact kk0.size
  clear ka2 kk0
  have c2_1_3 : W2.cell? ⟨p1, 3, none⟩ = some (.int .i64 c.f) := b1.cell 3
  obtain ⟨W3, es3⟩ : ∃ W, W2.setRow p2 (begT (cl c.f 16)).cs.toArray = W := ⟨_, rfl⟩
  have bo2 := b2
  replace b1 := row_far b1 es3 (by omega)
  replace b2 : Blk W3 p2 32 (begT (cl c.f 16)).cs.toArray := row_named b2 es3
  replace kk := kk.trans (row_below es3 hp2 kk.size)
  go_enter Try.func12, Try.ntmps12
  go_wp2_with (first | (go_at_call 28; refine (clamp_any c.f 16 _).mono ?_; rintro e w' ⟨rfl, rfl⟩) | ((with_reducible refine at_store 32 (.tmp 2) (.tmp 6) ?_); refine wpList_store_row rfl 32 (.tmp 2) (.tmp 6) rfl p2 (begT (cl c.f 16)).cs.toArray rfl rfl 32 #[.int .i64 0, .int .i64 0, .int .i64 0, .int .i64 0, .int .i64 0, .int .i64 0, .int .i64 0, .int .i64 0, .int .i64 0, .int .i64 0, .int .i64 0, .int .i64 0, .int .i64 0, .int .i64 0, .int .i64 0, .int .i64 0, .int .i64 0, .int .i64 0, .slice none 0 0, .slice none 0 0, .slice none 0 0, .int .i64 0] bo2 (sizeT _) rfl (Th.onea _) ?_; rw [es3]))
  refine bodyPost_ret (results_cell_row (cs := (begT (cl c.f 16)).cs.toArray) rfl _ _ p2 32 (0, 0) _ rfl b2 Try.underlying32 rfl (sizeT _)) rfl ?_
  exact ⟨rfl, kk⟩
end Go.Proofs.Ytcajoekmigkhjaa
