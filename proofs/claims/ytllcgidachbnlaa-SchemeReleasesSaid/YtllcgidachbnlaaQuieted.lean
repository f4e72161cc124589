/- A thread that has just been quiet. Conditions: at most a thousand elements. -/
import Derived.Test.YtllcgidachbnlaaBegin
import Derived.Test.YtllcgidachbnlaaFew
namespace Go.Proofs.Ytllcgidachbnlaa
open Go.RowKit Go.ChangeShapes Go.WideShapes Go.Great

section
variable {w W : World} {g o B : Nat} {t t' : TypeId} {cs cs' : Array Value} {vs : List Value}
theorem mid_named (h : Blk w g t cs) (e : w.setCells g o vs = W) (hc : splice cs o vs = cs') : Blk W g t cs' := by
  subst e hc
  exact heap_cells vs o w cs h
theorem mid_far {g' : Nat} (h : Blk w g' t cs) (e : w.setCells g o vs = W) (hne : g' ≠ g) : Blk W g' t cs := by
  subst e
  exact h.kept (kept_cells g vs o w) hne
theorem mid_below (e : w.setCells g o vs = W) (hB : B ≤ g) (hs : B ≤ w.heap.size) : Below B w W := by
  subst e
  exact (kept_cells g vs o w).under B hs (fun k hk => by rw [hk]; exact hB)
theorem mid_own {k n cap : Nat} {A : Option Addr} {us : List Value} (h : w.ownsRow B t k (.slice A n cap) n us) (hb : Blk w g t' cs) (ht : t ≠ t') (e : w.setCells g o vs = W) : W.ownsRow B t k (.slice A n cap) n us := by
  subst e
  exact h.kept (row := some g) ((kept_cells g vs o w).grown (some g) (fun k hk => by rw [hk])) (own_blocks h hb ht)
end
/-- With another micro. -/
def Th.wm (x : Th) (m : Mi) : Th := { x with k := m.k, i := m.i, n := m.n, se := m.se }
set_option maxRecDepth 100000 in
set_option maxHeartbeats 4000000 in
theorem quieted_off {w : World} {x : Th} {z s : List Int} {l : List Bg} (c : Cf) (h : Reads w x z l s) (h1 : x.se.n ≤ 1000) (h2 : x.bg.n ≤ 1000) (h3 : x.sn.n ≤ 1000) (hq : ¬ c.c = 3) :
    Calls Try.prog 13 #[.agg c.cs.toArray, .agg x.cs.toArray] w fun e w' => ∃ A1 c1 A2 c2 A3 c3, e = .returned (.agg (x.put ⟨A1, x.se.n, c1⟩ ⟨A2, x.bg.n, c2⟩ ⟨A3, x.sn.n, c3⟩).cs.toArray) ∧ Own w.heap.size w' (x.put ⟨A1, x.se.n, c1⟩ ⟨A2, x.bg.n, c2⟩ ⟨A3, x.sn.n, c3⟩) z l s ∧ Below w.heap.size w w' := by
  obtain ⟨p1, f1⟩ : ∃ p, w.heap.size = p := ⟨_, rfl⟩
  obtain ⟨W1, ea1⟩ : ∃ W, w.alloc (.cells c.cs.toArray 26) = W := ⟨_, rfl⟩
  have ka1 : Below w.heap.size w W1 := by rw [← ea1]; exact (Below.refl _ w).alloc (Nat.le_refl _) _
  have b1 : Blk W1 p1 26 c.cs.toArray := by rw [← ea1]; exact blk_new w _ 26 _ f1
  have kk : Below w.heap.size w W1 := ka1
  have hp1 : w.heap.size ≤ p1 := Nat.le_of_eq f1
  clear ka1
  obtain ⟨p2, f2⟩ : ∃ p, W1.heap.size = p := ⟨_, rfl⟩
  obtain ⟨W2, ea2⟩ : ∃ W, W1.alloc (.cells x.cs.toArray 35) = W := ⟨_, rfl⟩
  have ka2 : Below W1.heap.size W1 W2 := by rw [← ea2]; exact (Below.refl _ W1).alloc (Nat.le_refl _) _
  have b2 : Blk W2 p2 35 x.cs.toArray := by rw [← ea2]; exact blk_new W1 _ 35 _ f2
  have q1_2 : p1 < p2 := by rw [← f2]; exact b1.lt
  replace b1 := b1.on ka2
  have kk0 := kk
  replace kk := kk.trans (ka2.mono kk.size)
  have hp2 : w.heap.size ≤ p2 := by rw [← f2]; exact kk0.size
  clear ka2 kk0
  obtain ⟨p3, f3⟩ : ∃ p, W2.heap.size = p := ⟨_, rfl⟩
  obtain ⟨W3, ea3⟩ : ∃ W, W2.alloc (.cells #[.int .i64 0, .int .i64 0, .int .i64 0, .int .i64 0, .int .i64 0, .int .i64 0, .int .i64 0, .int .i64 0, .int .i64 0, .int .i64 0, .int .i64 0, .int .i64 0, .int .i64 0, .int .i64 0, .int .i64 0, .int .i64 0, .int .i64 0, .int .i64 0, .slice none 0 0, .slice none 0 0, .slice none 0 0, .int .i64 0] 35) = W := ⟨_, rfl⟩
  have ka3 : Below W2.heap.size W2 W3 := by rw [← ea3]; exact (Below.refl _ W2).alloc (Nat.le_refl _) _
  have b3 : Blk W3 p3 35 #[.int .i64 0, .int .i64 0, .int .i64 0, .int .i64 0, .int .i64 0, .int .i64 0, .int .i64 0, .int .i64 0, .int .i64 0, .int .i64 0, .int .i64 0, .int .i64 0, .int .i64 0, .int .i64 0, .int .i64 0, .int .i64 0, .int .i64 0, .int .i64 0, .slice none 0 0, .slice none 0 0, .slice none 0 0, .int .i64 0] := by rw [← ea3]; exact blk_new W2 _ 35 _ f3
  have q1_3 : p1 < p3 := by rw [← f3]; exact b1.lt
  replace b1 := b1.on ka3
  have q2_3 : p2 < p3 := by rw [← f3]; exact b2.lt
  replace b2 := b2.on ka3
  have kk0 := kk
  replace kk := kk.trans (ka3.mono kk.size)
  have hp3 : w.heap.size ≤ p3 := by rw [← f3]; exact kk0.size
  clear ka3 kk0
  have hk := h.ok
  have d1 := apart_any (h.on kk) h1 h2 h3
  go_enter Try.func13, Try.ntmps13
  go_wp2_with (((with_reducible refine at_load 35 (.tmp 3) ?_); refine wpList_load_row rfl 35 (.tmp 3) rfl p2 rfl 35 x.cs.toArray (0, 0) _ b2 Try.underlying35 rfl (sizeT _) ?_))
  refine (d1).mono ?_
  rintro e W4 ⟨A1, c1, A2, c2, A3, c3, rfl, ⟨o1, o2, o3⟩, k1⟩
  replace o1 := own_mono o1 kk.size
  replace o2 := own_mono o2 kk.size
  replace o3 := own_mono o3 kk.size
  replace b1 := b1.on k1
  replace b2 := b2.on k1
  replace b3 := b3.on k1
  replace kk := kk.trans (k1.mono kk.size)
  clear k1
  clear d1
  obtain ⟨W5, es5⟩ : ∃ W, W4.setRow p2 (x.put ⟨A1, x.se.n, c1⟩ ⟨A2, x.bg.n, c2⟩ ⟨A3, x.sn.n, c3⟩).cs.toArray = W := ⟨_, rfl⟩
  have bo2 := b2
  replace o1 := row_own o1 b2 (by decide) es5
  replace o2 := row_own o2 b2 (by decide) es5
  replace o3 := row_own o3 b2 (by decide) es5
  replace b1 := row_far b1 es5 (by omega)
  replace b3 := row_far b3 es5 (by omega)
  replace b2 : Blk W5 p2 35 (x.put ⟨A1, x.se.n, c1⟩ ⟨A2, x.bg.n, c2⟩ ⟨A3, x.sn.n, c3⟩).cs.toArray := row_named b2 es5
  replace kk := kk.trans (row_below es5 hp2 kk.size)
  have c5_1_0 : W5.cell? ⟨p1, 0, none⟩ = some (.int .i64 c.c) := b1.cell 0
  have d2 := fun W => has_any (x.put ⟨A1, x.se.n, c1⟩ ⟨A2, x.bg.n, c2⟩ ⟨A3, x.sn.n, c3⟩) ⟨hk.se, hk.bg, hk.sn⟩ W
  have t1 : (c.c == 3) = false := by simpa using hq
  have lb := b2
  obtain ⟨W6, es6⟩ : ∃ W, W5.setRow p3 (x.put ⟨A1, x.se.n, c1⟩ ⟨A2, x.bg.n, c2⟩ ⟨A3, x.sn.n, c3⟩).cs.toArray = W := ⟨_, rfl⟩
  have bo3 := b3
  replace o1 := row_own o1 b3 (by decide) es6
  replace o2 := row_own o2 b3 (by decide) es6
  replace o3 := row_own o3 b3 (by decide) es6
  replace b1 := row_far b1 es6 (by omega)
  replace b2 := row_far b2 es6 (by omega)
  replace b3 : Blk W6 p3 35 (x.put ⟨A1, x.se.n, c1⟩ ⟨A2, x.bg.n, c2⟩ ⟨A3, x.sn.n, c3⟩).cs.toArray := row_named b3 es6
  replace kk := kk.trans (row_below es6 hp3 kk.size)
  go_wp2_with (first | ((with_reducible refine at_store 35 (.tmp 3) (.tmp 6) ?_); refine wpList_store_row rfl 35 (.tmp 3) (.tmp 6) rfl p2 (x.put ⟨A1, x.se.n, c1⟩ ⟨A2, x.bg.n, c2⟩ ⟨A3, x.sn.n, c3⟩).cs.toArray rfl rfl 35 x.cs.toArray bo2 (sizeT _) rfl (Th.onea _) ?_) | ((with_reducible refine at_load 35 (.tmp 3) ?_); refine wpList_load_row rfl 35 (.tmp 3) rfl p2 rfl 35 (x.put ⟨A1, x.se.n, c1⟩ ⟨A2, x.bg.n, c2⟩ ⟨A3, x.sn.n, c3⟩).cs.toArray (0, 0) _ lb Try.underlying35 rfl (sizeT _) ?_) | ((with_reducible refine at_store 35 (.tmp 4) (.tmp 16) ?_); refine wpList_store_row rfl 35 (.tmp 4) (.tmp 16) rfl p3 (x.put ⟨A1, x.se.n, c1⟩ ⟨A2, x.bg.n, c2⟩ ⟨A3, x.sn.n, c3⟩).cs.toArray rfl rfl 35 #[.int .i64 0, .int .i64 0, .int .i64 0, .int .i64 0, .int .i64 0, .int .i64 0, .int .i64 0, .int .i64 0, .int .i64 0, .int .i64 0, .int .i64 0, .int .i64 0, .int .i64 0, .int .i64 0, .int .i64 0, .int .i64 0, .int .i64 0, .int .i64 0, .slice none 0 0, .slice none 0 0, .slice none 0 0, .int .i64 0] bo3 (sizeT _) rfl (Th.onea _) ?_))
  try rw [es6]
  refine bodyPost_ret (results_cell_row (cs := (x.put ⟨A1, x.se.n, c1⟩ ⟨A2, x.bg.n, c2⟩ ⟨A3, x.sn.n, c3⟩).cs.toArray) rfl _ _ p3 35 (0, 0) _ rfl b3 Try.underlying35 rfl (sizeT _)) rfl ?_
  first | exact ⟨A1, c1, A2, c2, A3, c3, rfl, ⟨o1, o2, o3⟩, kk⟩ | (rw [f1] at kk o1 o2 o3; exact ⟨A1, c1, A2, c2, A3, c3, rfl, ⟨o1, o2, o3⟩, kk⟩) | (subst f1; exact ⟨A1, c1, A2, c2, A3, c3, rfl, ⟨o1, o2, o3⟩, kk⟩)
set_option maxRecDepth 100000 in
set_option maxHeartbeats 4000000 in
theorem quieted_not {w : World} {x : Th} {z s : List Int} {l : List Bg} (c : Cf) (h : Reads w x z l s) (h1 : x.se.n ≤ 1000) (h2 : x.bg.n ≤ 1000) (h3 : x.sn.n ≤ 1000) (hq : c.c = 3) (ht : ¬ 0 < x.sn.n) :
    Calls Try.prog 13 #[.agg c.cs.toArray, .agg x.cs.toArray] w fun e w' => ∃ A1 c1 A2 c2 A3 c3, e = .returned (.agg (x.put ⟨A1, x.se.n, c1⟩ ⟨A2, x.bg.n, c2⟩ ⟨A3, x.sn.n, c3⟩).cs.toArray) ∧ Own w.heap.size w' (x.put ⟨A1, x.se.n, c1⟩ ⟨A2, x.bg.n, c2⟩ ⟨A3, x.sn.n, c3⟩) z l s ∧ Below w.heap.size w w' := by
  obtain ⟨p1, f1⟩ : ∃ p, w.heap.size = p := ⟨_, rfl⟩
  obtain ⟨W1, ea1⟩ : ∃ W, w.alloc (.cells c.cs.toArray 26) = W := ⟨_, rfl⟩
  have ka1 : Below w.heap.size w W1 := by rw [← ea1]; exact (Below.refl _ w).alloc (Nat.le_refl _) _
  have b1 : Blk W1 p1 26 c.cs.toArray := by rw [← ea1]; exact blk_new w _ 26 _ f1
  have kk : Below w.heap.size w W1 := ka1
  have hp1 : w.heap.size ≤ p1 := Nat.le_of_eq f1
  clear ka1
  obtain ⟨p2, f2⟩ : ∃ p, W1.heap.size = p := ⟨_, rfl⟩
  obtain ⟨W2, ea2⟩ : ∃ W, W1.alloc (.cells x.cs.toArray 35) = W := ⟨_, rfl⟩
  have ka2 : Below W1.heap.size W1 W2 := by rw [← ea2]; exact (Below.refl _ W1).alloc (Nat.le_refl _) _
  have b2 : Blk W2 p2 35 x.cs.toArray := by rw [← ea2]; exact blk_new W1 _ 35 _ f2
  have q1_2 : p1 < p2 := by rw [← f2]; exact b1.lt
  replace b1 := b1.on ka2
  have kk0 := kk
  replace kk := kk.trans (ka2.mono kk.size)
  have hp2 : w.heap.size ≤ p2 := by rw [← f2]; exact kk0.size
  clear ka2 kk0
  obtain ⟨p3, f3⟩ : ∃ p, W2.heap.size = p := ⟨_, rfl⟩
  obtain ⟨W3, ea3⟩ : ∃ W, W2.alloc (.cells #[.int .i64 0, .int .i64 0, .int .i64 0, .int .i64 0, .int .i64 0, .int .i64 0, .int .i64 0, .int .i64 0, .int .i64 0, .int .i64 0, .int .i64 0, .int .i64 0, .int .i64 0, .int .i64 0, .int .i64 0, .int .i64 0, .int .i64 0, .int .i64 0, .slice none 0 0, .slice none 0 0, .slice none 0 0, .int .i64 0] 35) = W := ⟨_, rfl⟩
  have ka3 : Below W2.heap.size W2 W3 := by rw [← ea3]; exact (Below.refl _ W2).alloc (Nat.le_refl _) _
  have b3 : Blk W3 p3 35 #[.int .i64 0, .int .i64 0, .int .i64 0, .int .i64 0, .int .i64 0, .int .i64 0, .int .i64 0, .int .i64 0, .int .i64 0, .int .i64 0, .int .i64 0, .int .i64 0, .int .i64 0, .int .i64 0, .int .i64 0, .int .i64 0, .int .i64 0, .int .i64 0, .slice none 0 0, .slice none 0 0, .slice none 0 0, .int .i64 0] := by rw [← ea3]; exact blk_new W2 _ 35 _ f3
  have q1_3 : p1 < p3 := by rw [← f3]; exact b1.lt
  replace b1 := b1.on ka3
  have q2_3 : p2 < p3 := by rw [← f3]; exact b2.lt
  replace b2 := b2.on ka3
  have kk0 := kk
  replace kk := kk.trans (ka3.mono kk.size)
  have hp3 : w.heap.size ≤ p3 := by rw [← f3]; exact kk0.size
  clear ka3 kk0
  have hk := h.ok
  have d1 := apart_any (h.on kk) h1 h2 h3
  go_enter Try.func13, Try.ntmps13
  go_wp2_with (((with_reducible refine at_load 35 (.tmp 3) ?_); refine wpList_load_row rfl 35 (.tmp 3) rfl p2 rfl 35 x.cs.toArray (0, 0) _ b2 Try.underlying35 rfl (sizeT _) ?_))
  refine (d1).mono ?_
  rintro e W4 ⟨A1, c1, A2, c2, A3, c3, rfl, ⟨o1, o2, o3⟩, k1⟩
  replace o1 := own_mono o1 kk.size
  replace o2 := own_mono o2 kk.size
  replace o3 := own_mono o3 kk.size
  replace b1 := b1.on k1
  replace b2 := b2.on k1
  replace b3 := b3.on k1
  replace kk := kk.trans (k1.mono kk.size)
  clear k1
  clear d1
  obtain ⟨W5, es5⟩ : ∃ W, W4.setRow p2 (x.put ⟨A1, x.se.n, c1⟩ ⟨A2, x.bg.n, c2⟩ ⟨A3, x.sn.n, c3⟩).cs.toArray = W := ⟨_, rfl⟩
  have bo2 := b2
  replace o1 := row_own o1 b2 (by decide) es5
  replace o2 := row_own o2 b2 (by decide) es5
  replace o3 := row_own o3 b2 (by decide) es5
  replace b1 := row_far b1 es5 (by omega)
  replace b3 := row_far b3 es5 (by omega)
  replace b2 : Blk W5 p2 35 (x.put ⟨A1, x.se.n, c1⟩ ⟨A2, x.bg.n, c2⟩ ⟨A3, x.sn.n, c3⟩).cs.toArray := row_named b2 es5
  replace kk := kk.trans (row_below es5 hp2 kk.size)
  have c5_1_0 : W5.cell? ⟨p1, 0, none⟩ = some (.int .i64 c.c) := b1.cell 0
  have d2 := fun W => has_any (x.put ⟨A1, x.se.n, c1⟩ ⟨A2, x.bg.n, c2⟩ ⟨A3, x.sn.n, c3⟩) ⟨hk.se, hk.bg, hk.sn⟩ W
  have t1 : (c.c == 3) = true := beq_iff_eq.2 hq
  have t2 : decide (0 < (x.put ⟨A1, x.se.n, c1⟩ ⟨A2, x.bg.n, c2⟩ ⟨A3, x.sn.n, c3⟩).sn.n) = false := decide_eq_false ht
  rw [t2] at d2
  go_wp2_with (first | ((with_reducible refine at_store 35 (.tmp 3) (.tmp 6) ?_); refine wpList_store_row rfl 35 (.tmp 3) (.tmp 6) rfl p2 (x.put ⟨A1, x.se.n, c1⟩ ⟨A2, x.bg.n, c2⟩ ⟨A3, x.sn.n, c3⟩).cs.toArray rfl rfl 35 x.cs.toArray bo2 (sizeT _) rfl (Th.onea _) ?_) | ((with_reducible refine at_load 35 (.tmp 3) ?_); refine wpList_mid (by rfl) 35 (.tmp 3) rfl p2 0 rfl (x.put ⟨A1, x.se.n, c1⟩ ⟨A2, x.bg.n, c2⟩ ⟨A3, x.sn.n, c3⟩).cs _ (range_blk b2) Try.underlying35 rfl (sizeT _) ?_))
  refine (d2 _).mono ?_
  rintro e W6 ⟨rfl, k2⟩
  clear c5_1_0
  replace b1 := b1.on k2
  replace b2 := b2.on k2
  replace b3 := b3.on k2
  replace o1 := ownB_below o1 k2
  replace o2 := ownB_below o2 k2
  replace o3 := ownB_below o3 k2
  replace kk := kk.trans (k2.mono kk.size)
  clear k2
  have lb := b2
  obtain ⟨W7, es7⟩ : ∃ W, W6.setRow p3 (x.put ⟨A1, x.se.n, c1⟩ ⟨A2, x.bg.n, c2⟩ ⟨A3, x.sn.n, c3⟩).cs.toArray = W := ⟨_, rfl⟩
  have bo3 := b3
  replace o1 := row_own o1 b3 (by decide) es7
  replace o2 := row_own o2 b3 (by decide) es7
  replace o3 := row_own o3 b3 (by decide) es7
  replace b1 := row_far b1 es7 (by omega)
  replace b2 := row_far b2 es7 (by omega)
  replace b3 : Blk W7 p3 35 (x.put ⟨A1, x.se.n, c1⟩ ⟨A2, x.bg.n, c2⟩ ⟨A3, x.sn.n, c3⟩).cs.toArray := row_named b3 es7
  replace kk := kk.trans (row_below es7 hp3 kk.size)
  go_wp2_with (first | ((with_reducible refine at_load 35 (.tmp 3) ?_); refine wpList_load_row rfl 35 (.tmp 3) rfl p2 rfl 35 (x.put ⟨A1, x.se.n, c1⟩ ⟨A2, x.bg.n, c2⟩ ⟨A3, x.sn.n, c3⟩).cs.toArray (0, 0) _ lb Try.underlying35 rfl (sizeT _) ?_) | ((with_reducible refine at_store 35 (.tmp 4) (.tmp 16) ?_); refine wpList_store_row rfl 35 (.tmp 4) (.tmp 16) rfl p3 (x.put ⟨A1, x.se.n, c1⟩ ⟨A2, x.bg.n, c2⟩ ⟨A3, x.sn.n, c3⟩).cs.toArray rfl rfl 35 #[.int .i64 0, .int .i64 0, .int .i64 0, .int .i64 0, .int .i64 0, .int .i64 0, .int .i64 0, .int .i64 0, .int .i64 0, .int .i64 0, .int .i64 0, .int .i64 0, .int .i64 0, .int .i64 0, .int .i64 0, .int .i64 0, .int .i64 0, .int .i64 0, .slice none 0 0, .slice none 0 0, .slice none 0 0, .int .i64 0] bo3 (sizeT _) rfl (Th.onea _) ?_))
  try rw [es7]
  refine bodyPost_ret (results_cell_row (cs := (x.put ⟨A1, x.se.n, c1⟩ ⟨A2, x.bg.n, c2⟩ ⟨A3, x.sn.n, c3⟩).cs.toArray) rfl _ _ p3 35 (0, 0) _ rfl b3 Try.underlying35 rfl (sizeT _)) rfl ?_
  first | exact ⟨A1, c1, A2, c2, A3, c3, rfl, ⟨o1, o2, o3⟩, kk⟩ | (rw [f1] at kk o1 o2 o3; exact ⟨A1, c1, A2, c2, A3, c3, rfl, ⟨o1, o2, o3⟩, kk⟩) | (subst f1; exact ⟨A1, c1, A2, c2, A3, c3, rfl, ⟨o1, o2, o3⟩, kk⟩)
set_option maxRecDepth 100000 in
set_option maxHeartbeats 4000000 in
theorem quieted_yes {w : World} {x : Th} {z s : List Int} {l : List Bg} (c : Cf) (h : Reads w x z l s) (h1 : x.se.n ≤ 1000) (h2 : x.bg.n ≤ 1000) (h3 : x.sn.n ≤ 1000) (hq : c.c = 3) (ht : 0 < x.sn.n) :
    Calls Try.prog 13 #[.agg c.cs.toArray, .agg x.cs.toArray] w fun e w' => ∃ A1 c1 A2 c2 A3 c3, e = .returned (.agg ((x.put ⟨A1, x.se.n, c1⟩ ⟨A2, x.bg.n, c2⟩ ⟨A3, x.sn.n, c3⟩).wm (miK 8)).cs.toArray) ∧ Own w.heap.size w' ((x.put ⟨A1, x.se.n, c1⟩ ⟨A2, x.bg.n, c2⟩ ⟨A3, x.sn.n, c3⟩).wm (miK 8)) [] l s ∧ Below w.heap.size w w' := by
  obtain ⟨p1, f1⟩ : ∃ p, w.heap.size = p := ⟨_, rfl⟩
  obtain ⟨W1, ea1⟩ : ∃ W, w.alloc (.cells c.cs.toArray 26) = W := ⟨_, rfl⟩
  have ka1 : Below w.heap.size w W1 := by rw [← ea1]; exact (Below.refl _ w).alloc (Nat.le_refl _) _
  have b1 : Blk W1 p1 26 c.cs.toArray := by rw [← ea1]; exact blk_new w _ 26 _ f1
  have kk : Below w.heap.size w W1 := ka1
  have hp1 : w.heap.size ≤ p1 := Nat.le_of_eq f1
  clear ka1
  obtain ⟨p2, f2⟩ : ∃ p, W1.heap.size = p := ⟨_, rfl⟩
  obtain ⟨W2, ea2⟩ : ∃ W, W1.alloc (.cells x.cs.toArray 35) = W := ⟨_, rfl⟩
  have ka2 : Below W1.heap.size W1 W2 := by rw [← ea2]; exact (Below.refl _ W1).alloc (Nat.le_refl _) _
  have b2 : Blk W2 p2 35 x.cs.toArray := by rw [← ea2]; exact blk_new W1 _ 35 _ f2
  have q1_2 : p1 < p2 := by rw [← f2]; exact b1.lt
  replace b1 := b1.on ka2
  have kk0 := kk
  replace kk := kk.trans (ka2.mono kk.size)
  have hp2 : w.heap.size ≤ p2 := by rw [← f2]; exact kk0.size
  clear ka2 kk0
  obtain ⟨p3, f3⟩ : ∃ p, W2.heap.size = p := ⟨_, rfl⟩
  obtain ⟨W3, ea3⟩ : ∃ W, W2.alloc (.cells #[.int .i64 0, .int .i64 0, .int .i64 0, .int .i64 0, .int .i64 0, .int .i64 0, .int .i64 0, .int .i64 0, .int .i64 0, .int .i64 0, .int .i64 0, .int .i64 0, .int .i64 0, .int .i64 0, .int .i64 0, .int .i64 0, .int .i64 0, .int .i64 0, .slice none 0 0, .slice none 0 0, .slice none 0 0, .int .i64 0] 35) = W := ⟨_, rfl⟩
  have ka3 : Below W2.heap.size W2 W3 := by rw [← ea3]; exact (Below.refl _ W2).alloc (Nat.le_refl _) _
  have b3 : Blk W3 p3 35 #[.int .i64 0, .int .i64 0, .int .i64 0, .int .i64 0, .int .i64 0, .int .i64 0, .int .i64 0, .int .i64 0, .int .i64 0, .int .i64 0, .int .i64 0, .int .i64 0, .int .i64 0, .int .i64 0, .int .i64 0, .int .i64 0, .int .i64 0, .int .i64 0, .slice none 0 0, .slice none 0 0, .slice none 0 0, .int .i64 0] := by rw [← ea3]; exact blk_new W2 _ 35 _ f3
  have q1_3 : p1 < p3 := by rw [← f3]; exact b1.lt
  replace b1 := b1.on ka3
  have q2_3 : p2 < p3 := by rw [← f3]; exact b2.lt
  replace b2 := b2.on ka3
  have kk0 := kk
  replace kk := kk.trans (ka3.mono kk.size)
  have hp3 : w.heap.size ≤ p3 := by rw [← f3]; exact kk0.size
  clear ka3 kk0
  have hk := h.ok
  have d1 := apart_any (h.on kk) h1 h2 h3
  go_enter Try.func13, Try.ntmps13
  go_wp2_with (((with_reducible refine at_load 35 (.tmp 3) ?_); refine wpList_load_row rfl 35 (.tmp 3) rfl p2 rfl 35 x.cs.toArray (0, 0) _ b2 Try.underlying35 rfl (sizeT _) ?_))
  refine (d1).mono ?_
  rintro e W4 ⟨A1, c1, A2, c2, A3, c3, rfl, ⟨o1, o2, o3⟩, k1⟩
  replace o1 := own_mono o1 kk.size
  replace o2 := own_mono o2 kk.size
  replace o3 := own_mono o3 kk.size
  replace b1 := b1.on k1
  replace b2 := b2.on k1
  replace b3 := b3.on k1
  replace kk := kk.trans (k1.mono kk.size)
  clear k1
  clear d1
  obtain ⟨W5, es5⟩ : ∃ W, W4.setRow p2 (x.put ⟨A1, x.se.n, c1⟩ ⟨A2, x.bg.n, c2⟩ ⟨A3, x.sn.n, c3⟩).cs.toArray = W := ⟨_, rfl⟩
  have bo2 := b2
  replace o1 := row_own o1 b2 (by decide) es5
  replace o2 := row_own o2 b2 (by decide) es5
  replace o3 := row_own o3 b2 (by decide) es5
  replace b1 := row_far b1 es5 (by omega)
  replace b3 := row_far b3 es5 (by omega)
  replace b2 : Blk W5 p2 35 (x.put ⟨A1, x.se.n, c1⟩ ⟨A2, x.bg.n, c2⟩ ⟨A3, x.sn.n, c3⟩).cs.toArray := row_named b2 es5
  replace kk := kk.trans (row_below es5 hp2 kk.size)
  have c5_1_0 : W5.cell? ⟨p1, 0, none⟩ = some (.int .i64 c.c) := b1.cell 0
  have d2 := fun W => has_any (x.put ⟨A1, x.se.n, c1⟩ ⟨A2, x.bg.n, c2⟩ ⟨A3, x.sn.n, c3⟩) ⟨hk.se, hk.bg, hk.sn⟩ W
  have t1 : (c.c == 3) = true := beq_iff_eq.2 hq
  have t2 : decide (0 < (x.put ⟨A1, x.se.n, c1⟩ ⟨A2, x.bg.n, c2⟩ ⟨A3, x.sn.n, c3⟩).sn.n) = true := decide_eq_true ht
  rw [t2] at d2
  go_wp2_with (first | ((with_reducible refine at_store 35 (.tmp 3) (.tmp 6) ?_); refine wpList_store_row rfl 35 (.tmp 3) (.tmp 6) rfl p2 (x.put ⟨A1, x.se.n, c1⟩ ⟨A2, x.bg.n, c2⟩ ⟨A3, x.sn.n, c3⟩).cs.toArray rfl rfl 35 x.cs.toArray bo2 (sizeT _) rfl (Th.onea _) ?_) | ((with_reducible refine at_load 35 (.tmp 3) ?_); refine wpList_mid (by rfl) 35 (.tmp 3) rfl p2 0 rfl (x.put ⟨A1, x.se.n, c1⟩ ⟨A2, x.bg.n, c2⟩ ⟨A3, x.sn.n, c3⟩).cs _ (range_blk b2) Try.underlying35 rfl (sizeT _) ?_))
  refine (d2 _).mono ?_
  rintro e W6 ⟨rfl, k2⟩
  clear c5_1_0
  replace b1 := b1.on k2
  replace b2 := b2.on k2
  replace b3 := b3.on k2
  replace o1 := ownB_below o1 k2
  replace o2 := ownB_below o2 k2
  replace o3 := ownB_below o3 k2
  replace kk := kk.trans (k2.mono kk.size)
  clear k2
  obtain ⟨W7, es7⟩ : ∃ W, W6.setCells p2 15 (miK 8).cs.toArray.toList = W := ⟨_, rfl⟩
  have bm2 := b2
  replace o1 := mid_own o1 b2 (by decide) es7
  replace o2 := mid_own o2 b2 (by decide) es7
  replace o3 := mid_own o3 b2 (by decide) es7
  replace b1 := mid_far b1 es7 (by omega)
  replace b3 := mid_far b3 es7 (by omega)
  replace b2 : Blk W7 p2 35 ((x.put ⟨A1, x.se.n, c1⟩ ⟨A2, x.bg.n, c2⟩ ⟨A3, x.sn.n, c3⟩).wm (miK 8)).cs.toArray := mid_named b2 es7 rfl
  replace kk := kk.trans (mid_below es7 hp2 kk.size)
  have lb := b2
  obtain ⟨W8, es8⟩ : ∃ W, W7.setRow p3 ((x.put ⟨A1, x.se.n, c1⟩ ⟨A2, x.bg.n, c2⟩ ⟨A3, x.sn.n, c3⟩).wm (miK 8)).cs.toArray = W := ⟨_, rfl⟩
  have bo3 := b3
  replace o1 := row_own o1 b3 (by decide) es8
  replace o2 := row_own o2 b3 (by decide) es8
  replace o3 := row_own o3 b3 (by decide) es8
  replace b1 := row_far b1 es8 (by omega)
  replace b2 := row_far b2 es8 (by omega)
  replace b3 : Blk W8 p3 35 ((x.put ⟨A1, x.se.n, c1⟩ ⟨A2, x.bg.n, c2⟩ ⟨A3, x.sn.n, c3⟩).wm (miK 8)).cs.toArray := row_named b3 es8
  replace kk := kk.trans (row_below es8 hp3 kk.size)
  go_wp2_with (first | ((with_reducible refine at_store 32 (.tmp 15) (.tmp 14) ?_); refine wpList_store_mid rfl 32 (.tmp 15) (.tmp 14) rfl p2 15 (miK 8).cs.toArray rfl rfl (there_blk bm2 15 _ (Nat.le_of_ble_eq_true rfl)) size32 (Mi.onea _) ?_; rw [es7]) | ((with_reducible refine at_load 35 (.tmp 3) ?_); refine wpList_load_row rfl 35 (.tmp 3) rfl p2 rfl 35 ((x.put ⟨A1, x.se.n, c1⟩ ⟨A2, x.bg.n, c2⟩ ⟨A3, x.sn.n, c3⟩).wm (miK 8)).cs.toArray (0, 0) _ lb Try.underlying35 rfl (sizeT _) ?_) | ((with_reducible refine at_store 35 (.tmp 4) (.tmp 16) ?_); refine wpList_store_row rfl 35 (.tmp 4) (.tmp 16) rfl p3 ((x.put ⟨A1, x.se.n, c1⟩ ⟨A2, x.bg.n, c2⟩ ⟨A3, x.sn.n, c3⟩).wm (miK 8)).cs.toArray rfl rfl 35 #[.int .i64 0, .int .i64 0, .int .i64 0, .int .i64 0, .int .i64 0, .int .i64 0, .int .i64 0, .int .i64 0, .int .i64 0, .int .i64 0, .int .i64 0, .int .i64 0, .int .i64 0, .int .i64 0, .int .i64 0, .int .i64 0, .int .i64 0, .int .i64 0, .slice none 0 0, .slice none 0 0, .slice none 0 0, .int .i64 0] bo3 (sizeT _) rfl (Th.onea _) ?_))
  try rw [es8]
  refine bodyPost_ret (results_cell_row (cs := ((x.put ⟨A1, x.se.n, c1⟩ ⟨A2, x.bg.n, c2⟩ ⟨A3, x.sn.n, c3⟩).wm (miK 8)).cs.toArray) rfl _ _ p3 35 (0, 0) _ rfl b3 Try.underlying35 rfl (sizeT _)) rfl ?_
  first | exact ⟨A1, c1, A2, c2, A3, c3, rfl, ⟨World.ownsRow_nil _ _ _ _, o2, o3⟩, kk⟩ | (rw [f1] at kk o1 o2 o3; exact ⟨A1, c1, A2, c2, A3, c3, rfl, ⟨World.ownsRow_nil _ _ _ _, o2, o3⟩, kk⟩) | (subst f1; exact ⟨A1, c1, A2, c2, A3, c3, rfl, ⟨World.ownsRow_nil _ _ _ _, o2, o3⟩, kk⟩)
end Go.Proofs.Ytllcgidachbnlaa
