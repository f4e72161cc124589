/- A thread that has seen a guard. Conditions: as each states. -/
import Derived.Test.YtllcgidachbnlaaSeeG
namespace Go.Proofs.Ytllcgidachbnlaa
open Go.RowKit Go.ChangeShapes Go.WideShapes Go.Great

theorem own_keptB {w w' : World} {S : Nat → Prop} {B k n cap : Nat} {t : TypeId} {A : Option Addr} {vs : List Value} (h : w.ownsRow B t k (.slice A n cap) n vs) (hk : Kept S w w') (hS : ∀ g, lies A g → ¬ S g) : w'.ownsRow B t k (.slice A n cap) n vs := own_base (own_kept (own_low h) hk hS) (own_new h)
theorem own_two {w : World} {B B' k k' n n' cap cap' : Nat} {t t' : TypeId} {A A' : Option Addr} {vs vs' : List Value} (h : w.ownsRow B t k (.slice A n cap) n vs) (h' : w.ownsRow B' t' k' (.slice A' n' cap') n' vs') (ht : t ≠ t') : ∀ g, lies A g → ¬ lies A' g := fun g h1 h2 => by
  obtain ⟨cs, hb⟩ := own_blk (own_low h') h2
  exact own_off (own_low h) hb ht h1
set_option maxRecDepth 100000 in
set_option maxHeartbeats 4000000 in
theorem see_any {w : World} {x : Th} {z s : List Int} {l : List Bg} (p : Pg) (c : Cf) (t v : Int) (f : Option Addr → Nat → Mi) (hp : p.Ok) (h : Reads w x z l s) (u1 : x.se.n ≤ 1000) (u2 : x.bg.n ≤ 1000) (u3 : x.sn.n ≤ 0) (hk : x.k = 2) (hmw : Wide x.i) (hq : 1 ≤ sloZ p)
    (hf : ∀ A' c', nextM ⟨x.k, x.i, x.n, ⟨A', x.se.n + 1, c'⟩⟩ ⟨3, 0, 0, ⟨A', x.se.n + 1, c'⟩⟩ (sloZ p) = f A' c') (hse : ∀ A' c', (f A' c').se = ⟨A', x.se.n + 1, c'⟩) :
    Calls Try.prog 19 #[.agg p.cs.toArray, .agg c.cs.toArray, .int .i64 t, .agg x.cs.toArray, .int .i64 v] w fun e w' => ∃ A1 c1 A2 c2 A3 c3 A' c', e = .returned (.agg ((x.put ⟨A1, x.se.n, c1⟩ ⟨A2, x.bg.n, c2⟩ ⟨A3, x.sn.n, c3⟩).wm (f A' c')).cs.toArray) ∧ w'.ownsRow w.heap.size 2 1 (.slice (f A' c').se.A (f A' c').se.n (f A' c').se.cap) (f A' c').se.n (ints (z ++ [v])) ∧ w'.ownsRow w.heap.size 48 3 (.slice A2 x.bg.n c2) x.bg.n (flatB l) ∧ SeesI w' A3 x.sn.n c3 s ∧ Below w.heap.size w w' := by
  obtain ⟨p1, f1⟩ : ∃ p, w.heap.size = p := ⟨_, rfl⟩
  obtain ⟨W1, ea1⟩ : ∃ W, w.alloc (.cells p.cs.toArray 24) = W := ⟨_, rfl⟩
  have ka1 : Below w.heap.size w W1 := by rw [← ea1]; exact (Below.refl _ w).alloc (Nat.le_refl _) _
  have b1 : Blk W1 p1 24 p.cs.toArray := by rw [← ea1]; exact blk_new w _ 24 _ f1
  have kk : Below w.heap.size w W1 := ka1
  have hp1 : w.heap.size ≤ p1 := Nat.le_of_eq f1
  clear ka1
  obtain ⟨p2, f2⟩ : ∃ p, W1.heap.size = p := ⟨_, rfl⟩
  obtain ⟨W2, ea2⟩ : ∃ W, W1.alloc (.cells c.cs.toArray 26) = W := ⟨_, rfl⟩
  have ka2 : Below W1.heap.size W1 W2 := by rw [← ea2]; exact (Below.refl _ W1).alloc (Nat.le_refl _) _
  have b2 : Blk W2 p2 26 c.cs.toArray := by rw [← ea2]; exact blk_new W1 _ 26 _ f2
  have q1_2 : p1 < p2 := by rw [← f2]; exact b1.lt
  replace b1 := b1.on ka2
  have kk0 := kk
  replace kk := kk.trans (ka2.mono kk.size)
  have hp2 : w.heap.size ≤ p2 := by rw [← f2]; exact kk0.size
  clear ka2 kk0
  obtain ⟨p3, f3⟩ : ∃ p, W2.heap.size = p := ⟨_, rfl⟩
  obtain ⟨W3, ea3⟩ : ∃ W, W2.alloc (.cells x.cs.toArray 35) = W := ⟨_, rfl⟩
  have ka3 : Below W2.heap.size W2 W3 := by rw [← ea3]; exact (Below.refl _ W2).alloc (Nat.le_refl _) _
  have b3 : Blk W3 p3 35 x.cs.toArray := by rw [← ea3]; exact blk_new W2 _ 35 _ f3
  have q1_3 : p1 < p3 := by rw [← f3]; exact b1.lt
  replace b1 := b1.on ka3
  have q2_3 : p2 < p3 := by rw [← f3]; exact b2.lt
  replace b2 := b2.on ka3
  have kk0 := kk
  replace kk := kk.trans (ka3.mono kk.size)
  have hp3 : w.heap.size ≤ p3 := by rw [← f3]; exact kk0.size
  clear ka3 kk0
  obtain ⟨p4, f4⟩ : ∃ p, W3.heap.size = p := ⟨_, rfl⟩
  obtain ⟨W4, ea4⟩ : ∃ W, W3.alloc (.cells #[.int .i64 0, .int .i64 0, .int .i64 0, .int .i64 0, .int .i64 0, .int .i64 0, .int .i64 0, .int .i64 0, .int .i64 0, .int .i64 0, .int .i64 0, .int .i64 0, .int .i64 0, .int .i64 0, .int .i64 0, .int .i64 0, .int .i64 0, .int .i64 0, .slice none 0 0, .slice none 0 0, .slice none 0 0, .int .i64 0] 35) = W := ⟨_, rfl⟩
  have ka4 : Below W3.heap.size W3 W4 := by rw [← ea4]; exact (Below.refl _ W3).alloc (Nat.le_refl _) _
  have b4 : Blk W4 p4 35 #[.int .i64 0, .int .i64 0, .int .i64 0, .int .i64 0, .int .i64 0, .int .i64 0, .int .i64 0, .int .i64 0, .int .i64 0, .int .i64 0, .int .i64 0, .int .i64 0, .int .i64 0, .int .i64 0, .int .i64 0, .int .i64 0, .int .i64 0, .int .i64 0, .slice none 0 0, .slice none 0 0, .slice none 0 0, .int .i64 0] := by rw [← ea4]; exact blk_new W3 _ 35 _ f4
  have q1_4 : p1 < p4 := by rw [← f4]; exact b1.lt
  replace b1 := b1.on ka4
  have q2_4 : p2 < p4 := by rw [← f4]; exact b2.lt
  replace b2 := b2.on ka4
  have q3_4 : p3 < p4 := by rw [← f4]; exact b3.lt
  replace b3 := b3.on ka4
  have kk0 := kk
  replace kk := kk.trans (ka4.mono kk.size)
  have hp4 : w.heap.size ≤ p4 := by rw [← f4]; exact kk0.size
  clear ka4 kk0
  have d1 := apart_any (h.on kk) u1 u2 (by omega)
  have t1 : (x.k == 2) = true := beq_iff_eq.2 hk
  clear hk
  go_enter Try.func19, Try.ntmps19
  go_wp2_with (((with_reducible refine at_load 35 (.tmp 8) ?_); refine wpList_load_row rfl 35 (.tmp 8) rfl p3 rfl 35 x.cs.toArray (0, 0) _ b3 Try.underlying35 rfl (sizeT _) ?_))
  refine (d1).mono ?_
  rintro e W5 ⟨A1, c1, A2, c2, A3, c3, rfl, ⟨o1, o2, o3⟩, k1⟩
  have hs4 := k1.size
  have hW4 := kk.size
  replace b1 := b1.on k1
  replace b2 := b2.on k1
  replace b3 := b3.on k1
  replace b4 := b4.on k1
  replace kk := kk.trans (k1.mono kk.size)
  clear k1
  clear d1
  obtain ⟨W6, es6⟩ : ∃ W, W5.setRow p3 (x.put ⟨A1, x.se.n, c1⟩ ⟨A2, x.bg.n, c2⟩ ⟨A3, x.sn.n, c3⟩).cs.toArray = W := ⟨_, rfl⟩
  have bo3 := b3
  replace o1 := row_own o1 b3 (by decide) es6
  replace o2 := row_own o2 b3 (by decide) es6
  replace o3 := row_own o3 b3 (by decide) es6
  replace b1 := row_far b1 es6 (by omega)
  replace b2 := row_far b2 es6 (by omega)
  replace b4 := row_far b4 es6 (by omega)
  replace b3 : Blk W6 p3 35 (x.put ⟨A1, x.se.n, c1⟩ ⟨A2, x.bg.n, c2⟩ ⟨A3, x.sn.n, c3⟩).cs.toArray := row_named b3 es6
  replace kk := kk.trans (row_below es6 hp3 kk.size)
  have c6_3_15 : W6.cell? ⟨p3, 15, none⟩ = some (.int .i64 x.k) := b3.cell 15
  have hBW : W4.heap.size ≤ W6.heap.size := by rw [← es6]; simp [World.setRow]; exact hs4
  have g1 := range_part b3 15 (Mi.cs ⟨x.k, x.i, x.n, ⟨A1, x.se.n, c1⟩⟩) rfl
  skip
  have d2 := seeg_any p ⟨x.k, x.i, x.n, ⟨A1, x.se.n, c1⟩⟩ v hp hmw hq o1 hBW u1
  go_wp2_with (first | ((with_reducible refine at_store 35 (.tmp 8) (.tmp 12) ?_); refine wpList_store_row rfl 35 (.tmp 8) (.tmp 12) rfl p3 (x.put ⟨A1, x.se.n, c1⟩ ⟨A2, x.bg.n, c2⟩ ⟨A3, x.sn.n, c3⟩).cs.toArray rfl rfl 35 x.cs.toArray bo3 (sizeT _) rfl (Th.onea _) ?_; rw [es6]) | ((with_reducible refine at_load 24 (.tmp 5) ?_); refine wpList_load_row rfl 24 (.tmp 5) rfl p1 rfl 24 p.cs.toArray (0, 0) _ b1 Try.underlying24 rfl size24 ?_) | ((with_reducible refine at_load 32 (.tmp 19) ?_); refine wpList_mid (by rfl) 32 (.tmp 19) rfl p3 15 rfl (Mi.cs ⟨x.k, x.i, x.n, ⟨A1, x.se.n, c1⟩⟩) _ g1 Try.underlying32 rfl size32 ?_))
  refine d2.mono ?_
  rintro e W9 ⟨A', c', rfl, og, k2⟩
  clear c6_3_15
  rw [hf]
  have hs3 := own_seesI o3
  have kk9 := kk.trans (k2.under w.heap.size kk.size (fun g hg => Nat.le_trans hW4 (own_new o1 g hg)))
  replace kk := kk9
  have o2 := own_mono (own_keptB o2 k2 (fun g hg => own_two o2 o1 (by decide) g hg)) hW4
  replace og := own_mono og hW4
  replace b1 := b1.kept k2 (fun hg => own_off (own_low o1) b1 (by decide) hg)
  replace b2 := b2.kept k2 (fun hg => own_off (own_low o1) b2 (by decide) hg)
  replace b3 := b3.kept k2 (fun hg => own_off (own_low o1) b3 (by decide) hg)
  replace b4 := b4.kept k2 (fun hg => own_off (own_low o1) b4 (by decide) hg)
  clear k2 o3 o1 d2 g1
  obtain ⟨W31, es31⟩ : ∃ W, W9.setCells p3 15 (f A' c').cs.toArray.toList = W := ⟨_, rfl⟩
  have bm3 := b3
  replace og := mid_own og b3 (by decide) es31
  replace o2 := mid_own o2 b3 (by decide) es31
  replace b1 := mid_far b1 es31 (by omega)
  replace b2 := mid_far b2 es31 (by omega)
  replace b4 := mid_far b4 es31 (by omega)
  replace b3 : Blk W31 p3 35 ((x.put ⟨A1, x.se.n, c1⟩ ⟨A2, x.bg.n, c2⟩ ⟨A3, x.sn.n, c3⟩).wm (f A' c')).cs.toArray := mid_named b3 es31 rfl
  replace kk := kk.trans (mid_below es31 hp3 kk.size)
  have lb := b3
  obtain ⟨W32, es32⟩ : ∃ W, W31.setRow p4 ((x.put ⟨A1, x.se.n, c1⟩ ⟨A2, x.bg.n, c2⟩ ⟨A3, x.sn.n, c3⟩).wm (f A' c')).cs.toArray = W := ⟨_, rfl⟩
  have bo4 := b4
  replace og := row_own og b4 (by decide) es32
  replace o2 := row_own o2 b4 (by decide) es32
  replace b1 := row_far b1 es32 (by omega)
  replace b2 := row_far b2 es32 (by omega)
  replace b3 := row_far b3 es32 (by omega)
  replace b4 : Blk W32 p4 35 ((x.put ⟨A1, x.se.n, c1⟩ ⟨A2, x.bg.n, c2⟩ ⟨A3, x.sn.n, c3⟩).wm (f A' c')).cs.toArray := row_named b4 es32
  replace kk := kk.trans (row_below es32 hp4 kk.size)
  go_wp2_with (first | ((with_reducible refine at_store 32 (.tmp 23) (.tmp 22) ?_); refine wpList_store_mid rfl 32 (.tmp 23) (.tmp 22) rfl p3 15 (f A' c').cs.toArray rfl rfl (there_blk bm3 15 _ (Nat.le_of_ble_eq_true rfl)) size32 (Mi.onea _) ?_; rw [es31]) | ((with_reducible refine at_load 35 (.tmp 8) ?_); refine wpList_load_row rfl 35 (.tmp 8) rfl p3 rfl 35 ((x.put ⟨A1, x.se.n, c1⟩ ⟨A2, x.bg.n, c2⟩ ⟨A3, x.sn.n, c3⟩).wm (f A' c')).cs.toArray (0, 0) _ lb Try.underlying35 rfl (sizeT _) ?_) | ((with_reducible refine at_store 35 (.tmp 10) (.tmp 52) ?_); refine wpList_store_row rfl 35 (.tmp 10) (.tmp 52) rfl p4 ((x.put ⟨A1, x.se.n, c1⟩ ⟨A2, x.bg.n, c2⟩ ⟨A3, x.sn.n, c3⟩).wm (f A' c')).cs.toArray rfl rfl 35 #[.int .i64 0, .int .i64 0, .int .i64 0, .int .i64 0, .int .i64 0, .int .i64 0, .int .i64 0, .int .i64 0, .int .i64 0, .int .i64 0, .int .i64 0, .int .i64 0, .int .i64 0, .int .i64 0, .int .i64 0, .int .i64 0, .int .i64 0, .int .i64 0, .slice none 0 0, .slice none 0 0, .slice none 0 0, .int .i64 0] bo4 (sizeT _) rfl (Th.onea _) ?_))
  try rw [es32]
  refine bodyPost_ret (results_cell_row (cs := ((x.put ⟨A1, x.se.n, c1⟩ ⟨A2, x.bg.n, c2⟩ ⟨A3, x.sn.n, c3⟩).wm (f A' c')).cs.toArray) rfl _ _ p4 35 (0, 0) _ rfl b4 Try.underlying35 rfl (sizeT _)) rfl ?_
  have hz : W32.ownsRow w.heap.size 2 1 (.slice (f A' c').se.A (f A' c').se.n (f A' c').se.cap) (f A' c').se.n (ints (z ++ [v])) := by rw [hse]; exact og
  have hz3 : SeesI W32 A3 x.sn.n c3 s := ⟨Sees.len hs3, Sees.room hs3, Sees.most hs3, Sees.none_ hs3, fun _ _ h0 => absurd h0 (Nat.not_lt.2 u3)⟩
  first | exact ⟨A1, c1, A2, c2, A3, c3, A', c', rfl, hz, o2, hz3, kk⟩ | (rw [f1] at kk hz o2; exact ⟨A1, c1, A2, c2, A3, c3, A', c', rfl, hz, o2, hz3, kk⟩) | (subst f1; exact ⟨A1, c1, A2, c2, A3, c3, A', c', rfl, hz, o2, hz3, kk⟩)
end Go.Proofs.Ytllcgidachbnlaa
