/- Fields through words, acts through words, marks. Conditions: none. -/
import Derived.Test.YtfadfdfpocpelaaDoorPlace
namespace Go.Proofs.YtfadfdfpocpelaaDoor
set_option linter.unusedSimpArgs false
set_option linter.unusedVariables false
open Go.RowKit Go.ChangeShapes Go.WideShapes

set_option maxRecDepth 100000 in
set_option maxHeartbeats 4000000 in
theorem is_any (x : Wd) (w : World) : Calls Tryd.prog 40 #[.agg x.cs.toArray] w fun e w' => e = .returned (.bool (decide (1 ≤ x.c))) ∧ Below w.heap.size w w' := by
  obtain ⟨p1, f1⟩ : ∃ p, w.heap.size = p := ⟨_, rfl⟩
  obtain ⟨W1, ea1⟩ : ∃ W, w.alloc (.cells x.cs.toArray 25) = W := ⟨_, rfl⟩
  have ka1 : Below w.heap.size w W1 := by rw [← ea1]; exact (Below.refl _ w).alloc (Nat.le_refl _) _
  have b1 : Blk W1 p1 25 x.cs.toArray := by rw [← ea1]; exact blk_new w _ 25 _ f1
  have kk : Below w.heap.size w W1 := ka1
  have hp1 : w.heap.size ≤ p1 := Nat.le_of_eq f1
  clear ka1
  have c1_1_1 : W1.cell? ⟨p1, 1, none⟩ = some (.int .i64 x.c) := b1.cell 1
  go_enter Tryd.func40, Tryd.ntmps40
  go_wp2_with fail
  go_ret
  exact ⟨rfl, kk⟩
/-- The field f of the cell to which a word points; none: no place. -/
def thrP (x : Wd) (f : Int) : Pl := if 1 ≤ x.c then ⟨3, x.c, f⟩ else noP
set_option maxRecDepth 100000 in
set_option maxHeartbeats 4000000 in
theorem field_any (x : Wd) (f : Int) (w : World) : Calls Tryd.prog 30 #[.agg x.cs.toArray, .int .i64 f] w fun e w' => e = .returned (.agg (thrP x f).cs.toArray) ∧ Below w.heap.size w w' := by
  obtain ⟨p1, f1⟩ : ∃ p, w.heap.size = p := ⟨_, rfl⟩
  obtain ⟨W1, ea1⟩ : ∃ W, w.alloc (.cells x.cs.toArray 25) = W := ⟨_, rfl⟩
  have ka1 : Below w.heap.size w W1 := by rw [← ea1]; exact (Below.refl _ w).alloc (Nat.le_refl _) _
  have b1 : Blk W1 p1 25 x.cs.toArray := by rw [← ea1]; exact blk_new w _ 25 _ f1
  have kk : Below w.heap.size w W1 := ka1
  have hp1 : w.heap.size ≤ p1 := Nat.le_of_eq f1
  clear ka1
  obtain ⟨p2, f2⟩ : ∃ p, W1.heap.size = p := ⟨_, rfl⟩
  obtain ⟨W2, ea2⟩ : ∃ W, W1.alloc (.cells #[.int .i64 0, .int .i64 0, .int .i64 0] 23) = W := ⟨_, rfl⟩
  have ka2 : Below W1.heap.size W1 W2 := by rw [← ea2]; exact (Below.refl _ W1).alloc (Nat.le_refl _) _
  have b2 : Blk W2 p2 23 #[.int .i64 0, .int .i64 0, .int .i64 0] := by rw [← ea2]; exact blk_new W1 _ 23 _ f2
  have q1_2 : p1 < p2 := by rw [← f2]; exact b1.lt
  replace b1 := b1.on ka2
  have kk0 := kk
  replace kk := kk.trans (ka2.mono kk.size)
  have hp2 : w.heap.size ≤ p2 := by rw [← f2]; exact kk0.size
  clear ka2 kk0
  by_cases c0 : 1 ≤ x.c
  · unfold thrP
    rw [if_pos c0]
    have m1 := is_any x
    rw [show decide (1 ≤ x.c) = true from decide_eq_true c0] at m1
    clear c0
    go_enter Tryd.func30, Tryd.ntmps30
    go_wp2_with (((with_reducible refine at_load 25 (.tmp 2) ?_); refine wpList_load_row rfl 25 (.tmp 2) rfl p1 rfl 25 x.cs.toArray (0, 0) _ b1 Tryd.underlying25 rfl size25 ?_))
    refine (m1 _).mono ?_
    rintro e W3 ⟨rfl, k1⟩
    replace b1 := b1.on k1
    replace b2 := b2.on k1
    replace kk := kk.trans (k1.mono kk.size)
    clear k1
    have c3_1_1 : W3.cell? ⟨p1, 1, none⟩ = some (.int .i64 x.c) := b1.cell 1
    obtain ⟨p3, f3⟩ : ∃ p, W3.heap.size = p := ⟨_, rfl⟩
    obtain ⟨W4, ea4⟩ : ∃ W, W3.alloc (.cells #[.int .i64 x.c, .int .i64 f] 3) = W := ⟨_, rfl⟩
    have ka4 : Below W3.heap.size W3 W4 := by rw [← ea4]; exact (Below.refl _ W3).alloc (Nat.le_refl _) _
    have b3 : Blk W4 p3 3 #[.int .i64 x.c, .int .i64 f] := by rw [← ea4]; exact blk_new W3 _ 3 _ f3
    have q1_3 : p1 < p3 := by rw [← f3]; exact b1.lt
    replace b1 := b1.on ka4
    have q2_3 : p2 < p3 := by rw [← f3]; exact b2.lt
    replace b2 := b2.on ka4
    have kk0 := kk
    replace kk := kk.trans (ka4.mono kk.size)
    have hp3 : w.heap.size ≤ p3 := by rw [← f3]; exact kk0.size
    clear ka4 kk0
    go_wp2_with fail
    refine (at2_any 3 x.c f _ b3).mono ?_
    rintro e W5 ⟨rfl, k2⟩
    clear c3_1_1
    replace b1 := b1.on k2
    replace b2 := b2.on k2
    replace b3 := b3.on k2
    replace kk := kk.trans (k2.mono kk.size)
    clear k2
    obtain ⟨W6, es6⟩ : ∃ W, W5.setRow p2 (Pl.mk 3 x.c f).cs.toArray = W := ⟨_, rfl⟩
    have bo2 := b2
    replace b1 := row_far b1 es6 (by omega)
    replace b3 := row_far b3 es6 (by omega)
    replace b2 : Blk W6 p2 23 (Pl.mk 3 x.c f).cs.toArray := row_named b2 es6
    replace kk := kk.trans (row_below es6 hp2 kk.size)
    go_wp2_with (((with_reducible refine at_store 23 (.tmp 4) (.tmp 13) ?_); refine wpList_store_row rfl 23 (.tmp 4) (.tmp 13) rfl p2 (Pl.mk 3 x.c f).cs.toArray rfl rfl 23 #[.int .i64 0, .int .i64 0, .int .i64 0] bo2 size23 rfl (Pl.onea _) ?_; rw [es6]))
    refine bodyPost_ret (results_cell_row (cs := (Pl.mk 3 x.c f).cs.toArray) rfl _ _ p2 23 (0, 0) _ rfl b2 Tryd.underlying23 rfl size23) rfl ?_
    exact ⟨rfl, kk⟩
  · unfold thrP
    rw [if_neg c0]
    have m1 := is_any x
    rw [show decide (1 ≤ x.c) = false from decide_eq_false c0] at m1
    clear c0
    go_enter Tryd.func30, Tryd.ntmps30
    go_wp2_with (((with_reducible refine at_load 25 (.tmp 2) ?_); refine wpList_load_row rfl 25 (.tmp 2) rfl p1 rfl 25 x.cs.toArray (0, 0) _ b1 Tryd.underlying25 rfl size25 ?_))
    refine (m1 _).mono ?_
    rintro e W3 ⟨rfl, k1⟩
    replace b1 := b1.on k1
    replace b2 := b2.on k1
    replace kk := kk.trans (k1.mono kk.size)
    clear k1
    obtain ⟨W4, es4⟩ : ∃ W, W3.setRow p2 noP.cs.toArray = W := ⟨_, rfl⟩
    have bo2 := b2
    replace b1 := row_far b1 es4 (by omega)
    replace b2 : Blk W4 p2 23 noP.cs.toArray := row_named b2 es4
    replace kk := kk.trans (row_below es4 hp2 kk.size)
    go_wp2_with (((with_reducible refine at_store 23 (.tmp 4) (.tmp 8) ?_); refine wpList_store_row rfl 23 (.tmp 4) (.tmp 8) rfl p2 noP.cs.toArray rfl rfl 23 #[.int .i64 0, .int .i64 0, .int .i64 0] bo2 size23 rfl (Pl.onea _) ?_; rw [es4]))
    refine bodyPost_ret (results_cell_row (cs := noP.cs.toArray) rfl _ _ p2 23 (0, 0) _ rfl b2 Tryd.underlying23 rfl size23) rfl ?_
    exact ⟨rfl, kk⟩
/-- An epoch's mark. -/
def markZ (e : Int) : Int := wrap64 (2 * e + 1)
theorem mark_two (e : Int) : wrap64 (wrap64 (2 * e) + 1) = markZ e := by unfold markZ wrap64; omega
set_option maxRecDepth 100000 in
set_option maxHeartbeats 4000000 in
theorem mark_any (e : Int) (w : World) : Calls Tryd.prog 33 #[.int .i64 e] w fun r w' => r = .returned (.int .i64 (markZ e)) ∧ w = w' := by
  have h1 := mul_any 2 e
  have h2 := add_any (wrap64 (2 * e)) 1
  rw [mark_two] at h2
  generalize markZ e = m at h2 ⊢
  generalize wrap64 (2 * e) = q at h1 h2
  go_enter Tryd.func33, Tryd.ntmps33
  go_wp2_with (first | (go_at_call 45; refine (h1 _).mono ?_; rintro r w' ⟨rfl, rfl⟩) | (go_at_call 32; refine (h2 _).mono ?_; rintro r w' ⟨rfl, rfl⟩))
  go_ret
  exact ⟨rfl, rfl⟩
set_option maxRecDepth 100000 in
set_option maxHeartbeats 4000000 in
theorem through_any (x : Wd) (a : Ac) (w : World) : Calls Tryd.prog 29 #[.agg x.cs.toArray, .agg a.cs.toArray] w fun e w' => e = .returned (.agg ({ a with a := x, g := x.g } : Ac).cs.toArray) ∧ Below w.heap.size w w' := by
  obtain ⟨p1, f1⟩ : ∃ p, w.heap.size = p := ⟨_, rfl⟩
  obtain ⟨W1, ea1⟩ : ∃ W, w.alloc (.cells x.cs.toArray 25) = W := ⟨_, rfl⟩
  have ka1 : Below w.heap.size w W1 := by rw [← ea1]; exact (Below.refl _ w).alloc (Nat.le_refl _) _
  have b1 : Blk W1 p1 25 x.cs.toArray := by rw [← ea1]; exact blk_new w _ 25 _ f1
  have kk : Below w.heap.size w W1 := ka1
  have hp1 : w.heap.size ≤ p1 := Nat.le_of_eq f1
  clear ka1
  obtain ⟨p2, f2⟩ : ∃ p, W1.heap.size = p := ⟨_, rfl⟩
  obtain ⟨W2, ea2⟩ : ∃ W, W1.alloc (.cells a.cs.toArray 27) = W := ⟨_, rfl⟩
  have ka2 : Below W1.heap.size W1 W2 := by rw [← ea2]; exact (Below.refl _ W1).alloc (Nat.le_refl _) _
  have b2 : Blk W2 p2 27 a.cs.toArray := by rw [← ea2]; exact blk_new W1 _ 27 _ f2
  have q1_2 : p1 < p2 := by rw [← f2]; exact b1.lt
  replace b1 := b1.on ka2
  have kk0 := kk
  replace kk := kk.trans (ka2.mono kk.size)
  have hp2 : w.heap.size ≤ p2 := by rw [← f2]; exact kk0.size
  clear ka2 kk0
  obtain ⟨p3, f3⟩ : ∃ p, W2.heap.size = p := ⟨_, rfl⟩
  obtain ⟨W3, ea3⟩ : ∃ W, W2.alloc (.cells #[.int .i64 0, .int .i64 0, .int .i64 0, .int .i64 0, .int .i64 0, .int .i64 0, .int .i64 0, .int .i64 0, .int .i64 0, .int .i64 0, .int .i64 0, .int .i64 0, .int .i64 0, .int .i64 0] 27) = W := ⟨_, rfl⟩
  have ka3 : Below W2.heap.size W2 W3 := by rw [← ea3]; exact (Below.refl _ W2).alloc (Nat.le_refl _) _
  have b3 : Blk W3 p3 27 #[.int .i64 0, .int .i64 0, .int .i64 0, .int .i64 0, .int .i64 0, .int .i64 0, .int .i64 0, .int .i64 0, .int .i64 0, .int .i64 0, .int .i64 0, .int .i64 0, .int .i64 0, .int .i64 0] := by rw [← ea3]; exact blk_new W2 _ 27 _ f3
  have q1_3 : p1 < p3 := by rw [← f3]; exact b1.lt
  replace b1 := b1.on ka3
  have q2_3 : p2 < p3 := by rw [← f3]; exact b2.lt
  replace b2 := b2.on ka3
  have kk0 := kk
  replace kk := kk.trans (ka3.mono kk.size)
  have hp3 : w.heap.size ≤ p3 := by rw [← f3]; exact kk0.size
  clear ka3 kk0
  go_enter Tryd.func29, Tryd.ntmps29
  go_wp2_with fail
  clear f1
  have h12 : p1 ≠ p2 := by omega
  have h32 : p3 ≠ p2 := by omega
  obtain ⟨wd, ed⟩ : ∃ W, W3.drew = W := ⟨_, rfl⟩
  have hd : Below W3.heap.size W3 wd := by rw [← ed]; exact (Below.refl _ _).drew
  replace b1 := b1.on hd
  replace b2 := b2.on hd
  replace b3 := b3.on hd
  replace kk := kk.trans (hd.mono kk.size)
  clear hd
  have kS : Kept (fun g => g = p2) wd wd := Kept.refl _ _
  have tS : ∀ W, Kept (fun g => g = p2) wd W → W.cell? ⟨p1, 2, none⟩ = some (.int .i64 x.g) := fun W hW => (b1.kept hW h12).cell 2
  refine wp_region_noPanic ?_
  refine wp_region_held_drew (S := (fun W => Kept (fun g => g = p2) wd W)) (by kernel_rfl) (by rw [ed]; exact kS) (fun hHeld => ?_)
  rw [ed] at hHeld ⊢
  refine wpAnyH_take (i := 0) (oi := ⟨some 5, _, _, _, _, _⟩) (v := .agg (List.toArray (x.cs))) rfl (by kernel_rfl) (by kernel_rfl) (by kernel_rfl) (fun _ _ _ h => h) (yieldsIf_load_mid (by rfl) 25 (.tmp 2) rfl p1 (0) rfl (x.cs) _ (fun W hW => range_part (b1.kept hW h12) 0 x.cs rfl) Tryd.underlying25 rfl size25) (by assumption) ?_
  try simp only [Act.put, List.setIfInBounds_toArray, List.set_cons_zero, List.set_cons_succ]
  refine wpAnyH_take (i := 1) (oi := ⟨some 6, _, _, _, _, _⟩) (v := ?_) rfl (by kernel_rfl) (by kernel_rfl) (by kernel_rfl) (fun _ _ _ h => h) (Or.inl ⟨by rfl, ?_⟩) (by assumption) ?_
  rotate_left 1
  · (intro W hSw; go_simp <;> with_reducible rfl)
  try simp only [Act.put, List.setIfInBounds_toArray, List.set_cons_zero, List.set_cons_succ]
  refine wpAnyH_take (i := 2) (oi := ⟨some 7, _, _, _, _, _⟩) (v := ?_) rfl (by kernel_rfl) (by kernel_rfl) (by kernel_rfl) (fun _ _ _ h => h) (Or.inl ⟨by rfl, ?_⟩) (by assumption) ?_
  rotate_left 1
  · (intro W hSw; obtain q0 := tS W hSw; go_simp <;> with_reducible rfl)
  try simp only [Act.put, List.setIfInBounds_toArray, List.set_cons_zero, List.set_cons_succ]
  refine wpAnyH_take (i := 3) (oi := ⟨some 8, _, _, _, _, _⟩) (v := ?_) rfl (by kernel_rfl) (by kernel_rfl) (by kernel_rfl) (fun _ _ _ h => h) (Or.inl ⟨by rfl, ?_⟩) (by assumption) ?_
  rotate_left 1
  · (intro W hSw; go_simp <;> with_reducible rfl)
  try simp only [Act.put, List.setIfInBounds_toArray, List.set_cons_zero, List.set_cons_succ]
  refine wpAnyH_ready (rs := [4]) (by kernel_rfl) (by simp) ?_
  refine AllReadyH.cons (o := ⟨none, _, _, _, _, _⟩) rfl (fun K hK => ?_) AllReadyH.nil
  rw [if_pos (by rfl)]
  refine wp_store_mid 25 (.tmp 8) (.tmp 5) rfl p2 4 x.cs.toArray rfl rfl (there_blk b2 4 _ (Nat.le_of_ble_eq_true rfl)) size25 (Wd.onea _) ?_
  refine hK.out _ _ (Kept.next kS (kept_cells p2 _ _ _) (fun g h => .inl h)) (fun h1 => ?_)
  clear hHeld hK K
  have S1 : Kept (fun g => g = p2) wd (wd.setCells p2 4 x.cs.toArray.toList) := Kept.next kS (kept_cells p2 _ _ _) (fun g h => .inl h)
  have b2_1 : Blk (wd.setCells p2 4 x.cs.toArray.toList) p2 27 ({ a with a := x } : Ac).cs.toArray := mid_named b2 rfl rfl
  have b1_1 : Blk (wd.setCells p2 4 x.cs.toArray.toList) p1 25 x.cs.toArray := mid_far b1 rfl h12
  have b3_1 : Blk (wd.setCells p2 4 x.cs.toArray.toList) p3 27 #[.int .i64 0, .int .i64 0, .int .i64 0, .int .i64 0, .int .i64 0, .int .i64 0, .int .i64 0, .int .i64 0, .int .i64 0, .int .i64 0, .int .i64 0, .int .i64 0, .int .i64 0, .int .i64 0] := mid_far b3 rfl h32
  have kk_1 := kk.trans (mid_below (W := (wd.setCells p2 4 x.cs.toArray.toList)) (o := 4) (vs := x.cs.toArray.toList) rfl (Nat.le_trans hp2 (Nat.le_refl _)) kk.size)
  have cx1 := b2_1.cell 13
  have fx1 := b2_1.free 13
  try simp only [Act.put]
  refine wpAnyH_take (i := 5) (oi := ⟨some 9, _, _, _, _, _⟩) (v := ?_) rfl (by kernel_rfl) (by kernel_rfl) (by kernel_rfl) (fun _ _ _ h => h) (Or.inl ⟨by rfl, ?_⟩) (by assumption) ?_
  rotate_left 1
  · (intro W hSw; go_simp <;> with_reducible rfl)
  try simp only [Act.put, List.setIfInBounds_toArray, List.set_cons_zero, List.set_cons_succ]
  refine wpAnyH_ready (rs := [6]) (by kernel_rfl) (by simp) ?_
  refine AllReadyH.cons (o := ⟨none, _, _, _, _, _⟩) rfl (fun K hK => ?_) AllReadyH.nil
  rw [if_pos (by rfl)]
  go_simp
  refine hK.out _ _ (Kept.next S1 (kept_cell _ ⟨p2, 13, none⟩ _) (fun g h => .inl h)) (fun h2 => ?_)
  clear h1 hK K
  have S2 : Kept (fun g => g = p2) wd ((wd.setCells p2 4 x.cs.toArray.toList).setCell ⟨p2, 13, none⟩ (.int .i64 x.g)) := Kept.next S1 (kept_cell _ ⟨p2, 13, none⟩ _) (fun g h => .inl h)
  have b2_2 : Blk ((wd.setCells p2 4 x.cs.toArray.toList).setCell ⟨p2, 13, none⟩ (.int .i64 x.g)) p2 27 ({ a with a := x, g := x.g } : Ac).cs.toArray := set_named b2_1 rfl rfl
  have b3_2 : Blk ((wd.setCells p2 4 x.cs.toArray.toList).setCell ⟨p2, 13, none⟩ (.int .i64 x.g)) p3 27 #[.int .i64 0, .int .i64 0, .int .i64 0, .int .i64 0, .int .i64 0, .int .i64 0, .int .i64 0, .int .i64 0, .int .i64 0, .int .i64 0, .int .i64 0, .int .i64 0, .int .i64 0, .int .i64 0] := set_far b3_1 rfl h32
  have kk_2 := kk_1.trans (set_below (W := ((wd.setCells p2 4 x.cs.toArray.toList).setCell ⟨p2, 13, none⟩ (.int .i64 x.g))) rfl hp2 kk_1.size)
  try simp only [Act.put]
  refine wpAnyH_done (by kernel_rfl) ?_ _
  refine NoPanic.normal ?_
  obtain ⟨WX, eX⟩ : ∃ W, ((wd.setCells p2 4 x.cs.toArray.toList).setCell ⟨p2, 13, none⟩ (.int .i64 x.g)) = W := ⟨_, rfl⟩
  rw [eX]
  have c2 := b2_2
  have c3 := b3_2
  have kx := kk_2
  rw [eX] at c2 c3 kx
  obtain ⟨WY, eY⟩ : ∃ W, WX.setRow p3 ({ a with a := x, g := x.g } : Ac).cs.toArray = W := ⟨_, rfl⟩
  have c4 : Blk WY p3 27 ({ a with a := x, g := x.g } : Ac).cs.toArray := row_named c3 eY
  replace kx := kx.trans (row_below eY hp3 kx.size)
  go_wp2_with (first | ((with_reducible refine at_load 27 (.tmp 3) ?_); refine wpList_load_row rfl 27 (.tmp 3) rfl p2 rfl 27 ({ a with a := x, g := x.g } : Ac).cs.toArray (0, 0) _ c2 Tryd.underlying27 rfl size27 ?_) | ((with_reducible refine at_store 27 (.tmp 4) (.tmp 10) ?_); refine wpList_store_row rfl 27 (.tmp 4) (.tmp 10) rfl p3 ({ a with a := x, g := x.g } : Ac).cs.toArray rfl rfl 27 #[.int .i64 0, .int .i64 0, .int .i64 0, .int .i64 0, .int .i64 0, .int .i64 0, .int .i64 0, .int .i64 0, .int .i64 0, .int .i64 0, .int .i64 0, .int .i64 0, .int .i64 0, .int .i64 0] c3 size27 rfl (Ac.onea _) ?_; rw [eY]))
  refine bodyPost_ret (results_cell_row (cs := ({ a with a := x, g := x.g } : Ac).cs.toArray) rfl _ _ p3 27 (0, 0) _ rfl c4 Tryd.underlying27 rfl size27) rfl ?_
  exact ⟨rfl, kx⟩
end Go.Proofs.YtfadfdfpocpelaaDoor
