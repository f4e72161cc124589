/- Which of two places stands ahead, by package place, by the plain answer, and as the program's sorting asks for it. Conditions: none. -/
import Derived.Test.YtfadfdfpocpelaaDoorFBase
import Derived.Sort.Grow
import Derived.Deep.Draws
namespace Go.Proofs.YtfadfdfpocpelaaDoor
open Go.RowKit Go.ChangeShapes Go.WideShapes Go.Sort

/-- Draws, and new blocks: nothing else. -/
def Gro (w w' : World) : Prop := ∃ q os, w' = grow (w.drewN q) os
section
variable {w w1 w2 : World}
theorem grow_drewN (w : World) (os : Array Obj) : ∀ q, (grow w os).drewN q = grow (w.drewN q) os
  | 0 => rfl
  | q + 1 => by
    have h := grow_drewN w os q
    show ((grow w os).drewN q).drew = _
    rw [h]
    rfl
theorem gro_refl (w : World) : Gro w w := ⟨0, #[], by simp [grow, World.drewN]⟩
theorem gro_drew (w : World) : Gro w w.drew := ⟨1, #[], by unfold grow World.drewN; rw [Array.append_empty]; rfl⟩
theorem gro_alloc (w : World) (o : Obj) : Gro w (w.alloc o) := ⟨0, #[o], by rw [alloc_eq_grow]; rfl⟩
theorem Gro.trans (h : Gro w w1) (h' : Gro w1 w2) : Gro w w2 := by
  obtain ⟨q, os, rfl⟩ := h
  obtain ⟨q', os', rfl⟩ := h'
  exact ⟨q + q', os ++ os', by rw [grow_drewN, grow_grow, World.drewN_drewN]⟩
theorem Gro.below (h : Gro w w1) : Below w.heap.size w w1 := by
  obtain ⟨q, os, rfl⟩ := h
  have hq : ∀ q, (w.drewN q).heap = w.heap ∧ (w.drewN q).os = w.os ∧ (w.drewN q).tape = w.tape ∧ (w.drewN q).output = w.output := fun q => by
    induction q with
    | zero => exact ⟨rfl, rfl, rfl, rfl⟩
    | succ q ih => exact ih
  obtain ⟨_, h2, h3, h4⟩ := hq q
  refine ⟨h2, h3, h4, by simp [grow], fun k hk => ?_⟩
  simp [grow, Array.getElem?_append, hk]
end
set_option maxRecDepth 100000 in
theorem nan_any (x : Int) (w : World) : Calls Tryd.prog 86 #[.int .i64 x] w fun e w' => e = .returned (.bool false) ∧ w = w' := by
  go_enter Tryd.func86, Tryd.ntmps86
  go_wp2
  go_ret
  exact ⟨by simp, rfl⟩
/-- -1, 0 or 1. -/
def cmpI (a b : Int) : Int := if a < b then -1 else if b < a then 1 else 0
set_option maxRecDepth 100000 in
theorem cmp_any (a b : Int) (w : World) : Calls Tryd.prog 78 #[.int .i64 a, .int .i64 b] w fun e w' => e = .returned (.int .i64 (cmpI a b)) ∧ w = w' := by
  obtain ⟨M, eM⟩ : ∃ M, M = cmpI a b := ⟨_, rfl⟩
  rw [← eM]
  unfold cmpI at eM
  by_cases h0 : a < b
  · rw [if_pos h0] at eM
    subst eM
    have t0 : decide (a < b) = true := decide_eq_true h0
    go_enter Tryd.func78, Tryd.ntmps78
    go_wp2_with fail
    refine (nan_any a w).mono ?_
    rintro e w' ⟨rfl, rfl⟩
    go_wp2_with fail
    refine (nan_any b w).mono ?_
    rintro e w' ⟨rfl, rfl⟩
    go_wp2
    go_ret
    exact ⟨rfl, rfl⟩
  · rw [if_neg h0] at eM
    have t0 : decide (a < b) = false := decide_eq_false h0
    by_cases h1 : b < a
    · rw [if_pos h1] at eM
      subst eM
      have t1 : decide (b < a) = true := decide_eq_true h1
      go_enter Tryd.func78, Tryd.ntmps78
      go_wp2_with fail
      refine (nan_any a w).mono ?_
      rintro e w' ⟨rfl, rfl⟩
      go_wp2_with fail
      refine (nan_any b w).mono ?_
      rintro e w' ⟨rfl, rfl⟩
      go_wp2
      go_ret
      exact ⟨rfl, rfl⟩
    · rw [if_neg h1] at eM
      subst eM
      have t1 : decide (b < a) = false := decide_eq_false h1
      go_enter Tryd.func78, Tryd.ntmps78
      go_wp2_with fail
      refine (nan_any a w).mono ?_
      rintro e w' ⟨rfl, rfl⟩
      go_wp2_with fail
      refine (nan_any b w).mono ?_
      rintro e w' ⟨rfl, rfl⟩
      go_wp2
      go_ret
      exact ⟨rfl, rfl⟩
/-- The first that is not 0. -/
def orI (a b : Int) : Int := if a = 0 then b else a
set_option maxRecDepth 100000 in
theorem or_any (a b c : Int) (w : World) : Calls Tryd.prog 77 #[.slice (some ⟨w.heap.size, 0, none⟩) 3 3] (w.alloc (.cells #[.int .i64 a, .int .i64 b, .int .i64 c] 3)) fun e w' => e = .returned (.int .i64 (orI a (orI b c))) ∧ w.alloc (.cells #[.int .i64 a, .int .i64 b, .int .i64 c] 3) = w' := by
  obtain ⟨W, eW⟩ : ∃ W, W = w.alloc (.cells #[.int .i64 a, .int .i64 b, .int .i64 c] 3) := ⟨_, rfl⟩
  have hB : Blk W w.heap.size 3 #[.int .i64 a, .int .i64 b, .int .i64 c] := by rw [eW]; exact heap_alloc_new w _
  rw [← eW]
  generalize w.heap.size = z at hB ⊢
  have c0 : W.cell? ⟨z, 0, none⟩ = some (.int .i64 a) := hB.cell 0
  have c1 : W.cell? ⟨z, 1, none⟩ = some (.int .i64 b) := hB.cell 1
  have c2 : W.cell? ⟨z, 2, none⟩ = some (.int .i64 c) := hB.cell 2
  clear eW hB
  obtain ⟨M, eM⟩ : ∃ M, M = orI a (orI b c) := ⟨_, rfl⟩
  rw [← eM]
  unfold orI at eM
  by_cases h0 : a = 0
  · rw [if_pos h0] at eM
    subst h0
    by_cases h1 : b = 0
    · rw [if_pos h1] at eM
      subst h1
      by_cases h2 : c = 0
      · subst h2 eM
        go_enter Tryd.func77, Tryd.ntmps77
        go_wp2_with fail
        refine wp_loop_rounds 4 ?_
        iterate 4 (rw [rounds_succ]; go_wp2)
        go_ret
        exact ⟨rfl, rfl⟩
      · subst eM
        have t1 : (M != 0) = true := by simpa using h2
        clear h2
        go_enter Tryd.func77, Tryd.ntmps77
        go_wp2_with fail
        refine wp_loop_rounds 4 ?_
        iterate 3 (rw [rounds_succ]; go_wp2)
        go_ret
        exact ⟨rfl, rfl⟩
    · rw [if_neg h1] at eM
      subst eM
      have t1 : (M != 0) = true := by simpa using h1
      clear h1
      go_enter Tryd.func77, Tryd.ntmps77
      go_wp2_with fail
      refine wp_loop_rounds 4 ?_
      iterate 2 (rw [rounds_succ]; go_wp2)
      go_ret
      exact ⟨rfl, rfl⟩
  · rw [if_neg h0] at eM
    subst eM
    have t1 : (M != 0) = true := by simpa using h0
    clear h0
    go_enter Tryd.func77, Tryd.ntmps77
    go_wp2_with fail
    refine wp_loop_rounds 4 ?_
    iterate 1 (rw [rounds_succ]; go_wp2)
    go_ret
    exact ⟨rfl, rfl⟩
/-- By kind, then by both numbers. -/
def lessP (a b : Pl) : Bool := if a.k = b.k then (if a.i = b.i then decide (a.j < b.j) else decide (a.i < b.i)) else decide (a.k < b.k)
theorem lessP_or (a b : Pl) : decide (orI (cmpI a.k b.k) (orI (cmpI a.i b.i) (cmpI a.j b.j)) < 0) = lessP a b := by
  unfold lessP orI cmpI
  have z : ∀ x y : Int, x ≠ y → ((if x < y then (-1 : Int) else if y < x then 1 else 0) ≠ 0) ∧ decide ((if x < y then (-1 : Int) else if y < x then 1 else 0) < 0) = decide (x < y) := by
    intro x y h
    rcases Int.lt_or_gt_of_ne h with h | h
    · rw [if_pos h]
      simp [h]
    · rw [if_neg (by omega), if_pos h]
      simp
      omega
  have e : ∀ x : Int, (if x < x then (-1 : Int) else if x < x then 1 else 0) = 0 := fun x => by simp
  by_cases hk : a.k = b.k
  · rw [if_pos hk, hk, e, if_pos rfl]
    by_cases hi : a.i = b.i
    · rw [if_pos hi, hi, e, if_pos rfl]
      by_cases hj : a.j = b.j
      · rw [hj, e]
        simp
      · exact (z _ _ hj).2
    · rw [if_neg hi, if_neg (z _ _ hi).1]
      exact (z _ _ hi).2
  · rw [if_neg hk, if_neg (z _ _ hk).1]
    exact (z _ _ hk).2
set_option maxRecDepth 100000 in
set_option maxHeartbeats 2000000 in
theorem less_any (x y : Pl) (w : World) : Calls Tryd.prog 60 #[.agg x.cs.toArray, .agg y.cs.toArray] w fun e w' => e = .returned (.bool (lessP x y)) ∧ Gro w w' := by
  obtain ⟨z, ez⟩ : ∃ z, z = w.heap.size := ⟨_, rfl⟩
  obtain ⟨W0, eW0⟩ : ∃ W, W = (w.alloc (.cells x.cs.toArray 23)).alloc (.cells y.cs.toArray 23) := ⟨_, rfl⟩
  have hg0 : Gro w W0 := by rw [eW0]; exact (gro_alloc _ _).trans (gro_alloc _ _)
  have hx : Blk W0 z 23 x.cs.toArray := by rw [eW0, ez]; exact Blk.on (heap_alloc_new w _) ((Below.refl _ _).alloc (Nat.le_refl _) _)
  have hy : Blk W0 (z + 1) 23 y.cs.toArray := by rw [eW0, ez]; exact blk_new _ _ 23 _ (by simp)
  have tS : ∀ W, Below W0.heap.size W0 W → W.cell? ⟨z, 0, none⟩ = some (.int .i64 x.k) ∧ W.cell? ⟨z, 1, none⟩ = some (.int .i64 x.i) ∧ W.cell? ⟨z, 2, none⟩ = some (.int .i64 x.j) ∧ W.cell? ⟨z + 1, 0, none⟩ = some (.int .i64 y.k) ∧ W.cell? ⟨z + 1, 1, none⟩ = some (.int .i64 y.i) ∧ W.cell? ⟨z + 1, 2, none⟩ = some (.int .i64 y.j) :=
    fun W hW => ⟨(hx.on hW).cell 0, (hx.on hW).cell 1, (hx.on hW).cell 2, (hy.on hW).cell 0, (hy.on hW).cell 1, (hy.on hW).cell 2⟩
  have k0 : Below W0.heap.size W0 W0.drew := (Below.refl _ W0).drew
  obtain ⟨a, ea⟩ : ∃ a, a = cmpI x.k y.k := ⟨_, rfl⟩
  obtain ⟨b, eb⟩ : ∃ b, b = cmpI x.i y.i := ⟨_, rfl⟩
  obtain ⟨c, ec⟩ : ∃ c, c = cmpI x.j y.j := ⟨_, rfl⟩
  have hca := fun W => cmp_any x.k y.k W
  have hcb := fun W => cmp_any x.i y.i W
  have hcc := fun W => cmp_any x.j y.j W
  obtain ⟨L, eL⟩ : ∃ L, L = lessP x y := ⟨_, rfl⟩
  rw [← eL]
  rw [← lessP_or, ← ea, ← eb, ← ec] at eL
  rw [← ea] at hca
  rw [← eb] at hcb
  rw [← ec] at hcc
  have hor := or_any a b c W0.drew
  generalize orI a (orI b c) = M at hor eL
  have k1 : Below W0.heap.size W0 (W0.drew.alloc (.cells #[.int .i64 a, .int .i64 b, .int .i64 c] 3)) := k0.alloc k0.size _
  have hgE : Gro w (W0.drew.alloc (.cells #[.int .i64 a, .int .i64 b, .int .i64 c] 3)) := (hg0.trans (gro_drew _)).trans (gro_alloc _ _)
  have HL := Lib.hid (And.intro eL hgE)
  clear eL hx hy ea eb ec hg0 hgE
  go_enter Tryd.func60, Tryd.ntmps60
  go_wp2_with fail
  rw [← eW0, ← ez]
  clear eW0
  have EZ := Lib.hid ez
  clear ez
  refine wp_region_noPanic ?_
  refine wp_region_held_drew (S := (fun W => Below W0.heap.size W0 W)) (by kernel_rfl) k0 (fun hHeld => ?_)
  refine wpAnyH_take (i := 0) (oi := ⟨some 5, _, _, _, _, _⟩) (v := ?_) rfl (by kernel_rfl) (by kernel_rfl) (by kernel_rfl) (fun _ _ _ h => h) (Or.inl ⟨by rfl, ?_⟩) (by assumption) ?_
  rotate_left 1
  · (intro W hSw; obtain ⟨f0, f1, f2, f3, f4, f5⟩ := tS W hSw; go_simp <;> with_reducible rfl)
  try simp only [Act.put, List.setIfInBounds_toArray, List.set_cons_zero, List.set_cons_succ]
  refine wpAnyH_take (i := 1) (oi := ⟨some 6, _, _, _, _, _⟩) (v := ?_) rfl (by kernel_rfl) (by kernel_rfl) (by kernel_rfl) (fun _ _ _ h => h) (Or.inl ⟨by rfl, ?_⟩) (by assumption) ?_
  rotate_left 1
  · (intro W hSw; obtain ⟨f0, f1, f2, f3, f4, f5⟩ := tS W hSw; go_simp <;> with_reducible rfl)
  try simp only [Act.put, List.setIfInBounds_toArray, List.set_cons_zero, List.set_cons_succ]
  refine wpAnyH_take (i := 2) (oi := ⟨some 7, _, _, _, _, _⟩) (v := ?_) rfl (by kernel_rfl) (by kernel_rfl) (by kernel_rfl) (fun _ _ _ h => h) (Or.inl ⟨by rfl, ?_⟩) (by assumption) ?_
  rotate_left 1
  · (intro W hSw; obtain ⟨f0, f1, f2, f3, f4, f5⟩ := tS W hSw; go_simp <;> with_reducible rfl)
  try simp only [Act.put, List.setIfInBounds_toArray, List.set_cons_zero, List.set_cons_succ]
  refine wpAnyH_take (i := 3) (oi := ⟨some 8, _, _, _, _, _⟩) (v := ?_) rfl (by kernel_rfl) (by kernel_rfl) (by kernel_rfl) (fun _ _ _ h => h) (Or.inl ⟨by rfl, ?_⟩) (by assumption) ?_
  rotate_left 1
  · (intro W hSw; obtain ⟨f0, f1, f2, f3, f4, f5⟩ := tS W hSw; go_simp <;> with_reducible rfl)
  try simp only [Act.put, List.setIfInBounds_toArray, List.set_cons_zero, List.set_cons_succ]
  refine wpAnyH_take (i := 5) (oi := ⟨some 10, _, _, _, _, _⟩) (v := ?_) rfl (by kernel_rfl) (by kernel_rfl) (by kernel_rfl) (fun _ _ _ h => h) (Or.inl ⟨by rfl, ?_⟩) (by assumption) ?_
  rotate_left 1
  · (intro W hSw; obtain ⟨f0, f1, f2, f3, f4, f5⟩ := tS W hSw; go_simp <;> with_reducible rfl)
  try simp only [Act.put, List.setIfInBounds_toArray, List.set_cons_zero, List.set_cons_succ]
  refine wpAnyH_take (i := 6) (oi := ⟨some 11, _, _, _, _, _⟩) (v := ?_) rfl (by kernel_rfl) (by kernel_rfl) (by kernel_rfl) (fun _ _ _ h => h) (Or.inl ⟨by rfl, ?_⟩) (by assumption) ?_
  rotate_left 1
  · (intro W hSw; obtain ⟨f0, f1, f2, f3, f4, f5⟩ := tS W hSw; go_simp <;> with_reducible rfl)
  try simp only [Act.put, List.setIfInBounds_toArray, List.set_cons_zero, List.set_cons_succ]
  refine wpAnyH_take (i := 7) (oi := ⟨some 12, _, _, _, _, _⟩) (v := ?_) rfl (by kernel_rfl) (by kernel_rfl) (by kernel_rfl) (fun _ _ _ h => h) (Or.inl ⟨by rfl, ?_⟩) (by assumption) ?_
  rotate_left 1
  · (intro W hSw; obtain ⟨f0, f1, f2, f3, f4, f5⟩ := tS W hSw; go_simp <;> with_reducible rfl)
  try simp only [Act.put, List.setIfInBounds_toArray, List.set_cons_zero, List.set_cons_succ]
  refine wpAnyH_take (i := 8) (oi := ⟨some 13, _, _, _, _, _⟩) (v := ?_) rfl (by kernel_rfl) (by kernel_rfl) (by kernel_rfl) (fun _ _ _ h => h) (Or.inl ⟨by rfl, ?_⟩) (by assumption) ?_
  rotate_left 1
  · (intro W hSw; obtain ⟨f0, f1, f2, f3, f4, f5⟩ := tS W hSw; go_simp <;> with_reducible rfl)
  try simp only [Act.put, List.setIfInBounds_toArray, List.set_cons_zero, List.set_cons_succ]
  refine wpAnyH_take (i := 10) (oi := ⟨some 15, _, _, _, _, _⟩) (v := ?_) rfl (by kernel_rfl) (by kernel_rfl) (by kernel_rfl) (fun _ _ _ h => h) (Or.inl ⟨by rfl, ?_⟩) (by assumption) ?_
  rotate_left 1
  · (intro W hSw; obtain ⟨f0, f1, f2, f3, f4, f5⟩ := tS W hSw; go_simp <;> with_reducible rfl)
  try simp only [Act.put, List.setIfInBounds_toArray, List.set_cons_zero, List.set_cons_succ]
  refine wpAnyH_take (i := 11) (oi := ⟨some 16, _, _, _, _, _⟩) (v := ?_) rfl (by kernel_rfl) (by kernel_rfl) (by kernel_rfl) (fun _ _ _ h => h) (Or.inl ⟨by rfl, ?_⟩) (by assumption) ?_
  rotate_left 1
  · (intro W hSw; obtain ⟨f0, f1, f2, f3, f4, f5⟩ := tS W hSw; go_simp <;> with_reducible rfl)
  try simp only [Act.put, List.setIfInBounds_toArray, List.set_cons_zero, List.set_cons_succ]
  refine wpAnyH_take (i := 12) (oi := ⟨some 17, _, _, _, _, _⟩) (v := ?_) rfl (by kernel_rfl) (by kernel_rfl) (by kernel_rfl) (fun _ _ _ h => h) (Or.inl ⟨by rfl, ?_⟩) (by assumption) ?_
  rotate_left 1
  · (intro W hSw; obtain ⟨f0, f1, f2, f3, f4, f5⟩ := tS W hSw; go_simp <;> with_reducible rfl)
  try simp only [Act.put, List.setIfInBounds_toArray, List.set_cons_zero, List.set_cons_succ]
  refine wpAnyH_take (i := 13) (oi := ⟨some 18, _, _, _, _, _⟩) (v := ?_) rfl (by kernel_rfl) (by kernel_rfl) (by kernel_rfl) (fun _ _ _ h => h) (Or.inl ⟨by rfl, ?_⟩) (by assumption) ?_
  rotate_left 1
  · (intro W hSw; obtain ⟨f0, f1, f2, f3, f4, f5⟩ := tS W hSw; go_simp <;> with_reducible rfl)
  try simp only [Act.put, List.setIfInBounds_toArray, List.set_cons_zero, List.set_cons_succ]
  refine wpAnyH_ready (rs := [4]) (by kernel_rfl) (by simp) ?_
  refine AllReadyH.cons rfl (fun K hK => ?_) AllReadyH.nil
  go_simp
  refine (hca _).mono ?_
  rintro e w' ⟨rfl, rfl⟩
  refine hK.out _ _ k0 (fun hHeld1 => ?_)
  clear hHeld hK K
  try simp only [Act.put, List.setIfInBounds_toArray, List.set_cons_zero, List.set_cons_succ]
  refine wpAnyH_ready (rs := [9]) (by kernel_rfl) (by simp) ?_
  refine AllReadyH.cons rfl (fun K hK => ?_) AllReadyH.nil
  go_simp
  refine (hcb _).mono ?_
  rintro e w' ⟨rfl, rfl⟩
  refine hK.out _ _ k0 (fun hHeld2 => ?_)
  clear hHeld1 hK K
  try simp only [Act.put, List.setIfInBounds_toArray, List.set_cons_zero, List.set_cons_succ]
  refine wpAnyH_ready (rs := [14]) (by kernel_rfl) (by simp) ?_
  refine AllReadyH.cons rfl (fun K hK => ?_) AllReadyH.nil
  go_simp
  refine (hcc _).mono ?_
  rintro e w' ⟨rfl, rfl⟩
  refine hK.out _ _ k0 (fun hHeld3 => ?_)
  clear hHeld2 hK K
  try simp only [Act.put, List.setIfInBounds_toArray, List.set_cons_zero, List.set_cons_succ]
  refine wpAnyH_ready (rs := [15]) (by kernel_rfl) (by simp) ?_
  refine AllReadyH.cons rfl (fun K hK => ?_) AllReadyH.nil
  go_simp
  refine hK.out _ _ k1 (fun hHeld4 => ?_)
  clear hHeld3 hK K
  try simp only [Act.put, List.setIfInBounds_toArray, List.set_cons_zero, List.set_cons_succ]
  refine wpAnyH_ready (rs := [16]) (by kernel_rfl) (by simp) ?_
  refine AllReadyH.cons rfl (fun K hK => ?_) AllReadyH.nil
  go_simp
  refine (hor).mono ?_
  rintro e w' ⟨rfl, rfl⟩
  refine hK.out _ _ k1 (fun hHeld5 => ?_)
  clear hHeld4 hK K
  try simp only [Act.put, List.setIfInBounds_toArray, List.set_cons_zero, List.set_cons_succ]
  refine wpAnyH_take (i := 17) (oi := ⟨some 22, _, _, _, _, _⟩) (v := ?_) rfl (by kernel_rfl) (by kernel_rfl) (by kernel_rfl) (fun _ _ _ h => h) (Or.inl ⟨by rfl, ?_⟩) (by assumption) ?_
  rotate_left 1
  · (intro W hSw; obtain ⟨f0, f1, f2, f3, f4, f5⟩ := tS W hSw; go_simp <;> with_reducible rfl)
  try simp only [Act.put, List.setIfInBounds_toArray, List.set_cons_zero, List.set_cons_succ]
  refine wpAnyH_take (i := 18) (oi := ⟨some 4, _, _, _, _, _⟩) (v := ?_) rfl (by kernel_rfl) (by kernel_rfl) (by kernel_rfl) (fun _ _ _ h => h) (Or.inl ⟨by rfl, ?_⟩) (by assumption) ?_
  rotate_left 1
  · (intro W hSw; obtain ⟨f0, f1, f2, f3, f4, f5⟩ := tS W hSw; go_simp <;> with_reducible rfl)
  try simp only [Act.put, List.setIfInBounds_toArray, List.set_cons_zero, List.set_cons_succ]
  refine wpAnyH_done (by kernel_rfl) ?_ _
  refine NoPanic.normal ?_
  go_wp2
  go_ret
  exact ⟨by rw [HL.out.1]; rfl, HL.out.2⟩
/-- -1, 0 or 1. -/
def cmpP (x y : Pl) : Int := if lessP x y then -1 else if lessP y x then 1 else 0
set_option maxRecDepth 100000 in
set_option maxHeartbeats 2000000 in
theorem compare_any (x y : Pl) (w : World) : Calls Tryd.prog 49 #[.agg x.cs.toArray, .agg y.cs.toArray] w fun e w' => e = .returned (.int .i64 (cmpP x y)) ∧ Gro w w' := by
  have hl1 := fun W => less_any x y W
  have hl2 := fun W => less_any y x W
  obtain ⟨M, eM⟩ : ∃ M, M = cmpP x y := ⟨_, rfl⟩
  rw [← eM]
  unfold cmpP at eM
  obtain ⟨a, b, c⟩ := x
  obtain ⟨a', b', c'⟩ := y
  change ∀ W, Calls Tryd.prog 60 #[.agg #[.int .i64 a, .int .i64 b, .int .i64 c], .agg #[.int .i64 a', .int .i64 b', .int .i64 c']] W _ at hl1
  change ∀ W, Calls Tryd.prog 60 #[.agg #[.int .i64 a', .int .i64 b', .int .i64 c'], .agg #[.int .i64 a, .int .i64 b, .int .i64 c]] W _ at hl2
  show Calls Tryd.prog 49 #[.agg #[.int .i64 a, .int .i64 b, .int .i64 c], .agg #[.int .i64 a', .int .i64 b', .int .i64 c']] w _
  obtain ⟨z, ez⟩ : ∃ z, z = w.heap.size := ⟨_, rfl⟩
  obtain ⟨W0, eW0⟩ : ∃ W, W = (w.alloc (.cells #[.int .i64 a, .int .i64 b, .int .i64 c] 23)).alloc (.cells #[.int .i64 a', .int .i64 b', .int .i64 c'] 23) := ⟨_, rfl⟩
  have hg0 : Gro w W0 := by rw [eW0]; exact (gro_alloc _ _).trans (gro_alloc _ _)
  have hx : Blk W0 z 23 #[.int .i64 a, .int .i64 b, .int .i64 c] := by rw [eW0, ez]; exact Blk.on (heap_alloc_new w _) ((Below.refl _ _).alloc (Nat.le_refl _) _)
  have hy : Blk W0 (z + 1) 23 #[.int .i64 a', .int .i64 b', .int .i64 c'] := by rw [eW0, ez]; exact blk_new _ _ 23 _ (by simp)
  have cS : ∀ W, Below W0.heap.size W0 W → W.cell? ⟨z, 0, none⟩ = some (.int .i64 a) ∧ W.cell? ⟨z, 1, none⟩ = some (.int .i64 b) ∧ W.cell? ⟨z, 2, none⟩ = some (.int .i64 c) ∧ W.cell? ⟨z + 1, 0, none⟩ = some (.int .i64 a') ∧ W.cell? ⟨z + 1, 1, none⟩ = some (.int .i64 b') ∧ W.cell? ⟨z + 1, 2, none⟩ = some (.int .i64 c') :=
    fun W hW => ⟨(hx.on hW).cell 0, (hx.on hW).cell 1, (hx.on hW).cell 2, (hy.on hW).cell 0, (hy.on hW).cell 1, (hy.on hW).cell 2⟩
  clear hx hy
  generalize lessP ⟨a, b, c⟩ ⟨a', b', c'⟩ = L1 at hl1 eM
  generalize lessP ⟨a', b', c'⟩ ⟨a, b, c⟩ = L2 at hl2 eM
  have HG := Lib.hid hg0
  clear hg0
  cases L1
  · cases L2
    · obtain rfl : M = 0 := eM
      go_enter Tryd.func49, Tryd.ntmps49
      go_wp2_with fail
      refine (hl1 _).mono ?_
      rw [← eW0, ← ez]
      clear eW0
      have EZ := Lib.hid ez
      clear ez
      rintro e w1 ⟨rfl, hg1⟩
      obtain ⟨f0, f1, f2, f3, f4, f5⟩ := cS w1 hg1.below
      have HG1 := Lib.hid (HG.out.trans hg1)
      clear hg1
      go_wp2_with fail
      refine (hl2 _).mono ?_
      rintro e w2 ⟨rfl, hg2⟩
      have HG2 := Lib.hid (HG1.out.trans hg2)
      clear hg2
      go_wp2
      go_ret
      exact ⟨rfl, HG2.out⟩
    · obtain rfl : M = 1 := eM
      go_enter Tryd.func49, Tryd.ntmps49
      go_wp2_with fail
      refine (hl1 _).mono ?_
      rw [← eW0, ← ez]
      clear eW0
      have EZ := Lib.hid ez
      clear ez
      rintro e w1 ⟨rfl, hg1⟩
      obtain ⟨f0, f1, f2, f3, f4, f5⟩ := cS w1 hg1.below
      have HG1 := Lib.hid (HG.out.trans hg1)
      clear hg1
      go_wp2_with fail
      refine (hl2 _).mono ?_
      rintro e w2 ⟨rfl, hg2⟩
      have HG2 := Lib.hid (HG1.out.trans hg2)
      clear hg2
      go_wp2
      go_ret
      exact ⟨rfl, HG2.out⟩
  · obtain rfl : M = -1 := eM
    go_enter Tryd.func49, Tryd.ntmps49
    go_wp2_with fail
    refine (hl1 _).mono ?_
    rw [← eW0]
    rintro e w1 ⟨rfl, hg1⟩
    have HG1 := Lib.hid (HG.out.trans hg1)
    clear hg1
    go_wp2
    go_ret
    exact ⟨rfl, HG1.out⟩
end Go.Proofs.YtfadfdfpocpelaaDoor
