/- How keys are held against each other, by the closure. Conditions: none. -/
import Derived.Test.YtenobgelhkpjcaaKeys
import Derived.Test.YtenobgelhkpjcaaShelf
namespace Go.Proofs.Ytenobgelhkpjcaa
open Go.ChangeShapes Go.WideShapes Go.RowKit Go.Sort

/-- By thread, then by instruction. -/
def orI (a b : Int) : Int := if a = 0 then b else a
def cmpK (x y : Ky) : Int := orI (Lib.compareInt x.t y.t) (Lib.compareInt x.p y.p)
set_option maxRecDepth 100000 in
theorem or_any (a b : Int) (w : World) : Calls Try.prog 21 #[.slice (some ⟨w.heap.size, 0, none⟩) 2 2] (w.alloc (.cells #[.int .i64 a, .int .i64 b] 3)) fun e w' => e = .returned (.int .i64 (orI a b)) ∧ w.alloc (.cells #[.int .i64 a, .int .i64 b] 3) = w' := by
  obtain ⟨W, eW⟩ : ∃ W, W = w.alloc (.cells #[.int .i64 a, .int .i64 b] 3) := ⟨_, rfl⟩
  have hB : Blk W w.heap.size 3 #[.int .i64 a, .int .i64 b] := by rw [eW]; exact heap_alloc_new w _
  rw [← eW]
  generalize w.heap.size = z at hB ⊢
  have c0 : W.cell? ⟨z, 0, none⟩ = some (.int .i64 a) := hB.cell 0
  have c1 : W.cell? ⟨z, 1, none⟩ = some (.int .i64 b) := hB.cell 1
  clear eW
  obtain ⟨M, eM⟩ : ∃ M, M = orI a b := ⟨_, rfl⟩
  rw [← eM]
  unfold orI at eM
  by_cases h0 : a = 0
  · rw [if_pos h0] at eM
    subst h0
    by_cases h1 : b = 0
    · subst h1 eM
      go_enter Try.func21, Try.ntmps21
      go_wp2_with fail
      refine wp_loop_rounds 3 ?_
      iterate 3 (rw [rounds_succ]; go_wp2)
      go_ret
      exact ⟨rfl, rfl⟩
    · subst eM
      have t1 : (M != 0) = true := by simpa using h1
      clear h1
      go_enter Try.func21, Try.ntmps21
      go_wp2_with fail
      refine wp_loop_rounds 3 ?_
      iterate 2 (rw [rounds_succ]; go_wp2)
      go_ret
      exact ⟨rfl, rfl⟩
  · rw [if_neg h0] at eM
    subst eM
    have t1 : (M != 0) = true := by simpa using h0
    clear h0
    go_enter Try.func21, Try.ntmps21
    go_wp2_with fail
    refine wp_loop_rounds 3 ?_
    iterate 1 (rw [rounds_succ]; go_wp2)
    go_ret
    exact ⟨rfl, rfl⟩
set_option maxRecDepth 100000 in
set_option maxHeartbeats 2000000 in
/-- Two boxes, and the list of two. -/
theorem closure_any (x y : Ky) (w : World) : Calls Try.prog 20 #[.agg x.cs.toArray, .agg y.cs.toArray] w fun e w' => e = .returned (.int .i64 (cmpK x y)) ∧ ∃ q os', w' = grow (w.drewN q) os' := by
  obtain ⟨z, ez⟩ : ∃ z, z = w.heap.size := ⟨_, rfl⟩
  obtain ⟨W0, eW0⟩ : ∃ W, W = (w.alloc (.cells x.cs.toArray 41)).alloc (.cells y.cs.toArray 41) := ⟨_, rfl⟩
  have hs0 : W0.heap.size = z + 2 := by rw [eW0, ez]; simp
  have hx : Blk W0 z 41 x.cs.toArray := by rw [eW0, ez]; exact Blk.on (heap_alloc_new w _) ((Below.refl _ _).alloc (Nat.le_refl _) _)
  have hy : Blk W0 (z + 1) 41 y.cs.toArray := by rw [eW0, ez]; exact blk_new _ _ 41 _ (by simp)
  have tS : ∀ W, Below W0.heap.size W0 W → W.cell? ⟨z, 1, none⟩ = some (.int .i64 x.t) ∧ W.cell? ⟨z, 2, none⟩ = some (.int .i64 x.p) ∧ W.cell? ⟨z + 1, 1, none⟩ = some (.int .i64 y.t) ∧ W.cell? ⟨z + 1, 2, none⟩ = some (.int .i64 y.p) :=
    fun W hW => ⟨(hx.on hW).cell 1, (hx.on hW).cell 2, (hy.on hW).cell 1, (hy.on hW).cell 2⟩
  have k0 : Below W0.heap.size W0 W0.drew := (Below.refl _ W0).drew
  obtain ⟨a, ea⟩ : ∃ a, a = Lib.compareInt x.t y.t := ⟨_, rfl⟩
  obtain ⟨b, eb⟩ : ∃ b, b = Lib.compareInt x.p y.p := ⟨_, rfl⟩
  have hca := fun W => Try.cmp_Compare_int x.t y.t W
  have hcb := fun W => Try.cmp_Compare_int x.p y.p W
  have hM : cmpK x y = orI a b := by unfold cmpK; rw [ea, eb]
  rw [hM]
  rw [← ea] at hca
  rw [← eb] at hcb
  have hor := or_any a b W0.drew
  have hW : ∃ q os', W0.drew.alloc (.cells #[.int .i64 a, .int .i64 b] 3) = grow (w.drewN q) os' := ⟨1, _, by rw [eW0, alloc_eq_grow, alloc_eq_grow, alloc_eq_grow, grow_grow, drew_grow, grow_grow]; rfl⟩
  have HW := Lib.hid hW
  generalize orI a b = M at hor ⊢
  clear hM hx hy ea eb hW hs0
  go_enter Try.func20, Try.ntmps20
  go_wp2_with fail
  rw [← eW0, ← ez]
  clear eW0
  have EZ := Lib.hid ez
  clear ez
  refine wp_region_noPanic ?_
  refine wp_region_held_drew (S := (fun W => Below W0.heap.size W0 W)) (by kernel_rfl) k0 (fun hHeld => ?_)
  refine wpAnyH_take (i := 0) (oi := ⟨some 5, _, _, _, _, _⟩) (v := ?_) rfl (by kernel_rfl) (by kernel_rfl) (by kernel_rfl) (fun _ _ _ h => h) (Or.inl ⟨by rfl, ?_⟩) (by assumption) ?_
  rotate_left 1
  · (intro W hSw; obtain ⟨f0, f1, f2, f3⟩ := tS W hSw; go_simp <;> with_reducible rfl)
  try simp only [Act.put, List.setIfInBounds_toArray, List.set_cons_zero, List.set_cons_succ]
  refine wpAnyH_take (i := 1) (oi := ⟨some 6, _, _, _, _, _⟩) (v := ?_) rfl (by kernel_rfl) (by kernel_rfl) (by kernel_rfl) (fun _ _ _ h => h) (Or.inl ⟨by rfl, ?_⟩) (by assumption) ?_
  rotate_left 1
  · (intro W hSw; obtain ⟨f0, f1, f2, f3⟩ := tS W hSw; go_simp <;> with_reducible rfl)
  try simp only [Act.put, List.setIfInBounds_toArray, List.set_cons_zero, List.set_cons_succ]
  refine wpAnyH_take (i := 2) (oi := ⟨some 7, _, _, _, _, _⟩) (v := ?_) rfl (by kernel_rfl) (by kernel_rfl) (by kernel_rfl) (fun _ _ _ h => h) (Or.inl ⟨by rfl, ?_⟩) (by assumption) ?_
  rotate_left 1
  · (intro W hSw; obtain ⟨f0, f1, f2, f3⟩ := tS W hSw; go_simp <;> with_reducible rfl)
  try simp only [Act.put, List.setIfInBounds_toArray, List.set_cons_zero, List.set_cons_succ]
  refine wpAnyH_take (i := 3) (oi := ⟨some 8, _, _, _, _, _⟩) (v := ?_) rfl (by kernel_rfl) (by kernel_rfl) (by kernel_rfl) (fun _ _ _ h => h) (Or.inl ⟨by rfl, ?_⟩) (by assumption) ?_
  rotate_left 1
  · (intro W hSw; obtain ⟨f0, f1, f2, f3⟩ := tS W hSw; go_simp <;> with_reducible rfl)
  try simp only [Act.put, List.setIfInBounds_toArray, List.set_cons_zero, List.set_cons_succ]
  refine wpAnyH_take (i := 5) (oi := ⟨some 10, _, _, _, _, _⟩) (v := ?_) rfl (by kernel_rfl) (by kernel_rfl) (by kernel_rfl) (fun _ _ _ h => h) (Or.inl ⟨by rfl, ?_⟩) (by assumption) ?_
  rotate_left 1
  · (intro W hSw; obtain ⟨f0, f1, f2, f3⟩ := tS W hSw; go_simp <;> with_reducible rfl)
  try simp only [Act.put, List.setIfInBounds_toArray, List.set_cons_zero, List.set_cons_succ]
  refine wpAnyH_take (i := 6) (oi := ⟨some 11, _, _, _, _, _⟩) (v := ?_) rfl (by kernel_rfl) (by kernel_rfl) (by kernel_rfl) (fun _ _ _ h => h) (Or.inl ⟨by rfl, ?_⟩) (by assumption) ?_
  rotate_left 1
  · (intro W hSw; obtain ⟨f0, f1, f2, f3⟩ := tS W hSw; go_simp <;> with_reducible rfl)
  try simp only [Act.put, List.setIfInBounds_toArray, List.set_cons_zero, List.set_cons_succ]
  refine wpAnyH_take (i := 7) (oi := ⟨some 12, _, _, _, _, _⟩) (v := ?_) rfl (by kernel_rfl) (by kernel_rfl) (by kernel_rfl) (fun _ _ _ h => h) (Or.inl ⟨by rfl, ?_⟩) (by assumption) ?_
  rotate_left 1
  · (intro W hSw; obtain ⟨f0, f1, f2, f3⟩ := tS W hSw; go_simp <;> with_reducible rfl)
  try simp only [Act.put, List.setIfInBounds_toArray, List.set_cons_zero, List.set_cons_succ]
  refine wpAnyH_take (i := 8) (oi := ⟨some 13, _, _, _, _, _⟩) (v := ?_) rfl (by kernel_rfl) (by kernel_rfl) (by kernel_rfl) (fun _ _ _ h => h) (Or.inl ⟨by rfl, ?_⟩) (by assumption) ?_
  rotate_left 1
  · (intro W hSw; obtain ⟨f0, f1, f2, f3⟩ := tS W hSw; go_simp <;> with_reducible rfl)
  try simp only [Act.put, List.setIfInBounds_toArray, List.set_cons_zero, List.set_cons_succ]
  refine wpAnyH_ready (rs := [4]) (by kernel_rfl) (by simp) ?_
  refine AllReadyH.cons rfl (fun K hK => ?_) AllReadyH.nil
  go_simp
  refine (hca _).mono ?_
  rintro e w' ⟨rfl, rfl⟩
  refine hK.out _ _ k0 (fun hHeld1 => ?_)
  clear hHeld hK K
  try simp only [Act.put, List.setIfInBounds_toArray, List.set_cons_zero, List.set_cons_succ]
  refine wpAnyH_ready (rs := [9]) (by kernel_rfl) (by simp) ?_
  refine AllReadyH.cons rfl (fun K hK => ?_) AllReadyH.nil
  go_simp
  refine (hcb _).mono ?_
  rintro e w' ⟨rfl, rfl⟩
  refine hK.out _ _ k0 (fun hHeld2 => ?_)
  clear hHeld1 hK K
  try simp only [Act.put, List.setIfInBounds_toArray, List.set_cons_zero, List.set_cons_succ]
  refine wpAnyH_ready (rs := [10]) (by kernel_rfl) (by simp) ?_
  refine AllReadyH.cons rfl (fun K hK => ?_) AllReadyH.nil
  go_simp
  refine hK.out _ _ (k0.alloc k0.size _) (fun hHeld3 => ?_)
  clear hHeld2 hK K
  try simp only [Act.put, List.setIfInBounds_toArray, List.set_cons_zero, List.set_cons_succ]
  refine wpAnyH_ready (rs := [11]) (by kernel_rfl) (by simp) ?_
  refine AllReadyH.cons rfl (fun K hK => ?_) AllReadyH.nil
  go_simp
  refine hor.mono ?_
  rintro e w' ⟨rfl, rfl⟩
  refine hK.out _ _ (k0.alloc k0.size _) (fun hHeld4 => ?_)
  clear hHeld3 hK K
  try simp only [Act.put, List.setIfInBounds_toArray, List.set_cons_zero, List.set_cons_succ]
  refine wpAnyH_take (i := 12) (oi := ⟨some 4, _, _, _, _, _⟩) (v := ?_) rfl (by kernel_rfl) (by kernel_rfl) (by kernel_rfl) (fun _ _ _ h => h) (Or.inl ⟨by rfl, ?_⟩) (by assumption) ?_
  rotate_left 1
  · (intro W hSw; obtain ⟨f0, f1, f2, f3⟩ := tS W hSw; go_simp <;> with_reducible rfl)
  try simp only [Act.put, List.setIfInBounds_toArray, List.set_cons_zero, List.set_cons_succ]
  refine wpAnyH_done (by kernel_rfl) ?_ _
  refine NoPanic.normal ?_
  go_wp2
  go_ret
  exact ⟨rfl, HW.out⟩
end Go.Proofs.Ytenobgelhkpjcaa
