/- Which of two places stands ahead, by package place and by the plain answer. Conditions: none. -/
import Derived.Test.YtabnfiligbpocaaDoorSmall
namespace Go.Proofs.YtabnfiligbpocaaDoor
open Go.RowKit Go.ChangeShapes Go.WideShapes

/-- By kind, then by both numbers. -/
def lessP (a b : Pl) : Bool := if a.k = b.k then (if a.i = b.i then decide (a.j < b.j) else decide (a.i < b.i)) else decide (a.k < b.k)
theorem lessP_or (a b : Pl) : decide (orI (cmpI a.k b.k) (orI (cmpI a.i b.i) (cmpI a.j b.j)) < 0) = lessP a b := by
  unfold lessP orI cmpI
  have z : ∀ x y : Int, x ≠ y → ((if x < y then (-1 : Int) else if y < x then 1 else 0) ≠ 0) ∧ decide ((if x < y then (-1 : Int) else if y < x then 1 else 0) < 0) = decide (x < y) := by
    intro x y h
    rcases Int.lt_or_gt_of_ne h with h | h
    · rw [if_pos h]
      simp [h]
    · rw [if_neg (by omega), if_pos h]
      simp
      omega
  have e : ∀ x : Int, (if x < x then (-1 : Int) else if x < x then 1 else 0) = 0 := fun x => by simp
  by_cases hk : a.k = b.k
  · rw [if_pos hk, hk, e, if_pos rfl]
    by_cases hi : a.i = b.i
    · rw [if_pos hi, hi, e, if_pos rfl]
      by_cases hj : a.j = b.j
      · rw [hj, e]
        simp
      · exact (z _ _ hj).2
    · rw [if_neg hi, if_neg (z _ _ hi).1]
      exact (z _ _ hi).2
  · rw [if_neg hk, if_neg (z _ _ hk).1]
    exact (z _ _ hk).2
set_option maxRecDepth 100000 in
set_option maxHeartbeats 2000000 in
theorem less_any (x y : Pl) (w : World) : Calls Tryd.prog 16 #[.agg x.cs.toArray, .agg y.cs.toArray] w fun e w' => e = .returned (.bool (lessP x y)) ∧ Below w.heap.size w w' := by
  obtain ⟨z, ez⟩ : ∃ z, z = w.heap.size := ⟨_, rfl⟩
  obtain ⟨W0, eW0⟩ : ∃ W, W = (w.alloc (.cells x.cs.toArray 23)).alloc (.cells y.cs.toArray 23) := ⟨_, rfl⟩
  have hb0 : Below w.heap.size w W0 := by rw [eW0]; exact ((Below.refl _ w).alloc (Nat.le_refl _) _).alloc (by simp) _
  have hs0 : W0.heap.size = z + 2 := by rw [eW0, ez]; simp
  have hx : Blk W0 z 23 x.cs.toArray := by rw [eW0, ez]; exact Blk.on (heap_alloc_new w _) ((Below.refl _ _).alloc (Nat.le_refl _) _)
  have hy : Blk W0 (z + 1) 23 y.cs.toArray := by rw [eW0, ez]; exact blk_new _ _ 23 _ (by simp)
  have tS : ∀ W, Below W0.heap.size W0 W → W.cell? ⟨z, 0, none⟩ = some (.int .i64 x.k) ∧ W.cell? ⟨z, 1, none⟩ = some (.int .i64 x.i) ∧ W.cell? ⟨z, 2, none⟩ = some (.int .i64 x.j) ∧ W.cell? ⟨z + 1, 0, none⟩ = some (.int .i64 y.k) ∧ W.cell? ⟨z + 1, 1, none⟩ = some (.int .i64 y.i) ∧ W.cell? ⟨z + 1, 2, none⟩ = some (.int .i64 y.j) :=
    fun W hW => ⟨(hx.on hW).cell 0, (hx.on hW).cell 1, (hx.on hW).cell 2, (hy.on hW).cell 0, (hy.on hW).cell 1, (hy.on hW).cell 2⟩
  have k0 : Below W0.heap.size W0 W0.drew := (Below.refl _ W0).drew
  obtain ⟨a, ea⟩ : ∃ a, a = cmpI x.k y.k := ⟨_, rfl⟩
  obtain ⟨b, eb⟩ : ∃ b, b = cmpI x.i y.i := ⟨_, rfl⟩
  obtain ⟨c, ec⟩ : ∃ c, c = cmpI x.j y.j := ⟨_, rfl⟩
  have hca := fun W => cmp_any x.k y.k W
  have hcb := fun W => cmp_any x.i y.i W
  have hcc := fun W => cmp_any x.j y.j W
  obtain ⟨L, eL⟩ : ∃ L, L = lessP x y := ⟨_, rfl⟩
  rw [← eL]
  rw [← lessP_or, ← ea, ← eb, ← ec] at eL
  rw [← ea] at hca
  rw [← eb] at hcb
  rw [← ec] at hcc
  have hor := or_any a b c W0.drew
  generalize orI a (orI b c) = M at hor eL
  have k1 : Below W0.heap.size W0 (W0.drew.alloc (.cells #[.int .i64 a, .int .i64 b, .int .i64 c] 3)) := k0.alloc k0.size _
  have hbE := hb0.trans (k1.mono hb0.size)
  have HL := Lib.hid eL
  clear eL hx hy ea eb ec hs0
  go_enter Tryd.func16, Tryd.ntmps16
  go_wp2_with fail
  rw [← eW0, ← ez]
  clear eW0
  have EZ := Lib.hid ez
  clear ez
  refine wp_region_noPanic ?_
  refine wp_region_held_drew (S := (fun W => Below W0.heap.size W0 W)) (by kernel_rfl) k0 (fun hHeld => ?_)
  refine wpAnyH_take (i := 0) (oi := ⟨some 5, _, _, _, _, _⟩) (v := ?_) rfl (by kernel_rfl) (by kernel_rfl) (by kernel_rfl) (fun _ _ _ h => h) (Or.inl ⟨by rfl, ?_⟩) (by assumption) ?_
  rotate_left 1
  · (intro W hSw; obtain ⟨f0, f1, f2, f3, f4, f5⟩ := tS W hSw; go_simp <;> with_reducible rfl)
  try simp only [Act.put, List.setIfInBounds_toArray, List.set_cons_zero, List.set_cons_succ]
  refine wpAnyH_take (i := 1) (oi := ⟨some 6, _, _, _, _, _⟩) (v := ?_) rfl (by kernel_rfl) (by kernel_rfl) (by kernel_rfl) (fun _ _ _ h => h) (Or.inl ⟨by rfl, ?_⟩) (by assumption) ?_
  rotate_left 1
  · (intro W hSw; obtain ⟨f0, f1, f2, f3, f4, f5⟩ := tS W hSw; go_simp <;> with_reducible rfl)
  try simp only [Act.put, List.setIfInBounds_toArray, List.set_cons_zero, List.set_cons_succ]
  refine wpAnyH_take (i := 2) (oi := ⟨some 7, _, _, _, _, _⟩) (v := ?_) rfl (by kernel_rfl) (by kernel_rfl) (by kernel_rfl) (fun _ _ _ h => h) (Or.inl ⟨by rfl, ?_⟩) (by assumption) ?_
  rotate_left 1
  · (intro W hSw; obtain ⟨f0, f1, f2, f3, f4, f5⟩ := tS W hSw; go_simp <;> with_reducible rfl)
  try simp only [Act.put, List.setIfInBounds_toArray, List.set_cons_zero, List.set_cons_succ]
  refine wpAnyH_take (i := 3) (oi := ⟨some 8, _, _, _, _, _⟩) (v := ?_) rfl (by kernel_rfl) (by kernel_rfl) (by kernel_rfl) (fun _ _ _ h => h) (Or.inl ⟨by rfl, ?_⟩) (by assumption) ?_
  rotate_left 1
  · (intro W hSw; obtain ⟨f0, f1, f2, f3, f4, f5⟩ := tS W hSw; go_simp <;> with_reducible rfl)
  try simp only [Act.put, List.setIfInBounds_toArray, List.set_cons_zero, List.set_cons_succ]
  refine wpAnyH_take (i := 5) (oi := ⟨some 10, _, _, _, _, _⟩) (v := ?_) rfl (by kernel_rfl) (by kernel_rfl) (by kernel_rfl) (fun _ _ _ h => h) (Or.inl ⟨by rfl, ?_⟩) (by assumption) ?_
  rotate_left 1
  · (intro W hSw; obtain ⟨f0, f1, f2, f3, f4, f5⟩ := tS W hSw; go_simp <;> with_reducible rfl)
  try simp only [Act.put, List.setIfInBounds_toArray, List.set_cons_zero, List.set_cons_succ]
  refine wpAnyH_take (i := 6) (oi := ⟨some 11, _, _, _, _, _⟩) (v := ?_) rfl (by kernel_rfl) (by kernel_rfl) (by kernel_rfl) (fun _ _ _ h => h) (Or.inl ⟨by rfl, ?_⟩) (by assumption) ?_
  rotate_left 1
  · (intro W hSw; obtain ⟨f0, f1, f2, f3, f4, f5⟩ := tS W hSw; go_simp <;> with_reducible rfl)
  try simp only [Act.put, List.setIfInBounds_toArray, List.set_cons_zero, List.set_cons_succ]
  refine wpAnyH_take (i := 7) (oi := ⟨some 12, _, _, _, _, _⟩) (v := ?_) rfl (by kernel_rfl) (by kernel_rfl) (by kernel_rfl) (fun _ _ _ h => h) (Or.inl ⟨by rfl, ?_⟩) (by assumption) ?_
  rotate_left 1
  · (intro W hSw; obtain ⟨f0, f1, f2, f3, f4, f5⟩ := tS W hSw; go_simp <;> with_reducible rfl)
  try simp only [Act.put, List.setIfInBounds_toArray, List.set_cons_zero, List.set_cons_succ]
  refine wpAnyH_take (i := 8) (oi := ⟨some 13, _, _, _, _, _⟩) (v := ?_) rfl (by kernel_rfl) (by kernel_rfl) (by kernel_rfl) (fun _ _ _ h => h) (Or.inl ⟨by rfl, ?_⟩) (by assumption) ?_
  rotate_left 1
  · (intro W hSw; obtain ⟨f0, f1, f2, f3, f4, f5⟩ := tS W hSw; go_simp <;> with_reducible rfl)
  try simp only [Act.put, List.setIfInBounds_toArray, List.set_cons_zero, List.set_cons_succ]
  refine wpAnyH_take (i := 10) (oi := ⟨some 15, _, _, _, _, _⟩) (v := ?_) rfl (by kernel_rfl) (by kernel_rfl) (by kernel_rfl) (fun _ _ _ h => h) (Or.inl ⟨by rfl, ?_⟩) (by assumption) ?_
  rotate_left 1
  · (intro W hSw; obtain ⟨f0, f1, f2, f3, f4, f5⟩ := tS W hSw; go_simp <;> with_reducible rfl)
  try simp only [Act.put, List.setIfInBounds_toArray, List.set_cons_zero, List.set_cons_succ]
  refine wpAnyH_take (i := 11) (oi := ⟨some 16, _, _, _, _, _⟩) (v := ?_) rfl (by kernel_rfl) (by kernel_rfl) (by kernel_rfl) (fun _ _ _ h => h) (Or.inl ⟨by rfl, ?_⟩) (by assumption) ?_
  rotate_left 1
  · (intro W hSw; obtain ⟨f0, f1, f2, f3, f4, f5⟩ := tS W hSw; go_simp <;> with_reducible rfl)
  try simp only [Act.put, List.setIfInBounds_toArray, List.set_cons_zero, List.set_cons_succ]
  refine wpAnyH_take (i := 12) (oi := ⟨some 17, _, _, _, _, _⟩) (v := ?_) rfl (by kernel_rfl) (by kernel_rfl) (by kernel_rfl) (fun _ _ _ h => h) (Or.inl ⟨by rfl, ?_⟩) (by assumption) ?_
  rotate_left 1
  · (intro W hSw; obtain ⟨f0, f1, f2, f3, f4, f5⟩ := tS W hSw; go_simp <;> with_reducible rfl)
  try simp only [Act.put, List.setIfInBounds_toArray, List.set_cons_zero, List.set_cons_succ]
  refine wpAnyH_take (i := 13) (oi := ⟨some 18, _, _, _, _, _⟩) (v := ?_) rfl (by kernel_rfl) (by kernel_rfl) (by kernel_rfl) (fun _ _ _ h => h) (Or.inl ⟨by rfl, ?_⟩) (by assumption) ?_
  rotate_left 1
  · (intro W hSw; obtain ⟨f0, f1, f2, f3, f4, f5⟩ := tS W hSw; go_simp <;> with_reducible rfl)
  try simp only [Act.put, List.setIfInBounds_toArray, List.set_cons_zero, List.set_cons_succ]
  refine wpAnyH_ready (rs := [4]) (by kernel_rfl) (by simp) ?_
  refine AllReadyH.cons rfl (fun K hK => ?_) AllReadyH.nil
  go_simp
  refine (hca _).mono ?_
  rintro e w' ⟨rfl, rfl⟩
  refine hK.out _ _ k0 (fun hHeld1 => ?_)
  clear hHeld hK K
  try simp only [Act.put, List.setIfInBounds_toArray, List.set_cons_zero, List.set_cons_succ]
  refine wpAnyH_ready (rs := [9]) (by kernel_rfl) (by simp) ?_
  refine AllReadyH.cons rfl (fun K hK => ?_) AllReadyH.nil
  go_simp
  refine (hcb _).mono ?_
  rintro e w' ⟨rfl, rfl⟩
  refine hK.out _ _ k0 (fun hHeld2 => ?_)
  clear hHeld1 hK K
  try simp only [Act.put, List.setIfInBounds_toArray, List.set_cons_zero, List.set_cons_succ]
  refine wpAnyH_ready (rs := [14]) (by kernel_rfl) (by simp) ?_
  refine AllReadyH.cons rfl (fun K hK => ?_) AllReadyH.nil
  go_simp
  refine (hcc _).mono ?_
  rintro e w' ⟨rfl, rfl⟩
  refine hK.out _ _ k0 (fun hHeld3 => ?_)
  clear hHeld2 hK K
  try simp only [Act.put, List.setIfInBounds_toArray, List.set_cons_zero, List.set_cons_succ]
  refine wpAnyH_ready (rs := [15]) (by kernel_rfl) (by simp) ?_
  refine AllReadyH.cons rfl (fun K hK => ?_) AllReadyH.nil
  go_simp
  refine hK.out _ _ k1 (fun hHeld4 => ?_)
  clear hHeld3 hK K
  try simp only [Act.put, List.setIfInBounds_toArray, List.set_cons_zero, List.set_cons_succ]
  refine wpAnyH_ready (rs := [16]) (by kernel_rfl) (by simp) ?_
  refine AllReadyH.cons rfl (fun K hK => ?_) AllReadyH.nil
  go_simp
  refine (hor).mono ?_
  rintro e w' ⟨rfl, rfl⟩
  refine hK.out _ _ k1 (fun hHeld5 => ?_)
  clear hHeld4 hK K
  try simp only [Act.put, List.setIfInBounds_toArray, List.set_cons_zero, List.set_cons_succ]
  refine wpAnyH_take (i := 17) (oi := ⟨some 22, _, _, _, _, _⟩) (v := ?_) rfl (by kernel_rfl) (by kernel_rfl) (by kernel_rfl) (fun _ _ _ h => h) (Or.inl ⟨by rfl, ?_⟩) (by assumption) ?_
  rotate_left 1
  · (intro W hSw; obtain ⟨f0, f1, f2, f3, f4, f5⟩ := tS W hSw; go_simp <;> with_reducible rfl)
  try simp only [Act.put, List.setIfInBounds_toArray, List.set_cons_zero, List.set_cons_succ]
  refine wpAnyH_take (i := 18) (oi := ⟨some 4, _, _, _, _, _⟩) (v := ?_) rfl (by kernel_rfl) (by kernel_rfl) (by kernel_rfl) (fun _ _ _ h => h) (Or.inl ⟨by rfl, ?_⟩) (by assumption) ?_
  rotate_left 1
  · (intro W hSw; obtain ⟨f0, f1, f2, f3, f4, f5⟩ := tS W hSw; go_simp <;> with_reducible rfl)
  try simp only [Act.put, List.setIfInBounds_toArray, List.set_cons_zero, List.set_cons_succ]
  refine wpAnyH_done (by kernel_rfl) ?_ _
  refine NoPanic.normal ?_
  go_wp2
  go_ret
  exact ⟨by rw [HL.out]; rfl, hbE⟩
set_option maxRecDepth 100000 in
set_option maxHeartbeats 2000000 in
theorem rless_any (x y : Pl) (w : World) : Calls Tryd.prog 13 #[.agg x.cs.toArray, .agg y.cs.toArray] w fun e w' => e = .returned (.bool (lessP x y)) ∧ Below w.heap.size w w' := by
  obtain ⟨k, i, j⟩ := x
  obtain ⟨k', i', j'⟩ := y
  have hb0 : Below w.heap.size w ((w.alloc (.cells #[.int .i64 k, .int .i64 i, .int .i64 j] 23)).alloc (.cells #[.int .i64 k', .int .i64 i', .int .i64 j'] 23)) := ((Below.refl _ w).alloc (Nat.le_refl _) _).alloc (by simp) _
  obtain ⟨L, eL⟩ : ∃ L, L = lessP ⟨k, i, j⟩ ⟨k', i', j'⟩ := ⟨_, rfl⟩
  rw [← eL]
  unfold lessP at eL
  simp only at eL
  show Calls Tryd.prog 13 #[.agg #[.int .i64 k, .int .i64 i, .int .i64 j], .agg #[.int .i64 k', .int .i64 i', .int .i64 j']] w _
  by_cases hk : k = k'
  · rw [if_pos hk] at eL
    have t1 : (k != k') = false := by simpa using hk
    by_cases hi : i = i'
    · rw [if_pos hi] at eL
      have t2 : (i != i') = false := by simpa using hi
      subst eL
      clear hk hi
      go_enter Tryd.func13, Tryd.ntmps13
      go_wp2
      go_ret
      exact ⟨rfl, hb0⟩
    · rw [if_neg hi] at eL
      have t2 : (i != i') = true := by simpa using hi
      subst eL
      clear hk hi
      go_enter Tryd.func13, Tryd.ntmps13
      go_wp2
      go_ret
      exact ⟨rfl, hb0⟩
  · rw [if_neg hk] at eL
    have t1 : (k != k') = true := by simpa using hk
    subst eL
    clear hk
    go_enter Tryd.func13, Tryd.ntmps13
    go_wp2
    go_ret
    exact ⟨rfl, hb0⟩
end Go.Proofs.YtabnfiligbpocaaDoor
