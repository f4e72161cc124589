/- The law PlaceTexts returns true, for every place. Conditions: the library's table of powers of ten lies as it is laid; the place's numbers have 64 bits. -/
import Derived.Test.YtabnfiligbpocaaDoorAlive
namespace Go.Proofs.YtabnfiligbpocaaDoor
open Go.RowKit Go.ChangeShapes Go.WideShapes

set_option maxRecDepth 100000 in
set_option maxHeartbeats 4000000 in
theorem texts_1 (i j : Int) (hi : Wide i) (hj : Wide j) (w : World) (hL : Laid w) : Calls Tryd.prog 6 #[.agg #[.int .i64 1, .int .i64 i, .int .i64 j]] w fun e w' => e = .returned (.bool true) ∧ Below w.heap.size w w' := by
  obtain ⟨z, ez⟩ : ∃ z, z = w.heap.size := ⟨_, rfl⟩
  obtain ⟨W0, eW0⟩ : ∃ W, W = w.alloc (.cells #[.int .i64 1, .int .i64 i, .int .i64 j] 23) := ⟨_, rfl⟩
  have hb0 : Below w.heap.size w W0 := by rw [eW0]; exact (Below.refl _ w).alloc (Nat.le_refl _) _
  have hx0 : Blk W0 z 23 #[.int .i64 1, .int .i64 i, .int .i64 j] := by rw [eW0, ez]; exact heap_alloc_new w _
  obtain ⟨SI, eI⟩ : ∃ S, S = txt (Lib.itoa i) := ⟨_, rfl⟩
  obtain ⟨SJ, eJ⟩ : ∃ S, S = txt (Lib.itoa j) := ⟨_, rfl⟩
  have zI : SI.size ≤ 21 := by rw [eI, txt_size]; exact itoa_short i hi
  have zJ : SJ.size ≤ 21 := by rw [eJ, txt_size]; exact itoa_short j hj
  have h17 : ∀ W, Below W0.heap.size W0 W → Calls Tryd.prog 17 #[.int .i64 i] W fun e w' => e = .returned (.string SI) ∧ Below W.heap.size W w' := fun W hW => by rw [eI]; exact dec_any i hi W ((hL.on hb0).on hW)
  have h71 : ∀ W, Below W0.heap.size W0 W → Calls Tryd.prog 17 #[.int .i64 j] W fun e w' => e = .returned (.string SJ) ∧ Below W.heap.size W w' := fun W hW => by rw [eJ]; exact dec_any j hj W ((hL.on hb0).on hW)
  obtain ⟨U, eU⟩ : ∃ S, S = txt (joinL (wordsP [114, 111, 111, 116] [i])) := ⟨_, rfl⟩
  have h18 : ∀ W, Below W0.heap.size W0 W → Calls Tryd.prog 18 #[.agg #[.int .i64 1, .int .i64 i, .int .i64 j]] W fun e w' => e = .returned (.string U) ∧ Below W.heap.size W w' := fun W hW => by rw [eU]; exact text_1 i j hi W ((hL.on hb0).on hW)
  have hU : (⟨#[114, 111, 111, 116, 32]⟩ : ByteArray) ++ SI = U := by rw [eU, eI, show (⟨#[114, 111, 111, 116, 32]⟩ : ByteArray) = txt [114, 111, 111, 116, 32] from rfl, txt_app]; rfl
  have g1 : ¬ 9223372036854775807 < 5 + SI.size := by omega
  clear eI eJ eU
  have tS : ∀ W, Below W0.heap.size W0 W → W.cell? ⟨z, 1, none⟩ = some (.int .i64 i) ∧ W.cell? ⟨z, 2, none⟩ = some (.int .i64 j) := fun W hW => ⟨(hx0.on hW).cell 1, (hx0.on hW).cell 2⟩
  have tA : ∀ W, Below W0.heap.size W0 W → W.cell? ⟨z, 0, none⟩ = some (.int .i64 1) ∧ W.cell? ⟨z, 1, none⟩ = some (.int .i64 i) ∧ W.cell? ⟨z, 2, none⟩ = some (.int .i64 j) := fun W hW => ⟨(hx0.on hW).cell 0, (hx0.on hW).cell 1, (hx0.on hW).cell 2⟩
  go_enter Tryd.func6, Tryd.ntmps6
  go_wp2_with fail
  rw [← eW0, ← ez]
  clear eW0
  have HZ := Lib.hid ez
  clear ez
  refine (alive_any W0 (hL.on hb0)).mono ?_
  rintro e V ⟨rfl, hb1⟩
  have kk : Below W0.heap.size W0 V := hb1
  have hz0 : Below W0.heap.size W0 V.drew := kk.drew
  go_wp2_with fail
  have k0 : Below W0.heap.size W0 V.drew := hz0
  refine wp_region_noPanic ?_
  refine wp_region_held_drew (S := (fun W => Below W0.heap.size W0 W)) (by kernel_rfl) k0 (fun hHeld => ?_)
  refine wpAnyH_take (i := 0) (oi := ⟨some 8, _, _, _, _, _⟩) (v := ?_) rfl (by kernel_rfl) (by kernel_rfl) (by kernel_rfl) (fun _ _ _ h => h) (Or.inl ⟨by rfl, ?_⟩) (by assumption) ?_
  rotate_left 1
  · (intro W hSw; obtain ⟨f1, f2⟩ := tS W hSw; go_simp <;> with_reducible rfl)
  try simp only [Act.put, List.setIfInBounds_toArray, List.set_cons_zero, List.set_cons_succ]
  refine wpAnyH_take (i := 1) (oi := ⟨some 9, _, _, _, _, _⟩) (v := ?_) rfl (by kernel_rfl) (by kernel_rfl) (by kernel_rfl) (fun _ _ _ h => h) (Or.inl ⟨by rfl, ?_⟩) (by assumption) ?_
  rotate_left 1
  · (intro W hSw; obtain ⟨f1, f2⟩ := tS W hSw; go_simp <;> with_reducible rfl)
  try simp only [Act.put, List.setIfInBounds_toArray, List.set_cons_zero, List.set_cons_succ]
  refine wpAnyH_take (i := 3) (oi := ⟨some 11, _, _, _, _, _⟩) (v := ?_) rfl (by kernel_rfl) (by kernel_rfl) (by kernel_rfl) (fun _ _ _ h => h) (Or.inl ⟨by rfl, ?_⟩) (by assumption) ?_
  rotate_left 1
  · (intro W hSw; obtain ⟨f1, f2⟩ := tS W hSw; go_simp <;> with_reducible rfl)
  try simp only [Act.put, List.setIfInBounds_toArray, List.set_cons_zero, List.set_cons_succ]
  refine wpAnyH_take (i := 4) (oi := ⟨some 12, _, _, _, _, _⟩) (v := ?_) rfl (by kernel_rfl) (by kernel_rfl) (by kernel_rfl) (fun _ _ _ h => h) (Or.inl ⟨by rfl, ?_⟩) (by assumption) ?_
  rotate_left 1
  · (intro W hSw; obtain ⟨f1, f2⟩ := tS W hSw; go_simp <;> with_reducible rfl)
  try simp only [Act.put, List.setIfInBounds_toArray, List.set_cons_zero, List.set_cons_succ]
  refine wpAnyH_ready (rs := [2]) (by kernel_rfl) (by simp) ?_
  refine AllReadyH.cons rfl (fun K hK => ?_) AllReadyH.nil
  go_simp
  refine (h17 _ k0).mono ?_
  rintro e w11 ⟨rfl, hb11⟩
  have k1 := k0.trans (hb11.mono k0.size)
  have hKeep := k1
  refine hK.out _ _ ?_ (fun hHeld1 => ?_)
  · exact hKeep
  clear hHeld hK K hKeep
  try simp only [Act.put, List.setIfInBounds_toArray, List.set_cons_zero, List.set_cons_succ]
  refine wpAnyH_ready (rs := [5]) (by kernel_rfl) (by simp) ?_
  refine AllReadyH.cons rfl (fun K hK => ?_) AllReadyH.nil
  go_simp
  refine (h71 _ k1).mono ?_
  rintro e w12 ⟨rfl, hb12⟩
  have k2 := k1.trans (hb12.mono k1.size)
  have hKeep := k2
  refine hK.out _ _ ?_ (fun hHeld2 => ?_)
  · exact hKeep
  clear hHeld1 hK K hKeep
  try simp only [Act.put, List.setIfInBounds_toArray, List.set_cons_zero, List.set_cons_succ]
  refine wpAnyH_take (i := 6) (oi := ⟨some 3, _, _, _, _, _⟩) (v := ?_) rfl (by kernel_rfl) (by kernel_rfl) (by kernel_rfl) (fun _ _ _ h => h) (Or.inl ⟨by rfl, ?_⟩) (by assumption) ?_
  rotate_left 1
  · (intro W hSw; obtain ⟨f1, f2⟩ := tS W hSw; go_simp <;> with_reducible rfl)
  try simp only [Act.put, List.setIfInBounds_toArray, List.set_cons_zero, List.set_cons_succ]
  refine wpAnyH_take (i := 7) (oi := ⟨some 4, _, _, _, _, _⟩) (v := ?_) rfl (by kernel_rfl) (by kernel_rfl) (by kernel_rfl) (fun _ _ _ h => h) (Or.inl ⟨by rfl, ?_⟩) (by assumption) ?_
  rotate_left 1
  · (intro W hSw; obtain ⟨f1, f2⟩ := tS W hSw; go_simp <;> with_reducible rfl)
  try simp only [Act.put, List.setIfInBounds_toArray, List.set_cons_zero, List.set_cons_succ]
  refine wpAnyH_done (by kernel_rfl) ?_ _
  refine NoPanic.normal ?_
  obtain ⟨c0, c1, c2⟩ := tA w12 k2
  go_wp2_with fail
  refine (h18 w12 k2).mono ?_
  rintro e w13 ⟨rfl, hb13⟩
  go_wp2
  go_ret
  exact ⟨by simp, hb0.trans ((k2.trans (hb13.mono k2.size)).mono hb0.size)⟩
set_option maxRecDepth 100000 in
set_option maxHeartbeats 4000000 in
theorem texts_2 (i j : Int) (hi : Wide i) (hj : Wide j) (w : World) (hL : Laid w) : Calls Tryd.prog 6 #[.agg #[.int .i64 2, .int .i64 i, .int .i64 j]] w fun e w' => e = .returned (.bool true) ∧ Below w.heap.size w w' := by
  obtain ⟨z, ez⟩ : ∃ z, z = w.heap.size := ⟨_, rfl⟩
  obtain ⟨W0, eW0⟩ : ∃ W, W = w.alloc (.cells #[.int .i64 2, .int .i64 i, .int .i64 j] 23) := ⟨_, rfl⟩
  have hb0 : Below w.heap.size w W0 := by rw [eW0]; exact (Below.refl _ w).alloc (Nat.le_refl _) _
  have hx0 : Blk W0 z 23 #[.int .i64 2, .int .i64 i, .int .i64 j] := by rw [eW0, ez]; exact heap_alloc_new w _
  obtain ⟨SI, eI⟩ : ∃ S, S = txt (Lib.itoa i) := ⟨_, rfl⟩
  obtain ⟨SJ, eJ⟩ : ∃ S, S = txt (Lib.itoa j) := ⟨_, rfl⟩
  have zI : SI.size ≤ 21 := by rw [eI, txt_size]; exact itoa_short i hi
  have zJ : SJ.size ≤ 21 := by rw [eJ, txt_size]; exact itoa_short j hj
  have h17 : ∀ W, Below W0.heap.size W0 W → Calls Tryd.prog 17 #[.int .i64 i] W fun e w' => e = .returned (.string SI) ∧ Below W.heap.size W w' := fun W hW => by rw [eI]; exact dec_any i hi W ((hL.on hb0).on hW)
  have h71 : ∀ W, Below W0.heap.size W0 W → Calls Tryd.prog 17 #[.int .i64 j] W fun e w' => e = .returned (.string SJ) ∧ Below W.heap.size W w' := fun W hW => by rw [eJ]; exact dec_any j hj W ((hL.on hb0).on hW)
  obtain ⟨U, eU⟩ : ∃ S, S = txt (joinL (wordsP [104, 101, 97, 100] [i])) := ⟨_, rfl⟩
  have h18 : ∀ W, Below W0.heap.size W0 W → Calls Tryd.prog 18 #[.agg #[.int .i64 2, .int .i64 i, .int .i64 j]] W fun e w' => e = .returned (.string U) ∧ Below W.heap.size W w' := fun W hW => by rw [eU]; exact text_2 i j hi W ((hL.on hb0).on hW)
  have hU : (⟨#[104, 101, 97, 100, 32]⟩ : ByteArray) ++ SI = U := by rw [eU, eI, show (⟨#[104, 101, 97, 100, 32]⟩ : ByteArray) = txt [104, 101, 97, 100, 32] from rfl, txt_app]; rfl
  have g1 : ¬ 9223372036854775807 < 5 + SI.size := by omega
  clear eI eJ eU
  have tS : ∀ W, Below W0.heap.size W0 W → W.cell? ⟨z, 1, none⟩ = some (.int .i64 i) ∧ W.cell? ⟨z, 2, none⟩ = some (.int .i64 j) := fun W hW => ⟨(hx0.on hW).cell 1, (hx0.on hW).cell 2⟩
  have tA : ∀ W, Below W0.heap.size W0 W → W.cell? ⟨z, 0, none⟩ = some (.int .i64 2) ∧ W.cell? ⟨z, 1, none⟩ = some (.int .i64 i) ∧ W.cell? ⟨z, 2, none⟩ = some (.int .i64 j) := fun W hW => ⟨(hx0.on hW).cell 0, (hx0.on hW).cell 1, (hx0.on hW).cell 2⟩
  go_enter Tryd.func6, Tryd.ntmps6
  go_wp2_with fail
  rw [← eW0, ← ez]
  clear eW0
  have HZ := Lib.hid ez
  clear ez
  refine (alive_any W0 (hL.on hb0)).mono ?_
  rintro e V ⟨rfl, hb1⟩
  have kk : Below W0.heap.size W0 V := hb1
  have hz0 : Below W0.heap.size W0 V.drew := kk.drew
  go_wp2_with fail
  have k0 : Below W0.heap.size W0 V.drew := hz0
  refine wp_region_noPanic ?_
  refine wp_region_held_drew (S := (fun W => Below W0.heap.size W0 W)) (by kernel_rfl) k0 (fun hHeld => ?_)
  refine wpAnyH_take (i := 0) (oi := ⟨some 8, _, _, _, _, _⟩) (v := ?_) rfl (by kernel_rfl) (by kernel_rfl) (by kernel_rfl) (fun _ _ _ h => h) (Or.inl ⟨by rfl, ?_⟩) (by assumption) ?_
  rotate_left 1
  · (intro W hSw; obtain ⟨f1, f2⟩ := tS W hSw; go_simp <;> with_reducible rfl)
  try simp only [Act.put, List.setIfInBounds_toArray, List.set_cons_zero, List.set_cons_succ]
  refine wpAnyH_take (i := 1) (oi := ⟨some 9, _, _, _, _, _⟩) (v := ?_) rfl (by kernel_rfl) (by kernel_rfl) (by kernel_rfl) (fun _ _ _ h => h) (Or.inl ⟨by rfl, ?_⟩) (by assumption) ?_
  rotate_left 1
  · (intro W hSw; obtain ⟨f1, f2⟩ := tS W hSw; go_simp <;> with_reducible rfl)
  try simp only [Act.put, List.setIfInBounds_toArray, List.set_cons_zero, List.set_cons_succ]
  refine wpAnyH_take (i := 3) (oi := ⟨some 11, _, _, _, _, _⟩) (v := ?_) rfl (by kernel_rfl) (by kernel_rfl) (by kernel_rfl) (fun _ _ _ h => h) (Or.inl ⟨by rfl, ?_⟩) (by assumption) ?_
  rotate_left 1
  · (intro W hSw; obtain ⟨f1, f2⟩ := tS W hSw; go_simp <;> with_reducible rfl)
  try simp only [Act.put, List.setIfInBounds_toArray, List.set_cons_zero, List.set_cons_succ]
  refine wpAnyH_take (i := 4) (oi := ⟨some 12, _, _, _, _, _⟩) (v := ?_) rfl (by kernel_rfl) (by kernel_rfl) (by kernel_rfl) (fun _ _ _ h => h) (Or.inl ⟨by rfl, ?_⟩) (by assumption) ?_
  rotate_left 1
  · (intro W hSw; obtain ⟨f1, f2⟩ := tS W hSw; go_simp <;> with_reducible rfl)
  try simp only [Act.put, List.setIfInBounds_toArray, List.set_cons_zero, List.set_cons_succ]
  refine wpAnyH_ready (rs := [2]) (by kernel_rfl) (by simp) ?_
  refine AllReadyH.cons rfl (fun K hK => ?_) AllReadyH.nil
  go_simp
  refine (h17 _ k0).mono ?_
  rintro e w11 ⟨rfl, hb11⟩
  have k1 := k0.trans (hb11.mono k0.size)
  have hKeep := k1
  refine hK.out _ _ ?_ (fun hHeld1 => ?_)
  · exact hKeep
  clear hHeld hK K hKeep
  try simp only [Act.put, List.setIfInBounds_toArray, List.set_cons_zero, List.set_cons_succ]
  refine wpAnyH_ready (rs := [5]) (by kernel_rfl) (by simp) ?_
  refine AllReadyH.cons rfl (fun K hK => ?_) AllReadyH.nil
  go_simp
  refine (h71 _ k1).mono ?_
  rintro e w12 ⟨rfl, hb12⟩
  have k2 := k1.trans (hb12.mono k1.size)
  have hKeep := k2
  refine hK.out _ _ ?_ (fun hHeld2 => ?_)
  · exact hKeep
  clear hHeld1 hK K hKeep
  try simp only [Act.put, List.setIfInBounds_toArray, List.set_cons_zero, List.set_cons_succ]
  refine wpAnyH_take (i := 6) (oi := ⟨some 3, _, _, _, _, _⟩) (v := ?_) rfl (by kernel_rfl) (by kernel_rfl) (by kernel_rfl) (fun _ _ _ h => h) (Or.inl ⟨by rfl, ?_⟩) (by assumption) ?_
  rotate_left 1
  · (intro W hSw; obtain ⟨f1, f2⟩ := tS W hSw; go_simp <;> with_reducible rfl)
  try simp only [Act.put, List.setIfInBounds_toArray, List.set_cons_zero, List.set_cons_succ]
  refine wpAnyH_take (i := 7) (oi := ⟨some 4, _, _, _, _, _⟩) (v := ?_) rfl (by kernel_rfl) (by kernel_rfl) (by kernel_rfl) (fun _ _ _ h => h) (Or.inl ⟨by rfl, ?_⟩) (by assumption) ?_
  rotate_left 1
  · (intro W hSw; obtain ⟨f1, f2⟩ := tS W hSw; go_simp <;> with_reducible rfl)
  try simp only [Act.put, List.setIfInBounds_toArray, List.set_cons_zero, List.set_cons_succ]
  refine wpAnyH_done (by kernel_rfl) ?_ _
  refine NoPanic.normal ?_
  obtain ⟨c0, c1, c2⟩ := tA w12 k2
  go_wp2_with fail
  refine (h18 w12 k2).mono ?_
  rintro e w13 ⟨rfl, hb13⟩
  go_wp2
  go_ret
  exact ⟨by simp, hb0.trans ((k2.trans (hb13.mono k2.size)).mono hb0.size)⟩
set_option maxRecDepth 100000 in
set_option maxHeartbeats 4000000 in
theorem texts_3 (i j : Int) (hi : Wide i) (hj : Wide j) (w : World) (hL : Laid w) : Calls Tryd.prog 6 #[.agg #[.int .i64 3, .int .i64 i, .int .i64 j]] w fun e w' => e = .returned (.bool true) ∧ Below w.heap.size w w' := by
  obtain ⟨z, ez⟩ : ∃ z, z = w.heap.size := ⟨_, rfl⟩
  obtain ⟨W0, eW0⟩ : ∃ W, W = w.alloc (.cells #[.int .i64 3, .int .i64 i, .int .i64 j] 23) := ⟨_, rfl⟩
  have hb0 : Below w.heap.size w W0 := by rw [eW0]; exact (Below.refl _ w).alloc (Nat.le_refl _) _
  have hx0 : Blk W0 z 23 #[.int .i64 3, .int .i64 i, .int .i64 j] := by rw [eW0, ez]; exact heap_alloc_new w _
  obtain ⟨SI, eI⟩ : ∃ S, S = txt (Lib.itoa i) := ⟨_, rfl⟩
  obtain ⟨SJ, eJ⟩ : ∃ S, S = txt (Lib.itoa j) := ⟨_, rfl⟩
  have zI : SI.size ≤ 21 := by rw [eI, txt_size]; exact itoa_short i hi
  have zJ : SJ.size ≤ 21 := by rw [eJ, txt_size]; exact itoa_short j hj
  have h17 : ∀ W, Below W0.heap.size W0 W → Calls Tryd.prog 17 #[.int .i64 i] W fun e w' => e = .returned (.string SI) ∧ Below W.heap.size W w' := fun W hW => by rw [eI]; exact dec_any i hi W ((hL.on hb0).on hW)
  have h71 : ∀ W, Below W0.heap.size W0 W → Calls Tryd.prog 17 #[.int .i64 j] W fun e w' => e = .returned (.string SJ) ∧ Below W.heap.size W w' := fun W hW => by rw [eJ]; exact dec_any j hj W ((hL.on hb0).on hW)
  obtain ⟨U, eU⟩ : ∃ S, S = txt (joinL (wordsP [102, 105, 101, 108, 100] [i, j])) := ⟨_, rfl⟩
  have h18 : ∀ W, Below W0.heap.size W0 W → Calls Tryd.prog 18 #[.agg #[.int .i64 3, .int .i64 i, .int .i64 j]] W fun e w' => e = .returned (.string U) ∧ Below W.heap.size W w' := fun W hW => by rw [eU]; exact text_3 i j hi hj W ((hL.on hb0).on hW)
  obtain ⟨U1, hU1⟩ : ∃ S, (⟨#[102, 105, 101, 108, 100, 32]⟩ : ByteArray) ++ SI = S := ⟨_, rfl⟩
  obtain ⟨U2, hU2⟩ : ∃ S, U1 ++ (⟨#[32]⟩ : ByteArray) = S := ⟨_, rfl⟩
  have s1 : U1.size = 6 + SI.size := by rw [← hU1]; simp [ByteArray.size_append]; rfl
  have s2 : U2.size = 6 + SI.size + 1 := by rw [← hU2, ByteArray.size_append, s1]; rfl
  have hU3 : U2 ++ SJ = U := by
    rw [eU, ← hU2, ← hU1, eI, eJ, show (⟨#[102, 105, 101, 108, 100, 32]⟩ : ByteArray) = txt [102, 105, 101, 108, 100, 32] from rfl, show (⟨#[32]⟩ : ByteArray) = txt [32] from rfl, txt_app, txt_app, txt_app]
    congr 1
    simp [joinL, wordsP]
  have g1 : ¬ 9223372036854775807 < 6 + SI.size := by omega
  have g2 : ¬ 9223372036854775807 < U1.size + 1 := by omega
  have g3 : ¬ 9223372036854775807 < U2.size + SJ.size := by omega
  clear eI eJ eU
  have tS : ∀ W, Below W0.heap.size W0 W → W.cell? ⟨z, 1, none⟩ = some (.int .i64 i) ∧ W.cell? ⟨z, 2, none⟩ = some (.int .i64 j) := fun W hW => ⟨(hx0.on hW).cell 1, (hx0.on hW).cell 2⟩
  have tA : ∀ W, Below W0.heap.size W0 W → W.cell? ⟨z, 0, none⟩ = some (.int .i64 3) ∧ W.cell? ⟨z, 1, none⟩ = some (.int .i64 i) ∧ W.cell? ⟨z, 2, none⟩ = some (.int .i64 j) := fun W hW => ⟨(hx0.on hW).cell 0, (hx0.on hW).cell 1, (hx0.on hW).cell 2⟩
  go_enter Tryd.func6, Tryd.ntmps6
  go_wp2_with fail
  rw [← eW0, ← ez]
  clear eW0
  have HZ := Lib.hid ez
  clear ez
  refine (alive_any W0 (hL.on hb0)).mono ?_
  rintro e V ⟨rfl, hb1⟩
  have kk : Below W0.heap.size W0 V := hb1
  have hz0 : Below W0.heap.size W0 V.drew := kk.drew
  go_wp2_with fail
  have k0 : Below W0.heap.size W0 V.drew := hz0
  refine wp_region_noPanic ?_
  refine wp_region_held_drew (S := (fun W => Below W0.heap.size W0 W)) (by kernel_rfl) k0 (fun hHeld => ?_)
  refine wpAnyH_take (i := 0) (oi := ⟨some 8, _, _, _, _, _⟩) (v := ?_) rfl (by kernel_rfl) (by kernel_rfl) (by kernel_rfl) (fun _ _ _ h => h) (Or.inl ⟨by rfl, ?_⟩) (by assumption) ?_
  rotate_left 1
  · (intro W hSw; obtain ⟨f1, f2⟩ := tS W hSw; go_simp <;> with_reducible rfl)
  try simp only [Act.put, List.setIfInBounds_toArray, List.set_cons_zero, List.set_cons_succ]
  refine wpAnyH_take (i := 1) (oi := ⟨some 9, _, _, _, _, _⟩) (v := ?_) rfl (by kernel_rfl) (by kernel_rfl) (by kernel_rfl) (fun _ _ _ h => h) (Or.inl ⟨by rfl, ?_⟩) (by assumption) ?_
  rotate_left 1
  · (intro W hSw; obtain ⟨f1, f2⟩ := tS W hSw; go_simp <;> with_reducible rfl)
  try simp only [Act.put, List.setIfInBounds_toArray, List.set_cons_zero, List.set_cons_succ]
  refine wpAnyH_take (i := 3) (oi := ⟨some 11, _, _, _, _, _⟩) (v := ?_) rfl (by kernel_rfl) (by kernel_rfl) (by kernel_rfl) (fun _ _ _ h => h) (Or.inl ⟨by rfl, ?_⟩) (by assumption) ?_
  rotate_left 1
  · (intro W hSw; obtain ⟨f1, f2⟩ := tS W hSw; go_simp <;> with_reducible rfl)
  try simp only [Act.put, List.setIfInBounds_toArray, List.set_cons_zero, List.set_cons_succ]
  refine wpAnyH_take (i := 4) (oi := ⟨some 12, _, _, _, _, _⟩) (v := ?_) rfl (by kernel_rfl) (by kernel_rfl) (by kernel_rfl) (fun _ _ _ h => h) (Or.inl ⟨by rfl, ?_⟩) (by assumption) ?_
  rotate_left 1
  · (intro W hSw; obtain ⟨f1, f2⟩ := tS W hSw; go_simp <;> with_reducible rfl)
  try simp only [Act.put, List.setIfInBounds_toArray, List.set_cons_zero, List.set_cons_succ]
  refine wpAnyH_ready (rs := [2]) (by kernel_rfl) (by simp) ?_
  refine AllReadyH.cons rfl (fun K hK => ?_) AllReadyH.nil
  go_simp
  refine (h17 _ k0).mono ?_
  rintro e w11 ⟨rfl, hb11⟩
  have k1 := k0.trans (hb11.mono k0.size)
  have hKeep := k1
  refine hK.out _ _ ?_ (fun hHeld1 => ?_)
  · exact hKeep
  clear hHeld hK K hKeep
  try simp only [Act.put, List.setIfInBounds_toArray, List.set_cons_zero, List.set_cons_succ]
  refine wpAnyH_ready (rs := [5]) (by kernel_rfl) (by simp) ?_
  refine AllReadyH.cons rfl (fun K hK => ?_) AllReadyH.nil
  go_simp
  refine (h71 _ k1).mono ?_
  rintro e w12 ⟨rfl, hb12⟩
  have k2 := k1.trans (hb12.mono k1.size)
  have hKeep := k2
  refine hK.out _ _ ?_ (fun hHeld2 => ?_)
  · exact hKeep
  clear hHeld1 hK K hKeep
  try simp only [Act.put, List.setIfInBounds_toArray, List.set_cons_zero, List.set_cons_succ]
  refine wpAnyH_take (i := 6) (oi := ⟨some 3, _, _, _, _, _⟩) (v := ?_) rfl (by kernel_rfl) (by kernel_rfl) (by kernel_rfl) (fun _ _ _ h => h) (Or.inl ⟨by rfl, ?_⟩) (by assumption) ?_
  rotate_left 1
  · (intro W hSw; obtain ⟨f1, f2⟩ := tS W hSw; go_simp <;> with_reducible rfl)
  try simp only [Act.put, List.setIfInBounds_toArray, List.set_cons_zero, List.set_cons_succ]
  refine wpAnyH_take (i := 7) (oi := ⟨some 4, _, _, _, _, _⟩) (v := ?_) rfl (by kernel_rfl) (by kernel_rfl) (by kernel_rfl) (fun _ _ _ h => h) (Or.inl ⟨by rfl, ?_⟩) (by assumption) ?_
  rotate_left 1
  · (intro W hSw; obtain ⟨f1, f2⟩ := tS W hSw; go_simp <;> with_reducible rfl)
  try simp only [Act.put, List.setIfInBounds_toArray, List.set_cons_zero, List.set_cons_succ]
  refine wpAnyH_done (by kernel_rfl) ?_ _
  refine NoPanic.normal ?_
  obtain ⟨c0, c1, c2⟩ := tA w12 k2
  go_wp2_with fail
  refine (h18 w12 k2).mono ?_
  rintro e w13 ⟨rfl, hb13⟩
  go_wp2
  go_ret
  exact ⟨by simp, hb0.trans ((k2.trans (hb13.mono k2.size)).mono hb0.size)⟩
set_option maxRecDepth 100000 in
set_option maxHeartbeats 4000000 in
theorem texts_4 (i j : Int) (hi : Wide i) (hj : Wide j) (w : World) (hL : Laid w) : Calls Tryd.prog 6 #[.agg #[.int .i64 4, .int .i64 i, .int .i64 j]] w fun e w' => e = .returned (.bool true) ∧ Below w.heap.size w w' := by
  obtain ⟨z, ez⟩ : ∃ z, z = w.heap.size := ⟨_, rfl⟩
  obtain ⟨W0, eW0⟩ : ∃ W, W = w.alloc (.cells #[.int .i64 4, .int .i64 i, .int .i64 j] 23) := ⟨_, rfl⟩
  have hb0 : Below w.heap.size w W0 := by rw [eW0]; exact (Below.refl _ w).alloc (Nat.le_refl _) _
  have hx0 : Blk W0 z 23 #[.int .i64 4, .int .i64 i, .int .i64 j] := by rw [eW0, ez]; exact heap_alloc_new w _
  obtain ⟨SI, eI⟩ : ∃ S, S = txt (Lib.itoa i) := ⟨_, rfl⟩
  obtain ⟨SJ, eJ⟩ : ∃ S, S = txt (Lib.itoa j) := ⟨_, rfl⟩
  have zI : SI.size ≤ 21 := by rw [eI, txt_size]; exact itoa_short i hi
  have zJ : SJ.size ≤ 21 := by rw [eJ, txt_size]; exact itoa_short j hj
  have h17 : ∀ W, Below W0.heap.size W0 W → Calls Tryd.prog 17 #[.int .i64 i] W fun e w' => e = .returned (.string SI) ∧ Below W.heap.size W w' := fun W hW => by rw [eI]; exact dec_any i hi W ((hL.on hb0).on hW)
  have h71 : ∀ W, Below W0.heap.size W0 W → Calls Tryd.prog 17 #[.int .i64 j] W fun e w' => e = .returned (.string SJ) ∧ Below W.heap.size W w' := fun W hW => by rw [eJ]; exact dec_any j hj W ((hL.on hb0).on hW)
  obtain ⟨U, eU⟩ : ∃ S, S = txt (joinL (wordsP [104, 101, 97, 112] [])) := ⟨_, rfl⟩
  have h18 : ∀ W, Below W0.heap.size W0 W → Calls Tryd.prog 18 #[.agg #[.int .i64 4, .int .i64 i, .int .i64 j]] W fun e w' => e = .returned (.string U) ∧ Below W.heap.size W w' := fun W hW => by rw [eU]; exact text_4 i j W ((hL.on hb0).on hW)
  have hU : (U.toList == [104, 101, 97, 112]) = true := by rw [eU, ByteArray.toList_eq]; exact beq_iff_eq.2 (oct_txt _)
  clear eI eJ eU
  have tS : ∀ W, Below W0.heap.size W0 W → W.cell? ⟨z, 1, none⟩ = some (.int .i64 i) ∧ W.cell? ⟨z, 2, none⟩ = some (.int .i64 j) := fun W hW => ⟨(hx0.on hW).cell 1, (hx0.on hW).cell 2⟩
  have tA : ∀ W, Below W0.heap.size W0 W → W.cell? ⟨z, 0, none⟩ = some (.int .i64 4) ∧ W.cell? ⟨z, 1, none⟩ = some (.int .i64 i) ∧ W.cell? ⟨z, 2, none⟩ = some (.int .i64 j) := fun W hW => ⟨(hx0.on hW).cell 0, (hx0.on hW).cell 1, (hx0.on hW).cell 2⟩
  go_enter Tryd.func6, Tryd.ntmps6
  go_wp2_with fail
  rw [← eW0, ← ez]
  clear eW0
  have HZ := Lib.hid ez
  clear ez
  refine (alive_any W0 (hL.on hb0)).mono ?_
  rintro e V ⟨rfl, hb1⟩
  have kk : Below W0.heap.size W0 V := hb1
  have hz0 : Below W0.heap.size W0 V.drew := kk.drew
  go_wp2_with fail
  have k0 : Below W0.heap.size W0 V.drew := hz0
  refine wp_region_noPanic ?_
  refine wp_region_held_drew (S := (fun W => Below W0.heap.size W0 W)) (by kernel_rfl) k0 (fun hHeld => ?_)
  refine wpAnyH_take (i := 0) (oi := ⟨some 8, _, _, _, _, _⟩) (v := ?_) rfl (by kernel_rfl) (by kernel_rfl) (by kernel_rfl) (fun _ _ _ h => h) (Or.inl ⟨by rfl, ?_⟩) (by assumption) ?_
  rotate_left 1
  · (intro W hSw; obtain ⟨f1, f2⟩ := tS W hSw; go_simp <;> with_reducible rfl)
  try simp only [Act.put, List.setIfInBounds_toArray, List.set_cons_zero, List.set_cons_succ]
  refine wpAnyH_take (i := 1) (oi := ⟨some 9, _, _, _, _, _⟩) (v := ?_) rfl (by kernel_rfl) (by kernel_rfl) (by kernel_rfl) (fun _ _ _ h => h) (Or.inl ⟨by rfl, ?_⟩) (by assumption) ?_
  rotate_left 1
  · (intro W hSw; obtain ⟨f1, f2⟩ := tS W hSw; go_simp <;> with_reducible rfl)
  try simp only [Act.put, List.setIfInBounds_toArray, List.set_cons_zero, List.set_cons_succ]
  refine wpAnyH_take (i := 3) (oi := ⟨some 11, _, _, _, _, _⟩) (v := ?_) rfl (by kernel_rfl) (by kernel_rfl) (by kernel_rfl) (fun _ _ _ h => h) (Or.inl ⟨by rfl, ?_⟩) (by assumption) ?_
  rotate_left 1
  · (intro W hSw; obtain ⟨f1, f2⟩ := tS W hSw; go_simp <;> with_reducible rfl)
  try simp only [Act.put, List.setIfInBounds_toArray, List.set_cons_zero, List.set_cons_succ]
  refine wpAnyH_take (i := 4) (oi := ⟨some 12, _, _, _, _, _⟩) (v := ?_) rfl (by kernel_rfl) (by kernel_rfl) (by kernel_rfl) (fun _ _ _ h => h) (Or.inl ⟨by rfl, ?_⟩) (by assumption) ?_
  rotate_left 1
  · (intro W hSw; obtain ⟨f1, f2⟩ := tS W hSw; go_simp <;> with_reducible rfl)
  try simp only [Act.put, List.setIfInBounds_toArray, List.set_cons_zero, List.set_cons_succ]
  refine wpAnyH_ready (rs := [2]) (by kernel_rfl) (by simp) ?_
  refine AllReadyH.cons rfl (fun K hK => ?_) AllReadyH.nil
  go_simp
  refine (h17 _ k0).mono ?_
  rintro e w11 ⟨rfl, hb11⟩
  have k1 := k0.trans (hb11.mono k0.size)
  have hKeep := k1
  refine hK.out _ _ ?_ (fun hHeld1 => ?_)
  · exact hKeep
  clear hHeld hK K hKeep
  try simp only [Act.put, List.setIfInBounds_toArray, List.set_cons_zero, List.set_cons_succ]
  refine wpAnyH_ready (rs := [5]) (by kernel_rfl) (by simp) ?_
  refine AllReadyH.cons rfl (fun K hK => ?_) AllReadyH.nil
  go_simp
  refine (h71 _ k1).mono ?_
  rintro e w12 ⟨rfl, hb12⟩
  have k2 := k1.trans (hb12.mono k1.size)
  have hKeep := k2
  refine hK.out _ _ ?_ (fun hHeld2 => ?_)
  · exact hKeep
  clear hHeld1 hK K hKeep
  try simp only [Act.put, List.setIfInBounds_toArray, List.set_cons_zero, List.set_cons_succ]
  refine wpAnyH_take (i := 6) (oi := ⟨some 3, _, _, _, _, _⟩) (v := ?_) rfl (by kernel_rfl) (by kernel_rfl) (by kernel_rfl) (fun _ _ _ h => h) (Or.inl ⟨by rfl, ?_⟩) (by assumption) ?_
  rotate_left 1
  · (intro W hSw; obtain ⟨f1, f2⟩ := tS W hSw; go_simp <;> with_reducible rfl)
  try simp only [Act.put, List.setIfInBounds_toArray, List.set_cons_zero, List.set_cons_succ]
  refine wpAnyH_take (i := 7) (oi := ⟨some 4, _, _, _, _, _⟩) (v := ?_) rfl (by kernel_rfl) (by kernel_rfl) (by kernel_rfl) (fun _ _ _ h => h) (Or.inl ⟨by rfl, ?_⟩) (by assumption) ?_
  rotate_left 1
  · (intro W hSw; obtain ⟨f1, f2⟩ := tS W hSw; go_simp <;> with_reducible rfl)
  try simp only [Act.put, List.setIfInBounds_toArray, List.set_cons_zero, List.set_cons_succ]
  refine wpAnyH_done (by kernel_rfl) ?_ _
  refine NoPanic.normal ?_
  obtain ⟨c0, c1, c2⟩ := tA w12 k2
  go_wp2_with fail
  refine (h18 w12 k2).mono ?_
  rintro e w13 ⟨rfl, hb13⟩
  go_wp2
  go_ret
  exact ⟨by simp, hb0.trans ((k2.trans (hb13.mono k2.size)).mono hb0.size)⟩
set_option maxRecDepth 100000 in
set_option maxHeartbeats 4000000 in
theorem texts_5 (i j : Int) (hi : Wide i) (hj : Wide j) (w : World) (hL : Laid w) : Calls Tryd.prog 6 #[.agg #[.int .i64 5, .int .i64 i, .int .i64 j]] w fun e w' => e = .returned (.bool true) ∧ Below w.heap.size w w' := by
  obtain ⟨z, ez⟩ : ∃ z, z = w.heap.size := ⟨_, rfl⟩
  obtain ⟨W0, eW0⟩ : ∃ W, W = w.alloc (.cells #[.int .i64 5, .int .i64 i, .int .i64 j] 23) := ⟨_, rfl⟩
  have hb0 : Below w.heap.size w W0 := by rw [eW0]; exact (Below.refl _ w).alloc (Nat.le_refl _) _
  have hx0 : Blk W0 z 23 #[.int .i64 5, .int .i64 i, .int .i64 j] := by rw [eW0, ez]; exact heap_alloc_new w _
  obtain ⟨SI, eI⟩ : ∃ S, S = txt (Lib.itoa i) := ⟨_, rfl⟩
  obtain ⟨SJ, eJ⟩ : ∃ S, S = txt (Lib.itoa j) := ⟨_, rfl⟩
  have zI : SI.size ≤ 21 := by rw [eI, txt_size]; exact itoa_short i hi
  have zJ : SJ.size ≤ 21 := by rw [eJ, txt_size]; exact itoa_short j hj
  have h17 : ∀ W, Below W0.heap.size W0 W → Calls Tryd.prog 17 #[.int .i64 i] W fun e w' => e = .returned (.string SI) ∧ Below W.heap.size W w' := fun W hW => by rw [eI]; exact dec_any i hi W ((hL.on hb0).on hW)
  have h71 : ∀ W, Below W0.heap.size W0 W → Calls Tryd.prog 17 #[.int .i64 j] W fun e w' => e = .returned (.string SJ) ∧ Below W.heap.size W w' := fun W hW => by rw [eJ]; exact dec_any j hj W ((hL.on hb0).on hW)
  obtain ⟨U, eU⟩ : ∃ S, S = txt (joinL (wordsP [115, 108, 111, 116] [i, j])) := ⟨_, rfl⟩
  have h18 : ∀ W, Below W0.heap.size W0 W → Calls Tryd.prog 18 #[.agg #[.int .i64 5, .int .i64 i, .int .i64 j]] W fun e w' => e = .returned (.string U) ∧ Below W.heap.size W w' := fun W hW => by rw [eU]; exact text_5 i j hi hj W ((hL.on hb0).on hW)
  obtain ⟨U1, hU1⟩ : ∃ S, (⟨#[115, 108, 111, 116, 32]⟩ : ByteArray) ++ SI = S := ⟨_, rfl⟩
  obtain ⟨U2, hU2⟩ : ∃ S, U1 ++ (⟨#[32]⟩ : ByteArray) = S := ⟨_, rfl⟩
  have s1 : U1.size = 5 + SI.size := by rw [← hU1]; simp [ByteArray.size_append]; rfl
  have s2 : U2.size = 5 + SI.size + 1 := by rw [← hU2, ByteArray.size_append, s1]; rfl
  have hU3 : U2 ++ SJ = U := by
    rw [eU, ← hU2, ← hU1, eI, eJ, show (⟨#[115, 108, 111, 116, 32]⟩ : ByteArray) = txt [115, 108, 111, 116, 32] from rfl, show (⟨#[32]⟩ : ByteArray) = txt [32] from rfl, txt_app, txt_app, txt_app]
    congr 1
    simp [joinL, wordsP]
  have g1 : ¬ 9223372036854775807 < 5 + SI.size := by omega
  have g2 : ¬ 9223372036854775807 < U1.size + 1 := by omega
  have g3 : ¬ 9223372036854775807 < U2.size + SJ.size := by omega
  clear eI eJ eU
  have tS : ∀ W, Below W0.heap.size W0 W → W.cell? ⟨z, 1, none⟩ = some (.int .i64 i) ∧ W.cell? ⟨z, 2, none⟩ = some (.int .i64 j) := fun W hW => ⟨(hx0.on hW).cell 1, (hx0.on hW).cell 2⟩
  have tA : ∀ W, Below W0.heap.size W0 W → W.cell? ⟨z, 0, none⟩ = some (.int .i64 5) ∧ W.cell? ⟨z, 1, none⟩ = some (.int .i64 i) ∧ W.cell? ⟨z, 2, none⟩ = some (.int .i64 j) := fun W hW => ⟨(hx0.on hW).cell 0, (hx0.on hW).cell 1, (hx0.on hW).cell 2⟩
  go_enter Tryd.func6, Tryd.ntmps6
  go_wp2_with fail
  rw [← eW0, ← ez]
  clear eW0
  have HZ := Lib.hid ez
  clear ez
  refine (alive_any W0 (hL.on hb0)).mono ?_
  rintro e V ⟨rfl, hb1⟩
  have kk : Below W0.heap.size W0 V := hb1
  have hz0 : Below W0.heap.size W0 V.drew := kk.drew
  go_wp2_with fail
  have k0 : Below W0.heap.size W0 V.drew := hz0
  refine wp_region_noPanic ?_
  refine wp_region_held_drew (S := (fun W => Below W0.heap.size W0 W)) (by kernel_rfl) k0 (fun hHeld => ?_)
  refine wpAnyH_take (i := 0) (oi := ⟨some 8, _, _, _, _, _⟩) (v := ?_) rfl (by kernel_rfl) (by kernel_rfl) (by kernel_rfl) (fun _ _ _ h => h) (Or.inl ⟨by rfl, ?_⟩) (by assumption) ?_
  rotate_left 1
  · (intro W hSw; obtain ⟨f1, f2⟩ := tS W hSw; go_simp <;> with_reducible rfl)
  try simp only [Act.put, List.setIfInBounds_toArray, List.set_cons_zero, List.set_cons_succ]
  refine wpAnyH_take (i := 1) (oi := ⟨some 9, _, _, _, _, _⟩) (v := ?_) rfl (by kernel_rfl) (by kernel_rfl) (by kernel_rfl) (fun _ _ _ h => h) (Or.inl ⟨by rfl, ?_⟩) (by assumption) ?_
  rotate_left 1
  · (intro W hSw; obtain ⟨f1, f2⟩ := tS W hSw; go_simp <;> with_reducible rfl)
  try simp only [Act.put, List.setIfInBounds_toArray, List.set_cons_zero, List.set_cons_succ]
  refine wpAnyH_take (i := 3) (oi := ⟨some 11, _, _, _, _, _⟩) (v := ?_) rfl (by kernel_rfl) (by kernel_rfl) (by kernel_rfl) (fun _ _ _ h => h) (Or.inl ⟨by rfl, ?_⟩) (by assumption) ?_
  rotate_left 1
  · (intro W hSw; obtain ⟨f1, f2⟩ := tS W hSw; go_simp <;> with_reducible rfl)
  try simp only [Act.put, List.setIfInBounds_toArray, List.set_cons_zero, List.set_cons_succ]
  refine wpAnyH_take (i := 4) (oi := ⟨some 12, _, _, _, _, _⟩) (v := ?_) rfl (by kernel_rfl) (by kernel_rfl) (by kernel_rfl) (fun _ _ _ h => h) (Or.inl ⟨by rfl, ?_⟩) (by assumption) ?_
  rotate_left 1
  · (intro W hSw; obtain ⟨f1, f2⟩ := tS W hSw; go_simp <;> with_reducible rfl)
  try simp only [Act.put, List.setIfInBounds_toArray, List.set_cons_zero, List.set_cons_succ]
  refine wpAnyH_ready (rs := [2]) (by kernel_rfl) (by simp) ?_
  refine AllReadyH.cons rfl (fun K hK => ?_) AllReadyH.nil
  go_simp
  refine (h17 _ k0).mono ?_
  rintro e w11 ⟨rfl, hb11⟩
  have k1 := k0.trans (hb11.mono k0.size)
  have hKeep := k1
  refine hK.out _ _ ?_ (fun hHeld1 => ?_)
  · exact hKeep
  clear hHeld hK K hKeep
  try simp only [Act.put, List.setIfInBounds_toArray, List.set_cons_zero, List.set_cons_succ]
  refine wpAnyH_ready (rs := [5]) (by kernel_rfl) (by simp) ?_
  refine AllReadyH.cons rfl (fun K hK => ?_) AllReadyH.nil
  go_simp
  refine (h71 _ k1).mono ?_
  rintro e w12 ⟨rfl, hb12⟩
  have k2 := k1.trans (hb12.mono k1.size)
  have hKeep := k2
  refine hK.out _ _ ?_ (fun hHeld2 => ?_)
  · exact hKeep
  clear hHeld1 hK K hKeep
  try simp only [Act.put, List.setIfInBounds_toArray, List.set_cons_zero, List.set_cons_succ]
  refine wpAnyH_take (i := 6) (oi := ⟨some 3, _, _, _, _, _⟩) (v := ?_) rfl (by kernel_rfl) (by kernel_rfl) (by kernel_rfl) (fun _ _ _ h => h) (Or.inl ⟨by rfl, ?_⟩) (by assumption) ?_
  rotate_left 1
  · (intro W hSw; obtain ⟨f1, f2⟩ := tS W hSw; go_simp <;> with_reducible rfl)
  try simp only [Act.put, List.setIfInBounds_toArray, List.set_cons_zero, List.set_cons_succ]
  refine wpAnyH_take (i := 7) (oi := ⟨some 4, _, _, _, _, _⟩) (v := ?_) rfl (by kernel_rfl) (by kernel_rfl) (by kernel_rfl) (fun _ _ _ h => h) (Or.inl ⟨by rfl, ?_⟩) (by assumption) ?_
  rotate_left 1
  · (intro W hSw; obtain ⟨f1, f2⟩ := tS W hSw; go_simp <;> with_reducible rfl)
  try simp only [Act.put, List.setIfInBounds_toArray, List.set_cons_zero, List.set_cons_succ]
  refine wpAnyH_done (by kernel_rfl) ?_ _
  refine NoPanic.normal ?_
  obtain ⟨c0, c1, c2⟩ := tA w12 k2
  go_wp2_with fail
  refine (h18 w12 k2).mono ?_
  rintro e w13 ⟨rfl, hb13⟩
  go_wp2
  go_ret
  exact ⟨by simp, hb0.trans ((k2.trans (hb13.mono k2.size)).mono hb0.size)⟩
set_option maxRecDepth 100000 in
set_option maxHeartbeats 4000000 in
theorem texts_6 (i j : Int) (hi : Wide i) (hj : Wide j) (w : World) (hL : Laid w) : Calls Tryd.prog 6 #[.agg #[.int .i64 6, .int .i64 i, .int .i64 j]] w fun e w' => e = .returned (.bool true) ∧ Below w.heap.size w w' := by
  obtain ⟨z, ez⟩ : ∃ z, z = w.heap.size := ⟨_, rfl⟩
  obtain ⟨W0, eW0⟩ : ∃ W, W = w.alloc (.cells #[.int .i64 6, .int .i64 i, .int .i64 j] 23) := ⟨_, rfl⟩
  have hb0 : Below w.heap.size w W0 := by rw [eW0]; exact (Below.refl _ w).alloc (Nat.le_refl _) _
  have hx0 : Blk W0 z 23 #[.int .i64 6, .int .i64 i, .int .i64 j] := by rw [eW0, ez]; exact heap_alloc_new w _
  obtain ⟨SI, eI⟩ : ∃ S, S = txt (Lib.itoa i) := ⟨_, rfl⟩
  obtain ⟨SJ, eJ⟩ : ∃ S, S = txt (Lib.itoa j) := ⟨_, rfl⟩
  have zI : SI.size ≤ 21 := by rw [eI, txt_size]; exact itoa_short i hi
  have zJ : SJ.size ≤ 21 := by rw [eJ, txt_size]; exact itoa_short j hj
  have h17 : ∀ W, Below W0.heap.size W0 W → Calls Tryd.prog 17 #[.int .i64 i] W fun e w' => e = .returned (.string SI) ∧ Below W.heap.size W w' := fun W hW => by rw [eI]; exact dec_any i hi W ((hL.on hb0).on hW)
  have h71 : ∀ W, Below W0.heap.size W0 W → Calls Tryd.prog 17 #[.int .i64 j] W fun e w' => e = .returned (.string SJ) ∧ Below W.heap.size W w' := fun W hW => by rw [eJ]; exact dec_any j hj W ((hL.on hb0).on hW)
  obtain ⟨U, eU⟩ : ∃ S, S = txt (joinL (wordsP [101, 112, 111, 99, 104] [])) := ⟨_, rfl⟩
  have h18 : ∀ W, Below W0.heap.size W0 W → Calls Tryd.prog 18 #[.agg #[.int .i64 6, .int .i64 i, .int .i64 j]] W fun e w' => e = .returned (.string U) ∧ Below W.heap.size W w' := fun W hW => by rw [eU]; exact text_6 i j W ((hL.on hb0).on hW)
  have hU : (U.toList == [101, 112, 111, 99, 104]) = true := by rw [eU, ByteArray.toList_eq]; exact beq_iff_eq.2 (oct_txt _)
  clear eI eJ eU
  have tS : ∀ W, Below W0.heap.size W0 W → W.cell? ⟨z, 1, none⟩ = some (.int .i64 i) ∧ W.cell? ⟨z, 2, none⟩ = some (.int .i64 j) := fun W hW => ⟨(hx0.on hW).cell 1, (hx0.on hW).cell 2⟩
  have tA : ∀ W, Below W0.heap.size W0 W → W.cell? ⟨z, 0, none⟩ = some (.int .i64 6) ∧ W.cell? ⟨z, 1, none⟩ = some (.int .i64 i) ∧ W.cell? ⟨z, 2, none⟩ = some (.int .i64 j) := fun W hW => ⟨(hx0.on hW).cell 0, (hx0.on hW).cell 1, (hx0.on hW).cell 2⟩
  go_enter Tryd.func6, Tryd.ntmps6
  go_wp2_with fail
  rw [← eW0, ← ez]
  clear eW0
  have HZ := Lib.hid ez
  clear ez
  refine (alive_any W0 (hL.on hb0)).mono ?_
  rintro e V ⟨rfl, hb1⟩
  have kk : Below W0.heap.size W0 V := hb1
  have hz0 : Below W0.heap.size W0 V.drew := kk.drew
  go_wp2_with fail
  have k0 : Below W0.heap.size W0 V.drew := hz0
  refine wp_region_noPanic ?_
  refine wp_region_held_drew (S := (fun W => Below W0.heap.size W0 W)) (by kernel_rfl) k0 (fun hHeld => ?_)
  refine wpAnyH_take (i := 0) (oi := ⟨some 8, _, _, _, _, _⟩) (v := ?_) rfl (by kernel_rfl) (by kernel_rfl) (by kernel_rfl) (fun _ _ _ h => h) (Or.inl ⟨by rfl, ?_⟩) (by assumption) ?_
  rotate_left 1
  · (intro W hSw; obtain ⟨f1, f2⟩ := tS W hSw; go_simp <;> with_reducible rfl)
  try simp only [Act.put, List.setIfInBounds_toArray, List.set_cons_zero, List.set_cons_succ]
  refine wpAnyH_take (i := 1) (oi := ⟨some 9, _, _, _, _, _⟩) (v := ?_) rfl (by kernel_rfl) (by kernel_rfl) (by kernel_rfl) (fun _ _ _ h => h) (Or.inl ⟨by rfl, ?_⟩) (by assumption) ?_
  rotate_left 1
  · (intro W hSw; obtain ⟨f1, f2⟩ := tS W hSw; go_simp <;> with_reducible rfl)
  try simp only [Act.put, List.setIfInBounds_toArray, List.set_cons_zero, List.set_cons_succ]
  refine wpAnyH_take (i := 3) (oi := ⟨some 11, _, _, _, _, _⟩) (v := ?_) rfl (by kernel_rfl) (by kernel_rfl) (by kernel_rfl) (fun _ _ _ h => h) (Or.inl ⟨by rfl, ?_⟩) (by assumption) ?_
  rotate_left 1
  · (intro W hSw; obtain ⟨f1, f2⟩ := tS W hSw; go_simp <;> with_reducible rfl)
  try simp only [Act.put, List.setIfInBounds_toArray, List.set_cons_zero, List.set_cons_succ]
  refine wpAnyH_take (i := 4) (oi := ⟨some 12, _, _, _, _, _⟩) (v := ?_) rfl (by kernel_rfl) (by kernel_rfl) (by kernel_rfl) (fun _ _ _ h => h) (Or.inl ⟨by rfl, ?_⟩) (by assumption) ?_
  rotate_left 1
  · (intro W hSw; obtain ⟨f1, f2⟩ := tS W hSw; go_simp <;> with_reducible rfl)
  try simp only [Act.put, List.setIfInBounds_toArray, List.set_cons_zero, List.set_cons_succ]
  refine wpAnyH_ready (rs := [2]) (by kernel_rfl) (by simp) ?_
  refine AllReadyH.cons rfl (fun K hK => ?_) AllReadyH.nil
  go_simp
  refine (h17 _ k0).mono ?_
  rintro e w11 ⟨rfl, hb11⟩
  have k1 := k0.trans (hb11.mono k0.size)
  have hKeep := k1
  refine hK.out _ _ ?_ (fun hHeld1 => ?_)
  · exact hKeep
  clear hHeld hK K hKeep
  try simp only [Act.put, List.setIfInBounds_toArray, List.set_cons_zero, List.set_cons_succ]
  refine wpAnyH_ready (rs := [5]) (by kernel_rfl) (by simp) ?_
  refine AllReadyH.cons rfl (fun K hK => ?_) AllReadyH.nil
  go_simp
  refine (h71 _ k1).mono ?_
  rintro e w12 ⟨rfl, hb12⟩
  have k2 := k1.trans (hb12.mono k1.size)
  have hKeep := k2
  refine hK.out _ _ ?_ (fun hHeld2 => ?_)
  · exact hKeep
  clear hHeld1 hK K hKeep
  try simp only [Act.put, List.setIfInBounds_toArray, List.set_cons_zero, List.set_cons_succ]
  refine wpAnyH_take (i := 6) (oi := ⟨some 3, _, _, _, _, _⟩) (v := ?_) rfl (by kernel_rfl) (by kernel_rfl) (by kernel_rfl) (fun _ _ _ h => h) (Or.inl ⟨by rfl, ?_⟩) (by assumption) ?_
  rotate_left 1
  · (intro W hSw; obtain ⟨f1, f2⟩ := tS W hSw; go_simp <;> with_reducible rfl)
  try simp only [Act.put, List.setIfInBounds_toArray, List.set_cons_zero, List.set_cons_succ]
  refine wpAnyH_take (i := 7) (oi := ⟨some 4, _, _, _, _, _⟩) (v := ?_) rfl (by kernel_rfl) (by kernel_rfl) (by kernel_rfl) (fun _ _ _ h => h) (Or.inl ⟨by rfl, ?_⟩) (by assumption) ?_
  rotate_left 1
  · (intro W hSw; obtain ⟨f1, f2⟩ := tS W hSw; go_simp <;> with_reducible rfl)
  try simp only [Act.put, List.setIfInBounds_toArray, List.set_cons_zero, List.set_cons_succ]
  refine wpAnyH_done (by kernel_rfl) ?_ _
  refine NoPanic.normal ?_
  obtain ⟨c0, c1, c2⟩ := tA w12 k2
  go_wp2_with fail
  refine (h18 w12 k2).mono ?_
  rintro e w13 ⟨rfl, hb13⟩
  go_wp2
  go_ret
  exact ⟨by simp, hb0.trans ((k2.trans (hb13.mono k2.size)).mono hb0.size)⟩
set_option maxRecDepth 100000 in
set_option maxHeartbeats 4000000 in
theorem texts_7 (i j : Int) (hi : Wide i) (hj : Wide j) (w : World) (hL : Laid w) : Calls Tryd.prog 6 #[.agg #[.int .i64 7, .int .i64 i, .int .i64 j]] w fun e w' => e = .returned (.bool true) ∧ Below w.heap.size w w' := by
  obtain ⟨z, ez⟩ : ∃ z, z = w.heap.size := ⟨_, rfl⟩
  obtain ⟨W0, eW0⟩ : ∃ W, W = w.alloc (.cells #[.int .i64 7, .int .i64 i, .int .i64 j] 23) := ⟨_, rfl⟩
  have hb0 : Below w.heap.size w W0 := by rw [eW0]; exact (Below.refl _ w).alloc (Nat.le_refl _) _
  have hx0 : Blk W0 z 23 #[.int .i64 7, .int .i64 i, .int .i64 j] := by rw [eW0, ez]; exact heap_alloc_new w _
  obtain ⟨SI, eI⟩ : ∃ S, S = txt (Lib.itoa i) := ⟨_, rfl⟩
  obtain ⟨SJ, eJ⟩ : ∃ S, S = txt (Lib.itoa j) := ⟨_, rfl⟩
  have zI : SI.size ≤ 21 := by rw [eI, txt_size]; exact itoa_short i hi
  have zJ : SJ.size ≤ 21 := by rw [eJ, txt_size]; exact itoa_short j hj
  have h17 : ∀ W, Below W0.heap.size W0 W → Calls Tryd.prog 17 #[.int .i64 i] W fun e w' => e = .returned (.string SI) ∧ Below W.heap.size W w' := fun W hW => by rw [eI]; exact dec_any i hi W ((hL.on hb0).on hW)
  have h71 : ∀ W, Below W0.heap.size W0 W → Calls Tryd.prog 17 #[.int .i64 j] W fun e w' => e = .returned (.string SJ) ∧ Below W.heap.size W w' := fun W hW => by rw [eJ]; exact dec_any j hj W ((hL.on hb0).on hW)
  obtain ⟨U, eU⟩ : ∃ S, S = txt (joinL (wordsP [109, 97, 114, 107] [i])) := ⟨_, rfl⟩
  have h18 : ∀ W, Below W0.heap.size W0 W → Calls Tryd.prog 18 #[.agg #[.int .i64 7, .int .i64 i, .int .i64 j]] W fun e w' => e = .returned (.string U) ∧ Below W.heap.size W w' := fun W hW => by rw [eU]; exact text_7 i j hi W ((hL.on hb0).on hW)
  have hU : (⟨#[109, 97, 114, 107, 32]⟩ : ByteArray) ++ SI = U := by rw [eU, eI, show (⟨#[109, 97, 114, 107, 32]⟩ : ByteArray) = txt [109, 97, 114, 107, 32] from rfl, txt_app]; rfl
  have g1 : ¬ 9223372036854775807 < 5 + SI.size := by omega
  clear eI eJ eU
  have tS : ∀ W, Below W0.heap.size W0 W → W.cell? ⟨z, 1, none⟩ = some (.int .i64 i) ∧ W.cell? ⟨z, 2, none⟩ = some (.int .i64 j) := fun W hW => ⟨(hx0.on hW).cell 1, (hx0.on hW).cell 2⟩
  have tA : ∀ W, Below W0.heap.size W0 W → W.cell? ⟨z, 0, none⟩ = some (.int .i64 7) ∧ W.cell? ⟨z, 1, none⟩ = some (.int .i64 i) ∧ W.cell? ⟨z, 2, none⟩ = some (.int .i64 j) := fun W hW => ⟨(hx0.on hW).cell 0, (hx0.on hW).cell 1, (hx0.on hW).cell 2⟩
  go_enter Tryd.func6, Tryd.ntmps6
  go_wp2_with fail
  rw [← eW0, ← ez]
  clear eW0
  have HZ := Lib.hid ez
  clear ez
  refine (alive_any W0 (hL.on hb0)).mono ?_
  rintro e V ⟨rfl, hb1⟩
  have kk : Below W0.heap.size W0 V := hb1
  have hz0 : Below W0.heap.size W0 V.drew := kk.drew
  go_wp2_with fail
  have k0 : Below W0.heap.size W0 V.drew := hz0
  refine wp_region_noPanic ?_
  refine wp_region_held_drew (S := (fun W => Below W0.heap.size W0 W)) (by kernel_rfl) k0 (fun hHeld => ?_)
  refine wpAnyH_take (i := 0) (oi := ⟨some 8, _, _, _, _, _⟩) (v := ?_) rfl (by kernel_rfl) (by kernel_rfl) (by kernel_rfl) (fun _ _ _ h => h) (Or.inl ⟨by rfl, ?_⟩) (by assumption) ?_
  rotate_left 1
  · (intro W hSw; obtain ⟨f1, f2⟩ := tS W hSw; go_simp <;> with_reducible rfl)
  try simp only [Act.put, List.setIfInBounds_toArray, List.set_cons_zero, List.set_cons_succ]
  refine wpAnyH_take (i := 1) (oi := ⟨some 9, _, _, _, _, _⟩) (v := ?_) rfl (by kernel_rfl) (by kernel_rfl) (by kernel_rfl) (fun _ _ _ h => h) (Or.inl ⟨by rfl, ?_⟩) (by assumption) ?_
  rotate_left 1
  · (intro W hSw; obtain ⟨f1, f2⟩ := tS W hSw; go_simp <;> with_reducible rfl)
  try simp only [Act.put, List.setIfInBounds_toArray, List.set_cons_zero, List.set_cons_succ]
  refine wpAnyH_take (i := 3) (oi := ⟨some 11, _, _, _, _, _⟩) (v := ?_) rfl (by kernel_rfl) (by kernel_rfl) (by kernel_rfl) (fun _ _ _ h => h) (Or.inl ⟨by rfl, ?_⟩) (by assumption) ?_
  rotate_left 1
  · (intro W hSw; obtain ⟨f1, f2⟩ := tS W hSw; go_simp <;> with_reducible rfl)
  try simp only [Act.put, List.setIfInBounds_toArray, List.set_cons_zero, List.set_cons_succ]
  refine wpAnyH_take (i := 4) (oi := ⟨some 12, _, _, _, _, _⟩) (v := ?_) rfl (by kernel_rfl) (by kernel_rfl) (by kernel_rfl) (fun _ _ _ h => h) (Or.inl ⟨by rfl, ?_⟩) (by assumption) ?_
  rotate_left 1
  · (intro W hSw; obtain ⟨f1, f2⟩ := tS W hSw; go_simp <;> with_reducible rfl)
  try simp only [Act.put, List.setIfInBounds_toArray, List.set_cons_zero, List.set_cons_succ]
  refine wpAnyH_ready (rs := [2]) (by kernel_rfl) (by simp) ?_
  refine AllReadyH.cons rfl (fun K hK => ?_) AllReadyH.nil
  go_simp
  refine (h17 _ k0).mono ?_
  rintro e w11 ⟨rfl, hb11⟩
  have k1 := k0.trans (hb11.mono k0.size)
  have hKeep := k1
  refine hK.out _ _ ?_ (fun hHeld1 => ?_)
  · exact hKeep
  clear hHeld hK K hKeep
  try simp only [Act.put, List.setIfInBounds_toArray, List.set_cons_zero, List.set_cons_succ]
  refine wpAnyH_ready (rs := [5]) (by kernel_rfl) (by simp) ?_
  refine AllReadyH.cons rfl (fun K hK => ?_) AllReadyH.nil
  go_simp
  refine (h71 _ k1).mono ?_
  rintro e w12 ⟨rfl, hb12⟩
  have k2 := k1.trans (hb12.mono k1.size)
  have hKeep := k2
  refine hK.out _ _ ?_ (fun hHeld2 => ?_)
  · exact hKeep
  clear hHeld1 hK K hKeep
  try simp only [Act.put, List.setIfInBounds_toArray, List.set_cons_zero, List.set_cons_succ]
  refine wpAnyH_take (i := 6) (oi := ⟨some 3, _, _, _, _, _⟩) (v := ?_) rfl (by kernel_rfl) (by kernel_rfl) (by kernel_rfl) (fun _ _ _ h => h) (Or.inl ⟨by rfl, ?_⟩) (by assumption) ?_
  rotate_left 1
  · (intro W hSw; obtain ⟨f1, f2⟩ := tS W hSw; go_simp <;> with_reducible rfl)
  try simp only [Act.put, List.setIfInBounds_toArray, List.set_cons_zero, List.set_cons_succ]
  refine wpAnyH_take (i := 7) (oi := ⟨some 4, _, _, _, _, _⟩) (v := ?_) rfl (by kernel_rfl) (by kernel_rfl) (by kernel_rfl) (fun _ _ _ h => h) (Or.inl ⟨by rfl, ?_⟩) (by assumption) ?_
  rotate_left 1
  · (intro W hSw; obtain ⟨f1, f2⟩ := tS W hSw; go_simp <;> with_reducible rfl)
  try simp only [Act.put, List.setIfInBounds_toArray, List.set_cons_zero, List.set_cons_succ]
  refine wpAnyH_done (by kernel_rfl) ?_ _
  refine NoPanic.normal ?_
  obtain ⟨c0, c1, c2⟩ := tA w12 k2
  go_wp2_with fail
  refine (h18 w12 k2).mono ?_
  rintro e w13 ⟨rfl, hb13⟩
  go_wp2
  go_ret
  exact ⟨by simp, hb0.trans ((k2.trans (hb13.mono k2.size)).mono hb0.size)⟩
set_option maxRecDepth 100000 in
set_option maxHeartbeats 4000000 in
theorem texts_8 (i j : Int) (hi : Wide i) (hj : Wide j) (w : World) (hL : Laid w) : Calls Tryd.prog 6 #[.agg #[.int .i64 8, .int .i64 i, .int .i64 j]] w fun e w' => e = .returned (.bool true) ∧ Below w.heap.size w w' := by
  obtain ⟨z, ez⟩ : ∃ z, z = w.heap.size := ⟨_, rfl⟩
  obtain ⟨W0, eW0⟩ : ∃ W, W = w.alloc (.cells #[.int .i64 8, .int .i64 i, .int .i64 j] 23) := ⟨_, rfl⟩
  have hb0 : Below w.heap.size w W0 := by rw [eW0]; exact (Below.refl _ w).alloc (Nat.le_refl _) _
  have hx0 : Blk W0 z 23 #[.int .i64 8, .int .i64 i, .int .i64 j] := by rw [eW0, ez]; exact heap_alloc_new w _
  obtain ⟨SI, eI⟩ : ∃ S, S = txt (Lib.itoa i) := ⟨_, rfl⟩
  obtain ⟨SJ, eJ⟩ : ∃ S, S = txt (Lib.itoa j) := ⟨_, rfl⟩
  have zI : SI.size ≤ 21 := by rw [eI, txt_size]; exact itoa_short i hi
  have zJ : SJ.size ≤ 21 := by rw [eJ, txt_size]; exact itoa_short j hj
  have h17 : ∀ W, Below W0.heap.size W0 W → Calls Tryd.prog 17 #[.int .i64 i] W fun e w' => e = .returned (.string SI) ∧ Below W.heap.size W w' := fun W hW => by rw [eI]; exact dec_any i hi W ((hL.on hb0).on hW)
  have h71 : ∀ W, Below W0.heap.size W0 W → Calls Tryd.prog 17 #[.int .i64 j] W fun e w' => e = .returned (.string SJ) ∧ Below W.heap.size W w' := fun W hW => by rw [eJ]; exact dec_any j hj W ((hL.on hb0).on hW)
  obtain ⟨U, eU⟩ : ∃ S, S = txt (joinL (wordsP [99, 111, 117, 110, 116] [i])) := ⟨_, rfl⟩
  have h18 : ∀ W, Below W0.heap.size W0 W → Calls Tryd.prog 18 #[.agg #[.int .i64 8, .int .i64 i, .int .i64 j]] W fun e w' => e = .returned (.string U) ∧ Below W.heap.size W w' := fun W hW => by rw [eU]; exact text_8 i j hi W ((hL.on hb0).on hW)
  have hU : (⟨#[99, 111, 117, 110, 116, 32]⟩ : ByteArray) ++ SI = U := by rw [eU, eI, show (⟨#[99, 111, 117, 110, 116, 32]⟩ : ByteArray) = txt [99, 111, 117, 110, 116, 32] from rfl, txt_app]; rfl
  have g1 : ¬ 9223372036854775807 < 6 + SI.size := by omega
  clear eI eJ eU
  have tS : ∀ W, Below W0.heap.size W0 W → W.cell? ⟨z, 1, none⟩ = some (.int .i64 i) ∧ W.cell? ⟨z, 2, none⟩ = some (.int .i64 j) := fun W hW => ⟨(hx0.on hW).cell 1, (hx0.on hW).cell 2⟩
  have tA : ∀ W, Below W0.heap.size W0 W → W.cell? ⟨z, 0, none⟩ = some (.int .i64 8) ∧ W.cell? ⟨z, 1, none⟩ = some (.int .i64 i) ∧ W.cell? ⟨z, 2, none⟩ = some (.int .i64 j) := fun W hW => ⟨(hx0.on hW).cell 0, (hx0.on hW).cell 1, (hx0.on hW).cell 2⟩
  go_enter Tryd.func6, Tryd.ntmps6
  go_wp2_with fail
  rw [← eW0, ← ez]
  clear eW0
  have HZ := Lib.hid ez
  clear ez
  refine (alive_any W0 (hL.on hb0)).mono ?_
  rintro e V ⟨rfl, hb1⟩
  have kk : Below W0.heap.size W0 V := hb1
  have hz0 : Below W0.heap.size W0 V.drew := kk.drew
  go_wp2_with fail
  have k0 : Below W0.heap.size W0 V.drew := hz0
  refine wp_region_noPanic ?_
  refine wp_region_held_drew (S := (fun W => Below W0.heap.size W0 W)) (by kernel_rfl) k0 (fun hHeld => ?_)
  refine wpAnyH_take (i := 0) (oi := ⟨some 8, _, _, _, _, _⟩) (v := ?_) rfl (by kernel_rfl) (by kernel_rfl) (by kernel_rfl) (fun _ _ _ h => h) (Or.inl ⟨by rfl, ?_⟩) (by assumption) ?_
  rotate_left 1
  · (intro W hSw; obtain ⟨f1, f2⟩ := tS W hSw; go_simp <;> with_reducible rfl)
  try simp only [Act.put, List.setIfInBounds_toArray, List.set_cons_zero, List.set_cons_succ]
  refine wpAnyH_take (i := 1) (oi := ⟨some 9, _, _, _, _, _⟩) (v := ?_) rfl (by kernel_rfl) (by kernel_rfl) (by kernel_rfl) (fun _ _ _ h => h) (Or.inl ⟨by rfl, ?_⟩) (by assumption) ?_
  rotate_left 1
  · (intro W hSw; obtain ⟨f1, f2⟩ := tS W hSw; go_simp <;> with_reducible rfl)
  try simp only [Act.put, List.setIfInBounds_toArray, List.set_cons_zero, List.set_cons_succ]
  refine wpAnyH_take (i := 3) (oi := ⟨some 11, _, _, _, _, _⟩) (v := ?_) rfl (by kernel_rfl) (by kernel_rfl) (by kernel_rfl) (fun _ _ _ h => h) (Or.inl ⟨by rfl, ?_⟩) (by assumption) ?_
  rotate_left 1
  · (intro W hSw; obtain ⟨f1, f2⟩ := tS W hSw; go_simp <;> with_reducible rfl)
  try simp only [Act.put, List.setIfInBounds_toArray, List.set_cons_zero, List.set_cons_succ]
  refine wpAnyH_take (i := 4) (oi := ⟨some 12, _, _, _, _, _⟩) (v := ?_) rfl (by kernel_rfl) (by kernel_rfl) (by kernel_rfl) (fun _ _ _ h => h) (Or.inl ⟨by rfl, ?_⟩) (by assumption) ?_
  rotate_left 1
  · (intro W hSw; obtain ⟨f1, f2⟩ := tS W hSw; go_simp <;> with_reducible rfl)
  try simp only [Act.put, List.setIfInBounds_toArray, List.set_cons_zero, List.set_cons_succ]
  refine wpAnyH_ready (rs := [2]) (by kernel_rfl) (by simp) ?_
  refine AllReadyH.cons rfl (fun K hK => ?_) AllReadyH.nil
  go_simp
  refine (h17 _ k0).mono ?_
  rintro e w11 ⟨rfl, hb11⟩
  have k1 := k0.trans (hb11.mono k0.size)
  have hKeep := k1
  refine hK.out _ _ ?_ (fun hHeld1 => ?_)
  · exact hKeep
  clear hHeld hK K hKeep
  try simp only [Act.put, List.setIfInBounds_toArray, List.set_cons_zero, List.set_cons_succ]
  refine wpAnyH_ready (rs := [5]) (by kernel_rfl) (by simp) ?_
  refine AllReadyH.cons rfl (fun K hK => ?_) AllReadyH.nil
  go_simp
  refine (h71 _ k1).mono ?_
  rintro e w12 ⟨rfl, hb12⟩
  have k2 := k1.trans (hb12.mono k1.size)
  have hKeep := k2
  refine hK.out _ _ ?_ (fun hHeld2 => ?_)
  · exact hKeep
  clear hHeld1 hK K hKeep
  try simp only [Act.put, List.setIfInBounds_toArray, List.set_cons_zero, List.set_cons_succ]
  refine wpAnyH_take (i := 6) (oi := ⟨some 3, _, _, _, _, _⟩) (v := ?_) rfl (by kernel_rfl) (by kernel_rfl) (by kernel_rfl) (fun _ _ _ h => h) (Or.inl ⟨by rfl, ?_⟩) (by assumption) ?_
  rotate_left 1
  · (intro W hSw; obtain ⟨f1, f2⟩ := tS W hSw; go_simp <;> with_reducible rfl)
  try simp only [Act.put, List.setIfInBounds_toArray, List.set_cons_zero, List.set_cons_succ]
  refine wpAnyH_take (i := 7) (oi := ⟨some 4, _, _, _, _, _⟩) (v := ?_) rfl (by kernel_rfl) (by kernel_rfl) (by kernel_rfl) (fun _ _ _ h => h) (Or.inl ⟨by rfl, ?_⟩) (by assumption) ?_
  rotate_left 1
  · (intro W hSw; obtain ⟨f1, f2⟩ := tS W hSw; go_simp <;> with_reducible rfl)
  try simp only [Act.put, List.setIfInBounds_toArray, List.set_cons_zero, List.set_cons_succ]
  refine wpAnyH_done (by kernel_rfl) ?_ _
  refine NoPanic.normal ?_
  obtain ⟨c0, c1, c2⟩ := tA w12 k2
  go_wp2_with fail
  refine (h18 w12 k2).mono ?_
  rintro e w13 ⟨rfl, hb13⟩
  go_wp2
  go_ret
  exact ⟨by simp, hb0.trans ((k2.trans (hb13.mono k2.size)).mono hb0.size)⟩
set_option maxRecDepth 100000 in
set_option maxHeartbeats 4000000 in
theorem texts_else (k i j : Int) (h : ¬ (1 ≤ k ∧ k ≤ 8)) (hi : Wide i) (hj : Wide j) (w : World) (hL : Laid w) : Calls Tryd.prog 6 #[.agg #[.int .i64 k, .int .i64 i, .int .i64 j]] w fun e w' => e = .returned (.bool true) ∧ Below w.heap.size w w' := by
  obtain ⟨z, ez⟩ : ∃ z, z = w.heap.size := ⟨_, rfl⟩
  obtain ⟨W0, eW0⟩ : ∃ W, W = w.alloc (.cells #[.int .i64 k, .int .i64 i, .int .i64 j] 23) := ⟨_, rfl⟩
  have hb0 : Below w.heap.size w W0 := by rw [eW0]; exact (Below.refl _ w).alloc (Nat.le_refl _) _
  have hx0 : Blk W0 z 23 #[.int .i64 k, .int .i64 i, .int .i64 j] := by rw [eW0, ez]; exact heap_alloc_new w _
  obtain ⟨SI, eI⟩ : ∃ S, S = txt (Lib.itoa i) := ⟨_, rfl⟩
  obtain ⟨SJ, eJ⟩ : ∃ S, S = txt (Lib.itoa j) := ⟨_, rfl⟩
  have zI : SI.size ≤ 21 := by rw [eI, txt_size]; exact itoa_short i hi
  have zJ : SJ.size ≤ 21 := by rw [eJ, txt_size]; exact itoa_short j hj
  have h17 : ∀ W, Below W0.heap.size W0 W → Calls Tryd.prog 17 #[.int .i64 i] W fun e w' => e = .returned (.string SI) ∧ Below W.heap.size W w' := fun W hW => by rw [eI]; exact dec_any i hi W ((hL.on hb0).on hW)
  have h71 : ∀ W, Below W0.heap.size W0 W → Calls Tryd.prog 17 #[.int .i64 j] W fun e w' => e = .returned (.string SJ) ∧ Below W.heap.size W w' := fun W hW => by rw [eJ]; exact dec_any j hj W ((hL.on hb0).on hW)
  obtain ⟨t1, t2, t3, t4, t5, t6, t7, t8⟩ : (k == 1) = false ∧ (k == 2) = false ∧ (k == 3) = false ∧ (k == 4) = false ∧ (k == 5) = false ∧ (k == 6) = false ∧ (k == 7) = false ∧ (k == 8) = false := by
    simp only [beq_eq_false_iff_ne]
    omega
  obtain ⟨U, eU⟩ : ∃ S, S = txt [] := ⟨_, rfl⟩
  have h18 : ∀ W, Below W0.heap.size W0 W → Calls Tryd.prog 18 #[.agg #[.int .i64 k, .int .i64 i, .int .i64 j]] W fun e w' => e = .returned (.string U) ∧ Below W.heap.size W w' := fun W hW => by rw [eU]; exact text_else k i j h W
  have hU : U.toList.isEmpty = true := by rw [eU, ByteArray.toList_eq]; rfl
  clear h
  clear eI eJ eU
  have tS : ∀ W, Below W0.heap.size W0 W → W.cell? ⟨z, 1, none⟩ = some (.int .i64 i) ∧ W.cell? ⟨z, 2, none⟩ = some (.int .i64 j) := fun W hW => ⟨(hx0.on hW).cell 1, (hx0.on hW).cell 2⟩
  have tA : ∀ W, Below W0.heap.size W0 W → W.cell? ⟨z, 0, none⟩ = some (.int .i64 k) ∧ W.cell? ⟨z, 1, none⟩ = some (.int .i64 i) ∧ W.cell? ⟨z, 2, none⟩ = some (.int .i64 j) := fun W hW => ⟨(hx0.on hW).cell 0, (hx0.on hW).cell 1, (hx0.on hW).cell 2⟩
  go_enter Tryd.func6, Tryd.ntmps6
  go_wp2_with fail
  rw [← eW0, ← ez]
  clear eW0
  have HZ := Lib.hid ez
  clear ez
  refine (alive_any W0 (hL.on hb0)).mono ?_
  rintro e V ⟨rfl, hb1⟩
  have kk : Below W0.heap.size W0 V := hb1
  have hz0 : Below W0.heap.size W0 V.drew := kk.drew
  go_wp2_with fail
  have k0 : Below W0.heap.size W0 V.drew := hz0
  refine wp_region_noPanic ?_
  refine wp_region_held_drew (S := (fun W => Below W0.heap.size W0 W)) (by kernel_rfl) k0 (fun hHeld => ?_)
  refine wpAnyH_take (i := 0) (oi := ⟨some 8, _, _, _, _, _⟩) (v := ?_) rfl (by kernel_rfl) (by kernel_rfl) (by kernel_rfl) (fun _ _ _ h => h) (Or.inl ⟨by rfl, ?_⟩) (by assumption) ?_
  rotate_left 1
  · (intro W hSw; obtain ⟨f1, f2⟩ := tS W hSw; go_simp <;> with_reducible rfl)
  try simp only [Act.put, List.setIfInBounds_toArray, List.set_cons_zero, List.set_cons_succ]
  refine wpAnyH_take (i := 1) (oi := ⟨some 9, _, _, _, _, _⟩) (v := ?_) rfl (by kernel_rfl) (by kernel_rfl) (by kernel_rfl) (fun _ _ _ h => h) (Or.inl ⟨by rfl, ?_⟩) (by assumption) ?_
  rotate_left 1
  · (intro W hSw; obtain ⟨f1, f2⟩ := tS W hSw; go_simp <;> with_reducible rfl)
  try simp only [Act.put, List.setIfInBounds_toArray, List.set_cons_zero, List.set_cons_succ]
  refine wpAnyH_take (i := 3) (oi := ⟨some 11, _, _, _, _, _⟩) (v := ?_) rfl (by kernel_rfl) (by kernel_rfl) (by kernel_rfl) (fun _ _ _ h => h) (Or.inl ⟨by rfl, ?_⟩) (by assumption) ?_
  rotate_left 1
  · (intro W hSw; obtain ⟨f1, f2⟩ := tS W hSw; go_simp <;> with_reducible rfl)
  try simp only [Act.put, List.setIfInBounds_toArray, List.set_cons_zero, List.set_cons_succ]
  refine wpAnyH_take (i := 4) (oi := ⟨some 12, _, _, _, _, _⟩) (v := ?_) rfl (by kernel_rfl) (by kernel_rfl) (by kernel_rfl) (fun _ _ _ h => h) (Or.inl ⟨by rfl, ?_⟩) (by assumption) ?_
  rotate_left 1
  · (intro W hSw; obtain ⟨f1, f2⟩ := tS W hSw; go_simp <;> with_reducible rfl)
  try simp only [Act.put, List.setIfInBounds_toArray, List.set_cons_zero, List.set_cons_succ]
  refine wpAnyH_ready (rs := [2]) (by kernel_rfl) (by simp) ?_
  refine AllReadyH.cons rfl (fun K hK => ?_) AllReadyH.nil
  go_simp
  refine (h17 _ k0).mono ?_
  rintro e w11 ⟨rfl, hb11⟩
  have k1 := k0.trans (hb11.mono k0.size)
  have hKeep := k1
  refine hK.out _ _ ?_ (fun hHeld1 => ?_)
  · exact hKeep
  clear hHeld hK K hKeep
  try simp only [Act.put, List.setIfInBounds_toArray, List.set_cons_zero, List.set_cons_succ]
  refine wpAnyH_ready (rs := [5]) (by kernel_rfl) (by simp) ?_
  refine AllReadyH.cons rfl (fun K hK => ?_) AllReadyH.nil
  go_simp
  refine (h71 _ k1).mono ?_
  rintro e w12 ⟨rfl, hb12⟩
  have k2 := k1.trans (hb12.mono k1.size)
  have hKeep := k2
  refine hK.out _ _ ?_ (fun hHeld2 => ?_)
  · exact hKeep
  clear hHeld1 hK K hKeep
  try simp only [Act.put, List.setIfInBounds_toArray, List.set_cons_zero, List.set_cons_succ]
  refine wpAnyH_take (i := 6) (oi := ⟨some 3, _, _, _, _, _⟩) (v := ?_) rfl (by kernel_rfl) (by kernel_rfl) (by kernel_rfl) (fun _ _ _ h => h) (Or.inl ⟨by rfl, ?_⟩) (by assumption) ?_
  rotate_left 1
  · (intro W hSw; obtain ⟨f1, f2⟩ := tS W hSw; go_simp <;> with_reducible rfl)
  try simp only [Act.put, List.setIfInBounds_toArray, List.set_cons_zero, List.set_cons_succ]
  refine wpAnyH_take (i := 7) (oi := ⟨some 4, _, _, _, _, _⟩) (v := ?_) rfl (by kernel_rfl) (by kernel_rfl) (by kernel_rfl) (fun _ _ _ h => h) (Or.inl ⟨by rfl, ?_⟩) (by assumption) ?_
  rotate_left 1
  · (intro W hSw; obtain ⟨f1, f2⟩ := tS W hSw; go_simp <;> with_reducible rfl)
  try simp only [Act.put, List.setIfInBounds_toArray, List.set_cons_zero, List.set_cons_succ]
  refine wpAnyH_done (by kernel_rfl) ?_ _
  refine NoPanic.normal ?_
  obtain ⟨c0, c1, c2⟩ := tA w12 k2
  go_wp2_with fail
  refine (h18 w12 k2).mono ?_
  rintro e w13 ⟨rfl, hb13⟩
  go_wp2
  go_ret
  exact ⟨by simp, hb0.trans ((k2.trans (hb13.mono k2.size)).mono hb0.size)⟩
theorem texts_any (x : Pl) (hi : Wide x.i) (hj : Wide x.j) (w : World) (hL : Laid w) : Calls Tryd.prog 6 #[.agg x.cs.toArray] w fun e w' => e = .returned (.bool true) ∧ Below w.heap.size w w' := by
  obtain ⟨k, i, j⟩ := x
  by_cases h : 1 ≤ k ∧ k ≤ 8
  · have hk : k = 1 ∨ k = 2 ∨ k = 3 ∨ k = 4 ∨ k = 5 ∨ k = 6 ∨ k = 7 ∨ k = 8 := by omega
    rcases hk with rfl | rfl | rfl | rfl | rfl | rfl | rfl | rfl
    · exact texts_1 i j hi hj w hL
    · exact texts_2 i j hi hj w hL
    · exact texts_3 i j hi hj w hL
    · exact texts_4 i j hi hj w hL
    · exact texts_5 i j hi hj w hL
    · exact texts_6 i j hi hj w hL
    · exact texts_7 i j hi hj w hL
    · exact texts_8 i j hi hj w hL
  · exact texts_else k i j h hi hj w hL
end Go.Proofs.YtabnfiligbpocaaDoor
