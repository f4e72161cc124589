/- The plain act of an instruction. Conditions: none. -/
import Derived.Test.YtfadfdfpocpelaaGreatDoorStores
import Derived.Deep.DeepCutAuto
namespace Go.Proofs.YtfadfdfpocpelaaGreatDoor
set_option linter.unusedSimpArgs false
set_option linter.unusedVariables false
open Go.RowKit Go.ChangeShapes Go.WideShapes

/-- The way on, by a name. -/
theorem in_G {P : Program} {md : Region.Mode} {ops : Array Oper} {Q : Exit → Act → World → Prop} {S : World → Prop} {G : Nat → Array Bool → Act → World → Prop} (e : wpAnyH P md ops Q S = G) {f : Nat} {l : Array Bool} {a : Act} {w : World} (h : wpAnyH P md ops Q S f l a w) : G f l a w := e ▸ h
theorem of_G {P : Program} {md : Region.Mode} {ops : Array Oper} {Q : Exit → Act → World → Prop} {S : World → Prop} {G : Nat → Array Bool → Act → World → Prop} (e : wpAnyH P md ops Q S = G) {f : Nat} {l : Array Bool} {a : Act} {w : World} (h : G f l a w) : wpAnyH P md ops Q S f l a w := e ▸ h
theorem to_G {P : Program} {md : Region.Mode} {ops : Array Oper} {Q : Exit → Act → World → Prop} {S : World → Prop} {f : Nat} {l : Array Bool} {a : Act} {w : World} (h : ∀ G : Nat → Array Bool → Act → World → Prop, wpAnyH P md ops Q S = G → G f l a w) : wpAnyH P md ops Q S f l a w := h _ rfl
/-- Is it shared? -/
def sharB (op : Int) : Bool := inB op 11 16 || inB op 18 25
set_option maxRecDepth 100000 in
set_option maxHeartbeats 4000000 in
theorem shares_any (op : Int) (w : World) : Calls Tryz.prog 29 #[.int .i64 op] w fun e w' => e = .returned (.bool (sharB op)) ∧ Below w.heap.size w w' := by
  have m1 := in_any op 11 16
  have m2 := in_any op 18 25
  unfold sharB
  generalize inB op 11 16 = b1 at *
  generalize inB op 18 25 = b2 at *
  cases b1 with
  | true =>
    go_enter Tryz.func29, Tryz.ntmps29
    go_wp2_with fail
    refine (m1 _).mono ?_
    rintro e w1 ⟨rfl, rfl⟩
    go_wp2
    go_ret
    exact ⟨rfl, Below.refl _ _⟩
  | false =>
    go_enter Tryz.func29, Tryz.ntmps29
    go_wp2_with fail
    refine (m1 _).mono ?_
    rintro e w1 ⟨rfl, rfl⟩
    go_wp2_with fail
    refine (m2 _).mono ?_
    rintro e w1 ⟨rfl, rfl⟩
    go_wp2
    go_ret
    exact ⟨rfl, Below.refl _ _⟩
set_option maxRecDepth 100000 in
set_option maxHeartbeats 16000000 in
theorem want_any (t : Int) (x : Th) (i : Ins) (own : Int) (w : World) : Calls Tryz.prog 11 #[.int .i64 t, .agg x.cs.toArray, .agg i.cs.toArray, .int .i64 own] w fun e w' => e = .returned (.agg (actI t x i own).cs.toArray) ∧ Below w.heap.size w w' := by
  obtain ⟨p1, f1⟩ : ∃ p, w.heap.size = p := ⟨_, rfl⟩
  obtain ⟨W1, ea1⟩ : ∃ W, w.alloc (.cells x.cs.toArray 33) = W := ⟨_, rfl⟩
  have ka1 : Below w.heap.size w W1 := by rw [← ea1]; exact (Below.refl _ w).alloc (Nat.le_refl _) _
  have b1 : Blk W1 p1 33 x.cs.toArray := by rw [← ea1]; exact blk_new w _ 33 _ f1
  have kk : Below w.heap.size w W1 := ka1
  have hp1 : w.heap.size ≤ p1 := Nat.le_of_eq f1
  clear ka1
  obtain ⟨p2, f2⟩ : ∃ p, W1.heap.size = p := ⟨_, rfl⟩
  obtain ⟨W2, ea2⟩ : ∃ W, W1.alloc (.cells i.cs.toArray 49) = W := ⟨_, rfl⟩
  have ka2 : Below W1.heap.size W1 W2 := by rw [← ea2]; exact (Below.refl _ W1).alloc (Nat.le_refl _) _
  have b2 : Blk W2 p2 49 i.cs.toArray := by rw [← ea2]; exact blk_new W1 _ 49 _ f2
  have q1_2 : p1 < p2 := by rw [← f2]; exact b1.lt
  replace b1 := b1.on ka2
  have kk0 := kk
  replace kk := kk.trans (ka2.mono kk.size)
  have hp2 : w.heap.size ≤ p2 := by rw [← f2]; exact kk0.size
  clear ka2 kk0
  obtain ⟨p3, f3⟩ : ∃ p, W2.heap.size = p := ⟨_, rfl⟩
  obtain ⟨W3, ea3⟩ : ∃ W, W2.alloc (.cells #[.int .i64 0, .int .i64 0, .int .i64 0, .int .i64 0, .int .i64 0, .int .i64 0, .int .i64 0, .int .i64 0, .int .i64 0, .int .i64 0, .int .i64 0, .int .i64 0, .int .i64 0, .int .i64 0] 40) = W := ⟨_, rfl⟩
  have ka3 : Below W2.heap.size W2 W3 := by rw [← ea3]; exact (Below.refl _ W2).alloc (Nat.le_refl _) _
  have b3 : Blk W3 p3 40 #[.int .i64 0, .int .i64 0, .int .i64 0, .int .i64 0, .int .i64 0, .int .i64 0, .int .i64 0, .int .i64 0, .int .i64 0, .int .i64 0, .int .i64 0, .int .i64 0, .int .i64 0, .int .i64 0] := by rw [← ea3]; exact blk_new W2 _ 40 _ f3
  have q1_3 : p1 < p3 := by rw [← f3]; exact b1.lt
  replace b1 := b1.on ka3
  have q2_3 : p2 < p3 := by rw [← f3]; exact b2.lt
  replace b2 := b2.on ka3
  have kk0 := kk
  replace kk := kk.trans (ka3.mono kk.size)
  have hp3 : w.heap.size ≤ p3 := by rw [← f3]; exact kk0.size
  clear ka3 kk0
  have h13 : p1 ≠ p3 := by omega
  have h23 : p2 ≠ p3 := by omega
  obtain ⟨F, eF⟩ : ∃ F, actI t x i own = F := ⟨_, rfl⟩
  rw [eF]
  have HF := Lib.hid eF
  clear eF
  go_enter Tryz.func11, Tryz.ntmps11
  go_wp2_with fail
  clear f1
  go_cut [9, 10, 11] (fun s9 s10 s11 wx => ∃ P9 P10 P11, s9 = .pointer (some ⟨P9, 0, none⟩) ∧ s10 = .pointer (some ⟨P10, 0, none⟩) ∧ s11 = .pointer (some ⟨P11, 0, none⟩) ∧ Below w.heap.size w wx ∧ Blk wx p1 33 x.cs.toArray ∧ Blk wx p2 49 i.cs.toArray ∧ Blk wx p3 40 #[.int .i64 0, .int .i64 0, .int .i64 0, .int .i64 0, .int .i64 0, .int .i64 0, .int .i64 0, .int .i64 0, .int .i64 0, .int .i64 0, .int .i64 0, .int .i64 0, .int .i64 0, .int .i64 0] ∧ Blk wx P9 26 (regI x i.a).cs.toArray ∧ Blk wx P10 26 (regI x i.b).cs.toArray ∧ Blk wx P11 26 (regI x i.c).cs.toArray)
  case first =>
    obtain ⟨wd, ed⟩ : ∃ W, W3.drew = W := ⟨_, rfl⟩
    have hd : Below W3.heap.size W3 wd := by rw [← ed]; exact (Below.refl _ _).drew
    replace b1 := b1.on hd
    replace b2 := b2.on hd
    replace b3 := b3.on hd
    replace kk := kk.trans (hd.mono kk.size)
    clear hd
    have hwd : w.heap.size ≤ wd.heap.size := kk.size
    have kS : Kept (fun g => False) wd wd := Kept.refl _ _
    have tS : ∀ W, Kept (fun g => False) wd W → W.cell? ⟨p2, 1, none⟩ = some (.int .i64 i.a) ∧ W.cell? ⟨p2, 2, none⟩ = some (.int .i64 i.b) ∧ W.cell? ⟨p2, 3, none⟩ = some (.int .i64 i.c) := fun W hW => ⟨(b2.kept hW id).cell 1, (b2.kept hW id).cell 2, (b2.kept hW id).cell 3⟩
    refine wp_region_noPanic ?_
    refine wp_region_held_drew (S := (fun W => Kept (fun g => False) wd W)) (by kernel_rfl) (by rw [ed]; exact kS) (fun hHeld => ?_)
    rw [ed] at hHeld ⊢
    refine wpAnyH_take (i := 0) (oi := ⟨some 12, _, _, _, _, _⟩) (v := .agg (List.toArray (x.cs))) rfl (by kernel_rfl) (by kernel_rfl) (by kernel_rfl) (fun _ _ _ h => h) (yieldsIf_load_mid (by rfl) 33 (.tmp 5) rfl p1 (0) rfl (x.cs) _ (fun W hW => range_part (b1.kept hW id) 0 x.cs rfl) Tryz.underlying33 rfl (sizeT _)) (by assumption) ?_
    try simp only [Act.put, List.setIfInBounds_toArray, List.set_cons_zero, List.set_cons_succ]
    refine wpAnyH_take (i := 1) (oi := ⟨some 13, _, _, _, _, _⟩) (v := ?_) rfl (by kernel_rfl) (by kernel_rfl) (by kernel_rfl) (fun _ _ _ h => h) (Or.inl ⟨by rfl, ?_⟩) (by assumption) ?_
    rotate_left 1
    · (intro W hSw; go_simp <;> with_reducible rfl)
    try simp only [Act.put, List.setIfInBounds_toArray, List.set_cons_zero, List.set_cons_succ]
    refine wpAnyH_take (i := 2) (oi := ⟨some 14, _, _, _, _, _⟩) (v := ?_) rfl (by kernel_rfl) (by kernel_rfl) (by kernel_rfl) (fun _ _ _ h => h) (Or.inl ⟨by rfl, ?_⟩) (by assumption) ?_
    rotate_left 1
    · (intro W hSw; obtain ⟨q0, q1, q2⟩ := tS W hSw; go_simp <;> with_reducible rfl)
    try simp only [Act.put, List.setIfInBounds_toArray, List.set_cons_zero, List.set_cons_succ]
    refine wpAnyH_take (i := 4) (oi := ⟨some 16, _, _, _, _, _⟩) (v := .agg (List.toArray (x.cs))) rfl (by kernel_rfl) (by kernel_rfl) (by kernel_rfl) (fun _ _ _ h => h) (yieldsIf_load_mid (by rfl) 33 (.tmp 5) rfl p1 (0) rfl (x.cs) _ (fun W hW => range_part (b1.kept hW id) 0 x.cs rfl) Tryz.underlying33 rfl (sizeT _)) (by assumption) ?_
    try simp only [Act.put, List.setIfInBounds_toArray, List.set_cons_zero, List.set_cons_succ]
    refine wpAnyH_take (i := 5) (oi := ⟨some 17, _, _, _, _, _⟩) (v := ?_) rfl (by kernel_rfl) (by kernel_rfl) (by kernel_rfl) (fun _ _ _ h => h) (Or.inl ⟨by rfl, ?_⟩) (by assumption) ?_
    rotate_left 1
    · (intro W hSw; go_simp <;> with_reducible rfl)
    try simp only [Act.put, List.setIfInBounds_toArray, List.set_cons_zero, List.set_cons_succ]
    refine wpAnyH_take (i := 6) (oi := ⟨some 18, _, _, _, _, _⟩) (v := ?_) rfl (by kernel_rfl) (by kernel_rfl) (by kernel_rfl) (fun _ _ _ h => h) (Or.inl ⟨by rfl, ?_⟩) (by assumption) ?_
    rotate_left 1
    · (intro W hSw; obtain ⟨q0, q1, q2⟩ := tS W hSw; go_simp <;> with_reducible rfl)
    try simp only [Act.put, List.setIfInBounds_toArray, List.set_cons_zero, List.set_cons_succ]
    refine wpAnyH_take (i := 8) (oi := ⟨some 20, _, _, _, _, _⟩) (v := .agg (List.toArray (x.cs))) rfl (by kernel_rfl) (by kernel_rfl) (by kernel_rfl) (fun _ _ _ h => h) (yieldsIf_load_mid (by rfl) 33 (.tmp 5) rfl p1 (0) rfl (x.cs) _ (fun W hW => range_part (b1.kept hW id) 0 x.cs rfl) Tryz.underlying33 rfl (sizeT _)) (by assumption) ?_
    try simp only [Act.put, List.setIfInBounds_toArray, List.set_cons_zero, List.set_cons_succ]
    refine wpAnyH_take (i := 9) (oi := ⟨some 21, _, _, _, _, _⟩) (v := ?_) rfl (by kernel_rfl) (by kernel_rfl) (by kernel_rfl) (fun _ _ _ h => h) (Or.inl ⟨by rfl, ?_⟩) (by assumption) ?_
    rotate_left 1
    · (intro W hSw; go_simp <;> with_reducible rfl)
    try simp only [Act.put, List.setIfInBounds_toArray, List.set_cons_zero, List.set_cons_succ]
    refine wpAnyH_take (i := 10) (oi := ⟨some 22, _, _, _, _, _⟩) (v := ?_) rfl (by kernel_rfl) (by kernel_rfl) (by kernel_rfl) (fun _ _ _ h => h) (Or.inl ⟨by rfl, ?_⟩) (by assumption) ?_
    rotate_left 1
    · (intro W hSw; obtain ⟨q0, q1, q2⟩ := tS W hSw; go_simp <;> with_reducible rfl)
    try simp only [Act.put, List.setIfInBounds_toArray, List.set_cons_zero, List.set_cons_succ]
    refine to_G fun G eG => ?_
    have HG := Lib.hid eG
    clear eG
    have st_3_7_11_12_13_14 : ∀ (wv : World) (pa : Nat) (pb : Nat) (pc : Nat), (fun W => Kept (fun g => False) wd W) wv → Blk wv p1 33 x.cs.toArray → Blk wv p2 49 i.cs.toArray → Blk wv p3 40 #[.int .i64 0, .int .i64 0, .int .i64 0, .int .i64 0, .int .i64 0, .int .i64 0, .int .i64 0, .int .i64 0, .int .i64 0, .int .i64 0, .int .i64 0, .int .i64 0, .int .i64 0, .int .i64 0] → Below w.heap.size w wv → Blk wv pa 26 #[.int .i64 0, .int .i64 0, .int .i64 0] → Blk wv pb 26 #[.int .i64 0, .int .i64 0, .int .i64 0] → Blk wv pc 26 #[.int .i64 0, .int .i64 0, .int .i64 0] → wd.heap.size ≤ pa → wd.heap.size ≤ pb → wd.heap.size ≤ pc → pa ≠ pb → pa ≠ pc → pb ≠ pc → G 3 #[true, true, true, true, true, true, true, true, true, true, true, true, true, true, true, false, false, false] { tmps := #[.int .i64 t, .agg x.cs.toArray, .agg i.cs.toArray, .int .i64 own, undef, .pointer (some ⟨p1, 0, none⟩), .pointer (some ⟨p2, 0, none⟩), undef, .pointer (some ⟨p3, 0, none⟩), .pointer (some ⟨pa, 0, none⟩), .pointer (some ⟨pb, 0, none⟩), .pointer (some ⟨pc, 0, none⟩), .agg x.cs.toArray, .pointer (some ⟨p2, 1, none⟩), .int .i64 i.a, .agg (regI x i.a).cs.toArray, .agg x.cs.toArray, .pointer (some ⟨p2, 2, none⟩), .int .i64 i.b, .agg (regI x i.b).cs.toArray, .agg x.cs.toArray, .pointer (some ⟨p2, 3, none⟩), .int .i64 i.c, .agg (regI x i.c).cs.toArray, undef, undef, undef, undef, undef, undef, undef, undef, undef, undef, undef, undef, undef, undef, undef, undef, undef, undef, undef, undef, undef, undef, undef, undef, undef, undef, undef, undef, undef, undef, undef, undef, undef, undef, undef, undef, undef, undef, undef, undef, undef, undef, undef, undef, undef, undef, undef, undef, undef, undef, undef, undef, undef, undef, undef, undef, undef, undef, undef, undef, undef, undef, undef, undef, undef, undef, undef], defers := [] } wv := by
      intro wv pa pb pc sv b1v b2v b3v kkv bpa bpb bpc hpa hpb hpc npapb npapc npbpc
      refine in_G HG.out ?_
      refine wpAnyH_ready (rs := [15]) (by kernel_rfl) (by simp) ?_
      refine AllReadyH.cons (o := ⟨none, _, _, _, _, _⟩) rfl (fun K hK => ?_) AllReadyH.nil
      rw [if_pos (by rfl)]
      refine wp_store_row 26 (.tmp 9) (.tmp 15) rfl pa (regI x i.a).cs.toArray rfl rfl 26 #[.int .i64 0, .int .i64 0, .int .i64 0] bpa size26 rfl (Wd.onea _) ?_
      have sn0 : Kept (fun g => False) wd (wv.setRow pa (regI x i.a).cs.toArray) := Kept.next sv (kept_row _ pa _) (fun g h => .inr (by rw [h]; exact hpa))
      refine hK.out _ _ sn0 (fun hh => ?_)
      clear hh hK K
      have b1_0 := row_far (W := (wv.setRow pa (regI x i.a).cs.toArray)) b1v rfl (by have := b1v.ne bpa (by decide); exact this)
      have b2_0 := row_far (W := (wv.setRow pa (regI x i.a).cs.toArray)) b2v rfl (by have := b2v.ne bpa (by decide); exact this)
      have b3_0 := row_far (W := (wv.setRow pa (regI x i.a).cs.toArray)) b3v rfl (by have := b3v.ne bpa (by decide); exact this)
      have kk_0 := kkv.trans (row_below (W := (wv.setRow pa (regI x i.a).cs.toArray)) rfl (Nat.le_trans hwd hpa) kkv.size)
      have bpb_0 := row_far (W := (wv.setRow pa (regI x i.a).cs.toArray)) bpb rfl npapb.symm
      have bpc_0 := row_far (W := (wv.setRow pa (regI x i.a).cs.toArray)) bpc rfl npapc.symm
      have bpa_0 : Blk (wv.setRow pa (regI x i.a).cs.toArray) pa 26 (regI x i.a).cs.toArray := row_named bpa rfl
      try simp only [Act.put]
      refine wpAnyH_ready (rs := [16]) (by kernel_rfl) (by simp) ?_
      refine AllReadyH.cons (o := ⟨none, _, _, _, _, _⟩) rfl (fun K hK => ?_) AllReadyH.nil
      rw [if_pos (by rfl)]
      refine wp_store_row 26 (.tmp 10) (.tmp 19) rfl pb (regI x i.b).cs.toArray rfl rfl 26 #[.int .i64 0, .int .i64 0, .int .i64 0] bpb_0 size26 rfl (Wd.onea _) ?_
      have sn1 : Kept (fun g => False) wd ((wv.setRow pa (regI x i.a).cs.toArray).setRow pb (regI x i.b).cs.toArray) := Kept.next sn0 (kept_row _ pb _) (fun g h => .inr (by rw [h]; exact hpb))
      refine hK.out _ _ sn1 (fun hh => ?_)
      clear hh hK K
      have b1_1 := row_far (W := ((wv.setRow pa (regI x i.a).cs.toArray).setRow pb (regI x i.b).cs.toArray)) b1_0 rfl (by have := b1_0.ne bpb_0 (by decide); exact this)
      have b2_1 := row_far (W := ((wv.setRow pa (regI x i.a).cs.toArray).setRow pb (regI x i.b).cs.toArray)) b2_0 rfl (by have := b2_0.ne bpb_0 (by decide); exact this)
      have b3_1 := row_far (W := ((wv.setRow pa (regI x i.a).cs.toArray).setRow pb (regI x i.b).cs.toArray)) b3_0 rfl (by have := b3_0.ne bpb_0 (by decide); exact this)
      have kk_1 := kk_0.trans (row_below (W := ((wv.setRow pa (regI x i.a).cs.toArray).setRow pb (regI x i.b).cs.toArray)) rfl (Nat.le_trans hwd hpb) kk_0.size)
      have bpa_1 := row_far (W := ((wv.setRow pa (regI x i.a).cs.toArray).setRow pb (regI x i.b).cs.toArray)) bpa_0 rfl npapb
      have bpc_1 := row_far (W := ((wv.setRow pa (regI x i.a).cs.toArray).setRow pb (regI x i.b).cs.toArray)) bpc_0 rfl npbpc.symm
      have bpb_1 : Blk ((wv.setRow pa (regI x i.a).cs.toArray).setRow pb (regI x i.b).cs.toArray) pb 26 (regI x i.b).cs.toArray := row_named bpb_0 rfl
      try simp only [Act.put]
      refine wpAnyH_ready (rs := [17]) (by kernel_rfl) (by simp) ?_
      refine AllReadyH.cons (o := ⟨none, _, _, _, _, _⟩) rfl (fun K hK => ?_) AllReadyH.nil
      rw [if_pos (by rfl)]
      refine wp_store_row 26 (.tmp 11) (.tmp 23) rfl pc (regI x i.c).cs.toArray rfl rfl 26 #[.int .i64 0, .int .i64 0, .int .i64 0] bpc_1 size26 rfl (Wd.onea _) ?_
      have sn2 : Kept (fun g => False) wd (((wv.setRow pa (regI x i.a).cs.toArray).setRow pb (regI x i.b).cs.toArray).setRow pc (regI x i.c).cs.toArray) := Kept.next sn1 (kept_row _ pc _) (fun g h => .inr (by rw [h]; exact hpc))
      refine hK.out _ _ sn2 (fun hh => ?_)
      clear hh hK K
      have b1_2 := row_far (W := (((wv.setRow pa (regI x i.a).cs.toArray).setRow pb (regI x i.b).cs.toArray).setRow pc (regI x i.c).cs.toArray)) b1_1 rfl (by have := b1_1.ne bpc_1 (by decide); exact this)
      have b2_2 := row_far (W := (((wv.setRow pa (regI x i.a).cs.toArray).setRow pb (regI x i.b).cs.toArray).setRow pc (regI x i.c).cs.toArray)) b2_1 rfl (by have := b2_1.ne bpc_1 (by decide); exact this)
      have b3_2 := row_far (W := (((wv.setRow pa (regI x i.a).cs.toArray).setRow pb (regI x i.b).cs.toArray).setRow pc (regI x i.c).cs.toArray)) b3_1 rfl (by have := b3_1.ne bpc_1 (by decide); exact this)
      have kk_2 := kk_1.trans (row_below (W := (((wv.setRow pa (regI x i.a).cs.toArray).setRow pb (regI x i.b).cs.toArray).setRow pc (regI x i.c).cs.toArray)) rfl (Nat.le_trans hwd hpc) kk_1.size)
      have bpa_2 := row_far (W := (((wv.setRow pa (regI x i.a).cs.toArray).setRow pb (regI x i.b).cs.toArray).setRow pc (regI x i.c).cs.toArray)) bpa_1 rfl npapc
      have bpb_2 := row_far (W := (((wv.setRow pa (regI x i.a).cs.toArray).setRow pb (regI x i.b).cs.toArray).setRow pc (regI x i.c).cs.toArray)) bpb_1 rfl npbpc
      have bpc_2 : Blk (((wv.setRow pa (regI x i.a).cs.toArray).setRow pb (regI x i.b).cs.toArray).setRow pc (regI x i.c).cs.toArray) pc 26 (regI x i.c).cs.toArray := row_named bpc_1 rfl
      try simp only [Act.put]
      refine wpAnyH_done (by kernel_rfl) ?_ _
      refine NoPanic.normal ?_
      go_wp2_with fail
      go_meet
      exact ⟨_, _, _, rfl, rfl, rfl, kk_2, b1_2, b2_2, b3_2, bpa_2, bpb_2, bpc_2⟩
    have st_3_7_12_13_14 : ∀ (wv : World) (pa : Nat) (pb : Nat) (pc : Nat), (fun W => Kept (fun g => False) wd W) wv → Blk wv p1 33 x.cs.toArray → Blk wv p2 49 i.cs.toArray → Blk wv p3 40 #[.int .i64 0, .int .i64 0, .int .i64 0, .int .i64 0, .int .i64 0, .int .i64 0, .int .i64 0, .int .i64 0, .int .i64 0, .int .i64 0, .int .i64 0, .int .i64 0, .int .i64 0, .int .i64 0] → Below w.heap.size w wv → Blk wv pa 26 #[.int .i64 0, .int .i64 0, .int .i64 0] → Blk wv pb 26 #[.int .i64 0, .int .i64 0, .int .i64 0] → Blk wv pc 26 #[.int .i64 0, .int .i64 0, .int .i64 0] → wd.heap.size ≤ pa → wd.heap.size ≤ pb → wd.heap.size ≤ pc → pa ≠ pb → pa ≠ pc → pb ≠ pc → G 4 #[true, true, true, true, true, true, true, true, true, true, true, false, true, true, true, false, false, false] { tmps := #[.int .i64 t, .agg x.cs.toArray, .agg i.cs.toArray, .int .i64 own, undef, .pointer (some ⟨p1, 0, none⟩), .pointer (some ⟨p2, 0, none⟩), undef, .pointer (some ⟨p3, 0, none⟩), .pointer (some ⟨pa, 0, none⟩), .pointer (some ⟨pb, 0, none⟩), .pointer (some ⟨pc, 0, none⟩), .agg x.cs.toArray, .pointer (some ⟨p2, 1, none⟩), .int .i64 i.a, .agg (regI x i.a).cs.toArray, .agg x.cs.toArray, .pointer (some ⟨p2, 2, none⟩), .int .i64 i.b, .agg (regI x i.b).cs.toArray, .agg x.cs.toArray, .pointer (some ⟨p2, 3, none⟩), .int .i64 i.c, undef, undef, undef, undef, undef, undef, undef, undef, undef, undef, undef, undef, undef, undef, undef, undef, undef, undef, undef, undef, undef, undef, undef, undef, undef, undef, undef, undef, undef, undef, undef, undef, undef, undef, undef, undef, undef, undef, undef, undef, undef, undef, undef, undef, undef, undef, undef, undef, undef, undef, undef, undef, undef, undef, undef, undef, undef, undef, undef, undef, undef, undef, undef, undef, undef, undef, undef, undef], defers := [] } wv := by
      intro wv pa pb pc sv b1v b2v b3v kkv bpa bpb bpc hpa hpb hpc npapb npapc npbpc
      refine in_G HG.out ?_
      refine wpAnyH_ready (rs := [11]) (by kernel_rfl) (by simp) ?_
      refine AllReadyH.cons (o := ⟨some 23, _, _, _, _, _⟩) rfl (fun K hK => ?_) AllReadyH.nil
      go_simp
      refine (rget_any x i.c wv).mono ?_
      rintro e wn ⟨rfl, hb⟩
      have sn : (fun W => Kept (fun g => False) wd W) wn := Kept.next sv (kept_below (fun _ => False) hb) (fun _ h => h.elim)
      refine hK.out _ _ sn (fun hh => ?_)
      clear hh hK K
      try simp only [Act.put, List.setIfInBounds_toArray, List.set_cons_zero, List.set_cons_succ]
      exact of_G HG.out (st_3_7_11_12_13_14 wn pa pb pc sn (b1v.on hb) (b2v.on hb) (b3v.on hb) (kkv.trans (hb.mono kkv.size)) (bpa.on hb) (bpb.on hb) (bpc.on hb) hpa hpb hpc npapb npapc npbpc)
    have st_3_7_11_13_14 : ∀ (wv : World) (pb : Nat) (pc : Nat), (fun W => Kept (fun g => False) wd W) wv → Blk wv p1 33 x.cs.toArray → Blk wv p2 49 i.cs.toArray → Blk wv p3 40 #[.int .i64 0, .int .i64 0, .int .i64 0, .int .i64 0, .int .i64 0, .int .i64 0, .int .i64 0, .int .i64 0, .int .i64 0, .int .i64 0, .int .i64 0, .int .i64 0, .int .i64 0, .int .i64 0] → Below w.heap.size w wv → Blk wv pb 26 #[.int .i64 0, .int .i64 0, .int .i64 0] → Blk wv pc 26 #[.int .i64 0, .int .i64 0, .int .i64 0] → wd.heap.size ≤ pb → wd.heap.size ≤ pc → pb ≠ pc → G 4 #[true, true, true, true, true, true, true, true, true, true, true, true, false, true, true, false, false, false] { tmps := #[.int .i64 t, .agg x.cs.toArray, .agg i.cs.toArray, .int .i64 own, undef, .pointer (some ⟨p1, 0, none⟩), .pointer (some ⟨p2, 0, none⟩), undef, .pointer (some ⟨p3, 0, none⟩), undef, .pointer (some ⟨pb, 0, none⟩), .pointer (some ⟨pc, 0, none⟩), .agg x.cs.toArray, .pointer (some ⟨p2, 1, none⟩), .int .i64 i.a, .agg (regI x i.a).cs.toArray, .agg x.cs.toArray, .pointer (some ⟨p2, 2, none⟩), .int .i64 i.b, .agg (regI x i.b).cs.toArray, .agg x.cs.toArray, .pointer (some ⟨p2, 3, none⟩), .int .i64 i.c, .agg (regI x i.c).cs.toArray, undef, undef, undef, undef, undef, undef, undef, undef, undef, undef, undef, undef, undef, undef, undef, undef, undef, undef, undef, undef, undef, undef, undef, undef, undef, undef, undef, undef, undef, undef, undef, undef, undef, undef, undef, undef, undef, undef, undef, undef, undef, undef, undef, undef, undef, undef, undef, undef, undef, undef, undef, undef, undef, undef, undef, undef, undef, undef, undef, undef, undef, undef, undef, undef, undef, undef, undef], defers := [] } wv := by
      intro wv pb pc sv b1v b2v b3v kkv bpb bpc hpb hpc npbpc
      refine in_G HG.out ?_
      refine wpAnyH_ready (rs := [12]) (by kernel_rfl) (by simp) ?_
      refine AllReadyH.cons (o := ⟨some 9, _, _, _, _, _⟩) rfl (fun K hK => ?_) AllReadyH.nil
      go_simp
      obtain ⟨wn, ew⟩ : ∃ zz, zz = wv.alloc (.cells #[.int .i64 0, .int .i64 0, .int .i64 0] 26) := ⟨_, rfl⟩
      have hb : Below wv.heap.size wv wn := by rw [ew]; exact (Below.refl _ _).alloc (Nat.le_refl _) _
      rw [← ew]
      have bnew : Blk wn wv.heap.size 26 #[.int .i64 0, .int .i64 0, .int .i64 0] := by rw [ew]; exact heap_alloc_new _ _
      have sn : (fun W => Kept (fun g => False) wd W) wn := Kept.next sv (kept_below (fun _ => False) hb) (fun _ h => h.elim)
      refine hK.out _ _ sn (fun hh => ?_)
      clear hh hK K
      try simp only [Act.put, List.setIfInBounds_toArray, List.set_cons_zero, List.set_cons_succ]
      exact of_G HG.out (st_3_7_11_12_13_14 wn wv.heap.size pb pc sn (b1v.on hb) (b2v.on hb) (b3v.on hb) (kkv.trans (hb.mono kkv.size)) bnew (bpb.on hb) (bpc.on hb) (Kept.size sv) hpb hpc (Nat.ne_of_gt bpb.lt) (Nat.ne_of_gt bpc.lt) npbpc)
    have st_3_7_11_12_14 : ∀ (wv : World) (pa : Nat) (pc : Nat), (fun W => Kept (fun g => False) wd W) wv → Blk wv p1 33 x.cs.toArray → Blk wv p2 49 i.cs.toArray → Blk wv p3 40 #[.int .i64 0, .int .i64 0, .int .i64 0, .int .i64 0, .int .i64 0, .int .i64 0, .int .i64 0, .int .i64 0, .int .i64 0, .int .i64 0, .int .i64 0, .int .i64 0, .int .i64 0, .int .i64 0] → Below w.heap.size w wv → Blk wv pa 26 #[.int .i64 0, .int .i64 0, .int .i64 0] → Blk wv pc 26 #[.int .i64 0, .int .i64 0, .int .i64 0] → wd.heap.size ≤ pa → wd.heap.size ≤ pc → pa ≠ pc → G 4 #[true, true, true, true, true, true, true, true, true, true, true, true, true, false, true, false, false, false] { tmps := #[.int .i64 t, .agg x.cs.toArray, .agg i.cs.toArray, .int .i64 own, undef, .pointer (some ⟨p1, 0, none⟩), .pointer (some ⟨p2, 0, none⟩), undef, .pointer (some ⟨p3, 0, none⟩), .pointer (some ⟨pa, 0, none⟩), undef, .pointer (some ⟨pc, 0, none⟩), .agg x.cs.toArray, .pointer (some ⟨p2, 1, none⟩), .int .i64 i.a, .agg (regI x i.a).cs.toArray, .agg x.cs.toArray, .pointer (some ⟨p2, 2, none⟩), .int .i64 i.b, .agg (regI x i.b).cs.toArray, .agg x.cs.toArray, .pointer (some ⟨p2, 3, none⟩), .int .i64 i.c, .agg (regI x i.c).cs.toArray, undef, undef, undef, undef, undef, undef, undef, undef, undef, undef, undef, undef, undef, undef, undef, undef, undef, undef, undef, undef, undef, undef, undef, undef, undef, undef, undef, undef, undef, undef, undef, undef, undef, undef, undef, undef, undef, undef, undef, undef, undef, undef, undef, undef, undef, undef, undef, undef, undef, undef, undef, undef, undef, undef, undef, undef, undef, undef, undef, undef, undef, undef, undef, undef, undef, undef, undef], defers := [] } wv := by
      intro wv pa pc sv b1v b2v b3v kkv bpa bpc hpa hpc npapc
      refine in_G HG.out ?_
      refine wpAnyH_ready (rs := [13]) (by kernel_rfl) (by simp) ?_
      refine AllReadyH.cons (o := ⟨some 10, _, _, _, _, _⟩) rfl (fun K hK => ?_) AllReadyH.nil
      go_simp
      obtain ⟨wn, ew⟩ : ∃ zz, zz = wv.alloc (.cells #[.int .i64 0, .int .i64 0, .int .i64 0] 26) := ⟨_, rfl⟩
      have hb : Below wv.heap.size wv wn := by rw [ew]; exact (Below.refl _ _).alloc (Nat.le_refl _) _
      rw [← ew]
      have bnew : Blk wn wv.heap.size 26 #[.int .i64 0, .int .i64 0, .int .i64 0] := by rw [ew]; exact heap_alloc_new _ _
      have sn : (fun W => Kept (fun g => False) wd W) wn := Kept.next sv (kept_below (fun _ => False) hb) (fun _ h => h.elim)
      refine hK.out _ _ sn (fun hh => ?_)
      clear hh hK K
      try simp only [Act.put, List.setIfInBounds_toArray, List.set_cons_zero, List.set_cons_succ]
      exact of_G HG.out (st_3_7_11_12_13_14 wn pa wv.heap.size pc sn (b1v.on hb) (b2v.on hb) (b3v.on hb) (kkv.trans (hb.mono kkv.size)) (bpa.on hb) bnew (bpc.on hb) hpa (Kept.size sv) hpc (Nat.ne_of_lt bpa.lt) npapc (Nat.ne_of_gt bpc.lt))
    have st_3_7_11_12_13 : ∀ (wv : World) (pa : Nat) (pb : Nat), (fun W => Kept (fun g => False) wd W) wv → Blk wv p1 33 x.cs.toArray → Blk wv p2 49 i.cs.toArray → Blk wv p3 40 #[.int .i64 0, .int .i64 0, .int .i64 0, .int .i64 0, .int .i64 0, .int .i64 0, .int .i64 0, .int .i64 0, .int .i64 0, .int .i64 0, .int .i64 0, .int .i64 0, .int .i64 0, .int .i64 0] → Below w.heap.size w wv → Blk wv pa 26 #[.int .i64 0, .int .i64 0, .int .i64 0] → Blk wv pb 26 #[.int .i64 0, .int .i64 0, .int .i64 0] → wd.heap.size ≤ pa → wd.heap.size ≤ pb → pa ≠ pb → G 4 #[true, true, true, true, true, true, true, true, true, true, true, true, true, true, false, false, false, false] { tmps := #[.int .i64 t, .agg x.cs.toArray, .agg i.cs.toArray, .int .i64 own, undef, .pointer (some ⟨p1, 0, none⟩), .pointer (some ⟨p2, 0, none⟩), undef, .pointer (some ⟨p3, 0, none⟩), .pointer (some ⟨pa, 0, none⟩), .pointer (some ⟨pb, 0, none⟩), undef, .agg x.cs.toArray, .pointer (some ⟨p2, 1, none⟩), .int .i64 i.a, .agg (regI x i.a).cs.toArray, .agg x.cs.toArray, .pointer (some ⟨p2, 2, none⟩), .int .i64 i.b, .agg (regI x i.b).cs.toArray, .agg x.cs.toArray, .pointer (some ⟨p2, 3, none⟩), .int .i64 i.c, .agg (regI x i.c).cs.toArray, undef, undef, undef, undef, undef, undef, undef, undef, undef, undef, undef, undef, undef, undef, undef, undef, undef, undef, undef, undef, undef, undef, undef, undef, undef, undef, undef, undef, undef, undef, undef, undef, undef, undef, undef, undef, undef, undef, undef, undef, undef, undef, undef, undef, undef, undef, undef, undef, undef, undef, undef, undef, undef, undef, undef, undef, undef, undef, undef, undef, undef, undef, undef, undef, undef, undef, undef], defers := [] } wv := by
      intro wv pa pb sv b1v b2v b3v kkv bpa bpb hpa hpb npapb
      refine in_G HG.out ?_
      refine wpAnyH_ready (rs := [14]) (by kernel_rfl) (by simp) ?_
      refine AllReadyH.cons (o := ⟨some 11, _, _, _, _, _⟩) rfl (fun K hK => ?_) AllReadyH.nil
      go_simp
      obtain ⟨wn, ew⟩ : ∃ zz, zz = wv.alloc (.cells #[.int .i64 0, .int .i64 0, .int .i64 0] 26) := ⟨_, rfl⟩
      have hb : Below wv.heap.size wv wn := by rw [ew]; exact (Below.refl _ _).alloc (Nat.le_refl _) _
      rw [← ew]
      have bnew : Blk wn wv.heap.size 26 #[.int .i64 0, .int .i64 0, .int .i64 0] := by rw [ew]; exact heap_alloc_new _ _
      have sn : (fun W => Kept (fun g => False) wd W) wn := Kept.next sv (kept_below (fun _ => False) hb) (fun _ h => h.elim)
      refine hK.out _ _ sn (fun hh => ?_)
      clear hh hK K
      try simp only [Act.put, List.setIfInBounds_toArray, List.set_cons_zero, List.set_cons_succ]
      exact of_G HG.out (st_3_7_11_12_13_14 wn pa pb wv.heap.size sn (b1v.on hb) (b2v.on hb) (b3v.on hb) (kkv.trans (hb.mono kkv.size)) (bpa.on hb) (bpb.on hb) bnew hpa hpb (Kept.size sv) npapb (Nat.ne_of_lt bpa.lt) (Nat.ne_of_lt bpb.lt))
    have st_3_12_13_14 : ∀ (wv : World) (pa : Nat) (pb : Nat) (pc : Nat), (fun W => Kept (fun g => False) wd W) wv → Blk wv p1 33 x.cs.toArray → Blk wv p2 49 i.cs.toArray → Blk wv p3 40 #[.int .i64 0, .int .i64 0, .int .i64 0, .int .i64 0, .int .i64 0, .int .i64 0, .int .i64 0, .int .i64 0, .int .i64 0, .int .i64 0, .int .i64 0, .int .i64 0, .int .i64 0, .int .i64 0] → Below w.heap.size w wv → Blk wv pa 26 #[.int .i64 0, .int .i64 0, .int .i64 0] → Blk wv pb 26 #[.int .i64 0, .int .i64 0, .int .i64 0] → Blk wv pc 26 #[.int .i64 0, .int .i64 0, .int .i64 0] → wd.heap.size ≤ pa → wd.heap.size ≤ pb → wd.heap.size ≤ pc → pa ≠ pb → pa ≠ pc → pb ≠ pc → G 5 #[true, true, true, true, true, true, true, false, true, true, true, false, true, true, true, false, false, false] { tmps := #[.int .i64 t, .agg x.cs.toArray, .agg i.cs.toArray, .int .i64 own, undef, .pointer (some ⟨p1, 0, none⟩), .pointer (some ⟨p2, 0, none⟩), undef, .pointer (some ⟨p3, 0, none⟩), .pointer (some ⟨pa, 0, none⟩), .pointer (some ⟨pb, 0, none⟩), .pointer (some ⟨pc, 0, none⟩), .agg x.cs.toArray, .pointer (some ⟨p2, 1, none⟩), .int .i64 i.a, .agg (regI x i.a).cs.toArray, .agg x.cs.toArray, .pointer (some ⟨p2, 2, none⟩), .int .i64 i.b, undef, .agg x.cs.toArray, .pointer (some ⟨p2, 3, none⟩), .int .i64 i.c, undef, undef, undef, undef, undef, undef, undef, undef, undef, undef, undef, undef, undef, undef, undef, undef, undef, undef, undef, undef, undef, undef, undef, undef, undef, undef, undef, undef, undef, undef, undef, undef, undef, undef, undef, undef, undef, undef, undef, undef, undef, undef, undef, undef, undef, undef, undef, undef, undef, undef, undef, undef, undef, undef, undef, undef, undef, undef, undef, undef, undef, undef, undef, undef, undef, undef, undef, undef], defers := [] } wv := by
      intro wv pa pb pc sv b1v b2v b3v kkv bpa bpb bpc hpa hpb hpc npapb npapc npbpc
      refine in_G HG.out ?_
      refine wpAnyH_ready (rs := [7]) (by kernel_rfl) (by simp) ?_
      refine AllReadyH.cons (o := ⟨some 19, _, _, _, _, _⟩) rfl (fun K hK => ?_) AllReadyH.nil
      go_simp
      refine (rget_any x i.b wv).mono ?_
      rintro e wn ⟨rfl, hb⟩
      have sn : (fun W => Kept (fun g => False) wd W) wn := Kept.next sv (kept_below (fun _ => False) hb) (fun _ h => h.elim)
      refine hK.out _ _ sn (fun hh => ?_)
      clear hh hK K
      try simp only [Act.put, List.setIfInBounds_toArray, List.set_cons_zero, List.set_cons_succ]
      exact of_G HG.out (st_3_7_12_13_14 wn pa pb pc sn (b1v.on hb) (b2v.on hb) (b3v.on hb) (kkv.trans (hb.mono kkv.size)) (bpa.on hb) (bpb.on hb) (bpc.on hb) hpa hpb hpc npapb npapc npbpc)
    have st_3_7_13_14 : ∀ (wv : World) (pb : Nat) (pc : Nat), (fun W => Kept (fun g => False) wd W) wv → Blk wv p1 33 x.cs.toArray → Blk wv p2 49 i.cs.toArray → Blk wv p3 40 #[.int .i64 0, .int .i64 0, .int .i64 0, .int .i64 0, .int .i64 0, .int .i64 0, .int .i64 0, .int .i64 0, .int .i64 0, .int .i64 0, .int .i64 0, .int .i64 0, .int .i64 0, .int .i64 0] → Below w.heap.size w wv → Blk wv pb 26 #[.int .i64 0, .int .i64 0, .int .i64 0] → Blk wv pc 26 #[.int .i64 0, .int .i64 0, .int .i64 0] → wd.heap.size ≤ pb → wd.heap.size ≤ pc → pb ≠ pc → G 5 #[true, true, true, true, true, true, true, true, true, true, true, false, false, true, true, false, false, false] { tmps := #[.int .i64 t, .agg x.cs.toArray, .agg i.cs.toArray, .int .i64 own, undef, .pointer (some ⟨p1, 0, none⟩), .pointer (some ⟨p2, 0, none⟩), undef, .pointer (some ⟨p3, 0, none⟩), undef, .pointer (some ⟨pb, 0, none⟩), .pointer (some ⟨pc, 0, none⟩), .agg x.cs.toArray, .pointer (some ⟨p2, 1, none⟩), .int .i64 i.a, .agg (regI x i.a).cs.toArray, .agg x.cs.toArray, .pointer (some ⟨p2, 2, none⟩), .int .i64 i.b, .agg (regI x i.b).cs.toArray, .agg x.cs.toArray, .pointer (some ⟨p2, 3, none⟩), .int .i64 i.c, undef, undef, undef, undef, undef, undef, undef, undef, undef, undef, undef, undef, undef, undef, undef, undef, undef, undef, undef, undef, undef, undef, undef, undef, undef, undef, undef, undef, undef, undef, undef, undef, undef, undef, undef, undef, undef, undef, undef, undef, undef, undef, undef, undef, undef, undef, undef, undef, undef, undef, undef, undef, undef, undef, undef, undef, undef, undef, undef, undef, undef, undef, undef, undef, undef, undef, undef, undef], defers := [] } wv := by
      intro wv pb pc sv b1v b2v b3v kkv bpb bpc hpb hpc npbpc
      refine in_G HG.out ?_
      refine wpAnyH_ready (rs := [11, 12]) (by kernel_rfl) (by simp) ?_
      refine AllReadyH.cons (o := ⟨some 23, _, _, _, _, _⟩) rfl (fun K hK => ?_) (AllReadyH.cons (o := ⟨some 9, _, _, _, _, _⟩) rfl (fun K hK => ?_) AllReadyH.nil)
      · go_simp
        refine (rget_any x i.c wv).mono ?_
        rintro e wn ⟨rfl, hb⟩
        have sn : (fun W => Kept (fun g => False) wd W) wn := Kept.next sv (kept_below (fun _ => False) hb) (fun _ h => h.elim)
        refine hK.out _ _ sn (fun hh => ?_)
        clear hh hK K
        try simp only [Act.put, List.setIfInBounds_toArray, List.set_cons_zero, List.set_cons_succ]
        exact of_G HG.out (st_3_7_11_13_14 wn pb pc sn (b1v.on hb) (b2v.on hb) (b3v.on hb) (kkv.trans (hb.mono kkv.size)) (bpb.on hb) (bpc.on hb) hpb hpc npbpc)
      · go_simp
        obtain ⟨wn, ew⟩ : ∃ zz, zz = wv.alloc (.cells #[.int .i64 0, .int .i64 0, .int .i64 0] 26) := ⟨_, rfl⟩
        have hb : Below wv.heap.size wv wn := by rw [ew]; exact (Below.refl _ _).alloc (Nat.le_refl _) _
        rw [← ew]
        have bnew : Blk wn wv.heap.size 26 #[.int .i64 0, .int .i64 0, .int .i64 0] := by rw [ew]; exact heap_alloc_new _ _
        have sn : (fun W => Kept (fun g => False) wd W) wn := Kept.next sv (kept_below (fun _ => False) hb) (fun _ h => h.elim)
        refine hK.out _ _ sn (fun hh => ?_)
        clear hh hK K
        try simp only [Act.put, List.setIfInBounds_toArray, List.set_cons_zero, List.set_cons_succ]
        exact of_G HG.out (st_3_7_12_13_14 wn wv.heap.size pb pc sn (b1v.on hb) (b2v.on hb) (b3v.on hb) (kkv.trans (hb.mono kkv.size)) bnew (bpb.on hb) (bpc.on hb) (Kept.size sv) hpb hpc (Nat.ne_of_gt bpb.lt) (Nat.ne_of_gt bpc.lt) npbpc)
    have st_3_7_12_14 : ∀ (wv : World) (pa : Nat) (pc : Nat), (fun W => Kept (fun g => False) wd W) wv → Blk wv p1 33 x.cs.toArray → Blk wv p2 49 i.cs.toArray → Blk wv p3 40 #[.int .i64 0, .int .i64 0, .int .i64 0, .int .i64 0, .int .i64 0, .int .i64 0, .int .i64 0, .int .i64 0, .int .i64 0, .int .i64 0, .int .i64 0, .int .i64 0, .int .i64 0, .int .i64 0] → Below w.heap.size w wv → Blk wv pa 26 #[.int .i64 0, .int .i64 0, .int .i64 0] → Blk wv pc 26 #[.int .i64 0, .int .i64 0, .int .i64 0] → wd.heap.size ≤ pa → wd.heap.size ≤ pc → pa ≠ pc → G 5 #[true, true, true, true, true, true, true, true, true, true, true, false, true, false, true, false, false, false] { tmps := #[.int .i64 t, .agg x.cs.toArray, .agg i.cs.toArray, .int .i64 own, undef, .pointer (some ⟨p1, 0, none⟩), .pointer (some ⟨p2, 0, none⟩), undef, .pointer (some ⟨p3, 0, none⟩), .pointer (some ⟨pa, 0, none⟩), undef, .pointer (some ⟨pc, 0, none⟩), .agg x.cs.toArray, .pointer (some ⟨p2, 1, none⟩), .int .i64 i.a, .agg (regI x i.a).cs.toArray, .agg x.cs.toArray, .pointer (some ⟨p2, 2, none⟩), .int .i64 i.b, .agg (regI x i.b).cs.toArray, .agg x.cs.toArray, .pointer (some ⟨p2, 3, none⟩), .int .i64 i.c, undef, undef, undef, undef, undef, undef, undef, undef, undef, undef, undef, undef, undef, undef, undef, undef, undef, undef, undef, undef, undef, undef, undef, undef, undef, undef, undef, undef, undef, undef, undef, undef, undef, undef, undef, undef, undef, undef, undef, undef, undef, undef, undef, undef, undef, undef, undef, undef, undef, undef, undef, undef, undef, undef, undef, undef, undef, undef, undef, undef, undef, undef, undef, undef, undef, undef, undef, undef], defers := [] } wv := by
      intro wv pa pc sv b1v b2v b3v kkv bpa bpc hpa hpc npapc
      refine in_G HG.out ?_
      refine wpAnyH_ready (rs := [11, 13]) (by kernel_rfl) (by simp) ?_
      refine AllReadyH.cons (o := ⟨some 23, _, _, _, _, _⟩) rfl (fun K hK => ?_) (AllReadyH.cons (o := ⟨some 10, _, _, _, _, _⟩) rfl (fun K hK => ?_) AllReadyH.nil)
      · go_simp
        refine (rget_any x i.c wv).mono ?_
        rintro e wn ⟨rfl, hb⟩
        have sn : (fun W => Kept (fun g => False) wd W) wn := Kept.next sv (kept_below (fun _ => False) hb) (fun _ h => h.elim)
        refine hK.out _ _ sn (fun hh => ?_)
        clear hh hK K
        try simp only [Act.put, List.setIfInBounds_toArray, List.set_cons_zero, List.set_cons_succ]
        exact of_G HG.out (st_3_7_11_12_14 wn pa pc sn (b1v.on hb) (b2v.on hb) (b3v.on hb) (kkv.trans (hb.mono kkv.size)) (bpa.on hb) (bpc.on hb) hpa hpc npapc)
      · go_simp
        obtain ⟨wn, ew⟩ : ∃ zz, zz = wv.alloc (.cells #[.int .i64 0, .int .i64 0, .int .i64 0] 26) := ⟨_, rfl⟩
        have hb : Below wv.heap.size wv wn := by rw [ew]; exact (Below.refl _ _).alloc (Nat.le_refl _) _
        rw [← ew]
        have bnew : Blk wn wv.heap.size 26 #[.int .i64 0, .int .i64 0, .int .i64 0] := by rw [ew]; exact heap_alloc_new _ _
        have sn : (fun W => Kept (fun g => False) wd W) wn := Kept.next sv (kept_below (fun _ => False) hb) (fun _ h => h.elim)
        refine hK.out _ _ sn (fun hh => ?_)
        clear hh hK K
        try simp only [Act.put, List.setIfInBounds_toArray, List.set_cons_zero, List.set_cons_succ]
        exact of_G HG.out (st_3_7_12_13_14 wn pa wv.heap.size pc sn (b1v.on hb) (b2v.on hb) (b3v.on hb) (kkv.trans (hb.mono kkv.size)) (bpa.on hb) bnew (bpc.on hb) hpa (Kept.size sv) hpc (Nat.ne_of_lt bpa.lt) npapc (Nat.ne_of_gt bpc.lt))
    have st_3_7_11_14 : ∀ (wv : World) (pc : Nat), (fun W => Kept (fun g => False) wd W) wv → Blk wv p1 33 x.cs.toArray → Blk wv p2 49 i.cs.toArray → Blk wv p3 40 #[.int .i64 0, .int .i64 0, .int .i64 0, .int .i64 0, .int .i64 0, .int .i64 0, .int .i64 0, .int .i64 0, .int .i64 0, .int .i64 0, .int .i64 0, .int .i64 0, .int .i64 0, .int .i64 0] → Below w.heap.size w wv → Blk wv pc 26 #[.int .i64 0, .int .i64 0, .int .i64 0] → wd.heap.size ≤ pc → G 5 #[true, true, true, true, true, true, true, true, true, true, true, true, false, false, true, false, false, false] { tmps := #[.int .i64 t, .agg x.cs.toArray, .agg i.cs.toArray, .int .i64 own, undef, .pointer (some ⟨p1, 0, none⟩), .pointer (some ⟨p2, 0, none⟩), undef, .pointer (some ⟨p3, 0, none⟩), undef, undef, .pointer (some ⟨pc, 0, none⟩), .agg x.cs.toArray, .pointer (some ⟨p2, 1, none⟩), .int .i64 i.a, .agg (regI x i.a).cs.toArray, .agg x.cs.toArray, .pointer (some ⟨p2, 2, none⟩), .int .i64 i.b, .agg (regI x i.b).cs.toArray, .agg x.cs.toArray, .pointer (some ⟨p2, 3, none⟩), .int .i64 i.c, .agg (regI x i.c).cs.toArray, undef, undef, undef, undef, undef, undef, undef, undef, undef, undef, undef, undef, undef, undef, undef, undef, undef, undef, undef, undef, undef, undef, undef, undef, undef, undef, undef, undef, undef, undef, undef, undef, undef, undef, undef, undef, undef, undef, undef, undef, undef, undef, undef, undef, undef, undef, undef, undef, undef, undef, undef, undef, undef, undef, undef, undef, undef, undef, undef, undef, undef, undef, undef, undef, undef, undef, undef], defers := [] } wv := by
      intro wv pc sv b1v b2v b3v kkv bpc hpc
      refine in_G HG.out ?_
      refine wpAnyH_ready (rs := [12, 13]) (by kernel_rfl) (by simp) ?_
      refine AllReadyH.cons (o := ⟨some 9, _, _, _, _, _⟩) rfl (fun K hK => ?_) (AllReadyH.cons (o := ⟨some 10, _, _, _, _, _⟩) rfl (fun K hK => ?_) AllReadyH.nil)
      · go_simp
        obtain ⟨wn, ew⟩ : ∃ zz, zz = wv.alloc (.cells #[.int .i64 0, .int .i64 0, .int .i64 0] 26) := ⟨_, rfl⟩
        have hb : Below wv.heap.size wv wn := by rw [ew]; exact (Below.refl _ _).alloc (Nat.le_refl _) _
        rw [← ew]
        have bnew : Blk wn wv.heap.size 26 #[.int .i64 0, .int .i64 0, .int .i64 0] := by rw [ew]; exact heap_alloc_new _ _
        have sn : (fun W => Kept (fun g => False) wd W) wn := Kept.next sv (kept_below (fun _ => False) hb) (fun _ h => h.elim)
        refine hK.out _ _ sn (fun hh => ?_)
        clear hh hK K
        try simp only [Act.put, List.setIfInBounds_toArray, List.set_cons_zero, List.set_cons_succ]
        exact of_G HG.out (st_3_7_11_12_14 wn wv.heap.size pc sn (b1v.on hb) (b2v.on hb) (b3v.on hb) (kkv.trans (hb.mono kkv.size)) bnew (bpc.on hb) (Kept.size sv) hpc (Nat.ne_of_gt bpc.lt))
      · go_simp
        obtain ⟨wn, ew⟩ : ∃ zz, zz = wv.alloc (.cells #[.int .i64 0, .int .i64 0, .int .i64 0] 26) := ⟨_, rfl⟩
        have hb : Below wv.heap.size wv wn := by rw [ew]; exact (Below.refl _ _).alloc (Nat.le_refl _) _
        rw [← ew]
        have bnew : Blk wn wv.heap.size 26 #[.int .i64 0, .int .i64 0, .int .i64 0] := by rw [ew]; exact heap_alloc_new _ _
        have sn : (fun W => Kept (fun g => False) wd W) wn := Kept.next sv (kept_below (fun _ => False) hb) (fun _ h => h.elim)
        refine hK.out _ _ sn (fun hh => ?_)
        clear hh hK K
        try simp only [Act.put, List.setIfInBounds_toArray, List.set_cons_zero, List.set_cons_succ]
        exact of_G HG.out (st_3_7_11_13_14 wn wv.heap.size pc sn (b1v.on hb) (b2v.on hb) (b3v.on hb) (kkv.trans (hb.mono kkv.size)) bnew (bpc.on hb) (Kept.size sv) hpc (Nat.ne_of_gt bpc.lt))
    have st_3_7_12_13 : ∀ (wv : World) (pa : Nat) (pb : Nat), (fun W => Kept (fun g => False) wd W) wv → Blk wv p1 33 x.cs.toArray → Blk wv p2 49 i.cs.toArray → Blk wv p3 40 #[.int .i64 0, .int .i64 0, .int .i64 0, .int .i64 0, .int .i64 0, .int .i64 0, .int .i64 0, .int .i64 0, .int .i64 0, .int .i64 0, .int .i64 0, .int .i64 0, .int .i64 0, .int .i64 0] → Below w.heap.size w wv → Blk wv pa 26 #[.int .i64 0, .int .i64 0, .int .i64 0] → Blk wv pb 26 #[.int .i64 0, .int .i64 0, .int .i64 0] → wd.heap.size ≤ pa → wd.heap.size ≤ pb → pa ≠ pb → G 5 #[true, true, true, true, true, true, true, true, true, true, true, false, true, true, false, false, false, false] { tmps := #[.int .i64 t, .agg x.cs.toArray, .agg i.cs.toArray, .int .i64 own, undef, .pointer (some ⟨p1, 0, none⟩), .pointer (some ⟨p2, 0, none⟩), undef, .pointer (some ⟨p3, 0, none⟩), .pointer (some ⟨pa, 0, none⟩), .pointer (some ⟨pb, 0, none⟩), undef, .agg x.cs.toArray, .pointer (some ⟨p2, 1, none⟩), .int .i64 i.a, .agg (regI x i.a).cs.toArray, .agg x.cs.toArray, .pointer (some ⟨p2, 2, none⟩), .int .i64 i.b, .agg (regI x i.b).cs.toArray, .agg x.cs.toArray, .pointer (some ⟨p2, 3, none⟩), .int .i64 i.c, undef, undef, undef, undef, undef, undef, undef, undef, undef, undef, undef, undef, undef, undef, undef, undef, undef, undef, undef, undef, undef, undef, undef, undef, undef, undef, undef, undef, undef, undef, undef, undef, undef, undef, undef, undef, undef, undef, undef, undef, undef, undef, undef, undef, undef, undef, undef, undef, undef, undef, undef, undef, undef, undef, undef, undef, undef, undef, undef, undef, undef, undef, undef, undef, undef, undef, undef, undef], defers := [] } wv := by
      intro wv pa pb sv b1v b2v b3v kkv bpa bpb hpa hpb npapb
      refine in_G HG.out ?_
      refine wpAnyH_ready (rs := [11, 14]) (by kernel_rfl) (by simp) ?_
      refine AllReadyH.cons (o := ⟨some 23, _, _, _, _, _⟩) rfl (fun K hK => ?_) (AllReadyH.cons (o := ⟨some 11, _, _, _, _, _⟩) rfl (fun K hK => ?_) AllReadyH.nil)
      · go_simp
        refine (rget_any x i.c wv).mono ?_
        rintro e wn ⟨rfl, hb⟩
        have sn : (fun W => Kept (fun g => False) wd W) wn := Kept.next sv (kept_below (fun _ => False) hb) (fun _ h => h.elim)
        refine hK.out _ _ sn (fun hh => ?_)
        clear hh hK K
        try simp only [Act.put, List.setIfInBounds_toArray, List.set_cons_zero, List.set_cons_succ]
        exact of_G HG.out (st_3_7_11_12_13 wn pa pb sn (b1v.on hb) (b2v.on hb) (b3v.on hb) (kkv.trans (hb.mono kkv.size)) (bpa.on hb) (bpb.on hb) hpa hpb npapb)
      · go_simp
        obtain ⟨wn, ew⟩ : ∃ zz, zz = wv.alloc (.cells #[.int .i64 0, .int .i64 0, .int .i64 0] 26) := ⟨_, rfl⟩
        have hb : Below wv.heap.size wv wn := by rw [ew]; exact (Below.refl _ _).alloc (Nat.le_refl _) _
        rw [← ew]
        have bnew : Blk wn wv.heap.size 26 #[.int .i64 0, .int .i64 0, .int .i64 0] := by rw [ew]; exact heap_alloc_new _ _
        have sn : (fun W => Kept (fun g => False) wd W) wn := Kept.next sv (kept_below (fun _ => False) hb) (fun _ h => h.elim)
        refine hK.out _ _ sn (fun hh => ?_)
        clear hh hK K
        try simp only [Act.put, List.setIfInBounds_toArray, List.set_cons_zero, List.set_cons_succ]
        exact of_G HG.out (st_3_7_12_13_14 wn pa pb wv.heap.size sn (b1v.on hb) (b2v.on hb) (b3v.on hb) (kkv.trans (hb.mono kkv.size)) (bpa.on hb) (bpb.on hb) bnew hpa hpb (Kept.size sv) npapb (Nat.ne_of_lt bpa.lt) (Nat.ne_of_lt bpb.lt))
    have st_3_7_11_13 : ∀ (wv : World) (pb : Nat), (fun W => Kept (fun g => False) wd W) wv → Blk wv p1 33 x.cs.toArray → Blk wv p2 49 i.cs.toArray → Blk wv p3 40 #[.int .i64 0, .int .i64 0, .int .i64 0, .int .i64 0, .int .i64 0, .int .i64 0, .int .i64 0, .int .i64 0, .int .i64 0, .int .i64 0, .int .i64 0, .int .i64 0, .int .i64 0, .int .i64 0] → Below w.heap.size w wv → Blk wv pb 26 #[.int .i64 0, .int .i64 0, .int .i64 0] → wd.heap.size ≤ pb → G 5 #[true, true, true, true, true, true, true, true, true, true, true, true, false, true, false, false, false, false] { tmps := #[.int .i64 t, .agg x.cs.toArray, .agg i.cs.toArray, .int .i64 own, undef, .pointer (some ⟨p1, 0, none⟩), .pointer (some ⟨p2, 0, none⟩), undef, .pointer (some ⟨p3, 0, none⟩), undef, .pointer (some ⟨pb, 0, none⟩), undef, .agg x.cs.toArray, .pointer (some ⟨p2, 1, none⟩), .int .i64 i.a, .agg (regI x i.a).cs.toArray, .agg x.cs.toArray, .pointer (some ⟨p2, 2, none⟩), .int .i64 i.b, .agg (regI x i.b).cs.toArray, .agg x.cs.toArray, .pointer (some ⟨p2, 3, none⟩), .int .i64 i.c, .agg (regI x i.c).cs.toArray, undef, undef, undef, undef, undef, undef, undef, undef, undef, undef, undef, undef, undef, undef, undef, undef, undef, undef, undef, undef, undef, undef, undef, undef, undef, undef, undef, undef, undef, undef, undef, undef, undef, undef, undef, undef, undef, undef, undef, undef, undef, undef, undef, undef, undef, undef, undef, undef, undef, undef, undef, undef, undef, undef, undef, undef, undef, undef, undef, undef, undef, undef, undef, undef, undef, undef, undef], defers := [] } wv := by
      intro wv pb sv b1v b2v b3v kkv bpb hpb
      refine in_G HG.out ?_
      refine wpAnyH_ready (rs := [12, 14]) (by kernel_rfl) (by simp) ?_
      refine AllReadyH.cons (o := ⟨some 9, _, _, _, _, _⟩) rfl (fun K hK => ?_) (AllReadyH.cons (o := ⟨some 11, _, _, _, _, _⟩) rfl (fun K hK => ?_) AllReadyH.nil)
      · go_simp
        obtain ⟨wn, ew⟩ : ∃ zz, zz = wv.alloc (.cells #[.int .i64 0, .int .i64 0, .int .i64 0] 26) := ⟨_, rfl⟩
        have hb : Below wv.heap.size wv wn := by rw [ew]; exact (Below.refl _ _).alloc (Nat.le_refl _) _
        rw [← ew]
        have bnew : Blk wn wv.heap.size 26 #[.int .i64 0, .int .i64 0, .int .i64 0] := by rw [ew]; exact heap_alloc_new _ _
        have sn : (fun W => Kept (fun g => False) wd W) wn := Kept.next sv (kept_below (fun _ => False) hb) (fun _ h => h.elim)
        refine hK.out _ _ sn (fun hh => ?_)
        clear hh hK K
        try simp only [Act.put, List.setIfInBounds_toArray, List.set_cons_zero, List.set_cons_succ]
        exact of_G HG.out (st_3_7_11_12_13 wn wv.heap.size pb sn (b1v.on hb) (b2v.on hb) (b3v.on hb) (kkv.trans (hb.mono kkv.size)) bnew (bpb.on hb) (Kept.size sv) hpb (Nat.ne_of_gt bpb.lt))
      · go_simp
        obtain ⟨wn, ew⟩ : ∃ zz, zz = wv.alloc (.cells #[.int .i64 0, .int .i64 0, .int .i64 0] 26) := ⟨_, rfl⟩
        have hb : Below wv.heap.size wv wn := by rw [ew]; exact (Below.refl _ _).alloc (Nat.le_refl _) _
        rw [← ew]
        have bnew : Blk wn wv.heap.size 26 #[.int .i64 0, .int .i64 0, .int .i64 0] := by rw [ew]; exact heap_alloc_new _ _
        have sn : (fun W => Kept (fun g => False) wd W) wn := Kept.next sv (kept_below (fun _ => False) hb) (fun _ h => h.elim)
        refine hK.out _ _ sn (fun hh => ?_)
        clear hh hK K
        try simp only [Act.put, List.setIfInBounds_toArray, List.set_cons_zero, List.set_cons_succ]
        exact of_G HG.out (st_3_7_11_13_14 wn pb wv.heap.size sn (b1v.on hb) (b2v.on hb) (b3v.on hb) (kkv.trans (hb.mono kkv.size)) (bpb.on hb) bnew hpb (Kept.size sv) (Nat.ne_of_lt bpb.lt))
    have st_3_7_11_12 : ∀ (wv : World) (pa : Nat), (fun W => Kept (fun g => False) wd W) wv → Blk wv p1 33 x.cs.toArray → Blk wv p2 49 i.cs.toArray → Blk wv p3 40 #[.int .i64 0, .int .i64 0, .int .i64 0, .int .i64 0, .int .i64 0, .int .i64 0, .int .i64 0, .int .i64 0, .int .i64 0, .int .i64 0, .int .i64 0, .int .i64 0, .int .i64 0, .int .i64 0] → Below w.heap.size w wv → Blk wv pa 26 #[.int .i64 0, .int .i64 0, .int .i64 0] → wd.heap.size ≤ pa → G 5 #[true, true, true, true, true, true, true, true, true, true, true, true, true, false, false, false, false, false] { tmps := #[.int .i64 t, .agg x.cs.toArray, .agg i.cs.toArray, .int .i64 own, undef, .pointer (some ⟨p1, 0, none⟩), .pointer (some ⟨p2, 0, none⟩), undef, .pointer (some ⟨p3, 0, none⟩), .pointer (some ⟨pa, 0, none⟩), undef, undef, .agg x.cs.toArray, .pointer (some ⟨p2, 1, none⟩), .int .i64 i.a, .agg (regI x i.a).cs.toArray, .agg x.cs.toArray, .pointer (some ⟨p2, 2, none⟩), .int .i64 i.b, .agg (regI x i.b).cs.toArray, .agg x.cs.toArray, .pointer (some ⟨p2, 3, none⟩), .int .i64 i.c, .agg (regI x i.c).cs.toArray, undef, undef, undef, undef, undef, undef, undef, undef, undef, undef, undef, undef, undef, undef, undef, undef, undef, undef, undef, undef, undef, undef, undef, undef, undef, undef, undef, undef, undef, undef, undef, undef, undef, undef, undef, undef, undef, undef, undef, undef, undef, undef, undef, undef, undef, undef, undef, undef, undef, undef, undef, undef, undef, undef, undef, undef, undef, undef, undef, undef, undef, undef, undef, undef, undef, undef, undef], defers := [] } wv := by
      intro wv pa sv b1v b2v b3v kkv bpa hpa
      refine in_G HG.out ?_
      refine wpAnyH_ready (rs := [13, 14]) (by kernel_rfl) (by simp) ?_
      refine AllReadyH.cons (o := ⟨some 10, _, _, _, _, _⟩) rfl (fun K hK => ?_) (AllReadyH.cons (o := ⟨some 11, _, _, _, _, _⟩) rfl (fun K hK => ?_) AllReadyH.nil)
      · go_simp
        obtain ⟨wn, ew⟩ : ∃ zz, zz = wv.alloc (.cells #[.int .i64 0, .int .i64 0, .int .i64 0] 26) := ⟨_, rfl⟩
        have hb : Below wv.heap.size wv wn := by rw [ew]; exact (Below.refl _ _).alloc (Nat.le_refl _) _
        rw [← ew]
        have bnew : Blk wn wv.heap.size 26 #[.int .i64 0, .int .i64 0, .int .i64 0] := by rw [ew]; exact heap_alloc_new _ _
        have sn : (fun W => Kept (fun g => False) wd W) wn := Kept.next sv (kept_below (fun _ => False) hb) (fun _ h => h.elim)
        refine hK.out _ _ sn (fun hh => ?_)
        clear hh hK K
        try simp only [Act.put, List.setIfInBounds_toArray, List.set_cons_zero, List.set_cons_succ]
        exact of_G HG.out (st_3_7_11_12_13 wn pa wv.heap.size sn (b1v.on hb) (b2v.on hb) (b3v.on hb) (kkv.trans (hb.mono kkv.size)) (bpa.on hb) bnew hpa (Kept.size sv) (Nat.ne_of_lt bpa.lt))
      · go_simp
        obtain ⟨wn, ew⟩ : ∃ zz, zz = wv.alloc (.cells #[.int .i64 0, .int .i64 0, .int .i64 0] 26) := ⟨_, rfl⟩
        have hb : Below wv.heap.size wv wn := by rw [ew]; exact (Below.refl _ _).alloc (Nat.le_refl _) _
        rw [← ew]
        have bnew : Blk wn wv.heap.size 26 #[.int .i64 0, .int .i64 0, .int .i64 0] := by rw [ew]; exact heap_alloc_new _ _
        have sn : (fun W => Kept (fun g => False) wd W) wn := Kept.next sv (kept_below (fun _ => False) hb) (fun _ h => h.elim)
        refine hK.out _ _ sn (fun hh => ?_)
        clear hh hK K
        try simp only [Act.put, List.setIfInBounds_toArray, List.set_cons_zero, List.set_cons_succ]
        exact of_G HG.out (st_3_7_11_12_14 wn pa wv.heap.size sn (b1v.on hb) (b2v.on hb) (b3v.on hb) (kkv.trans (hb.mono kkv.size)) (bpa.on hb) bnew hpa (Kept.size sv) (Nat.ne_of_lt bpa.lt))
    have st_12_13_14 : ∀ (wv : World) (pa : Nat) (pb : Nat) (pc : Nat), (fun W => Kept (fun g => False) wd W) wv → Blk wv p1 33 x.cs.toArray → Blk wv p2 49 i.cs.toArray → Blk wv p3 40 #[.int .i64 0, .int .i64 0, .int .i64 0, .int .i64 0, .int .i64 0, .int .i64 0, .int .i64 0, .int .i64 0, .int .i64 0, .int .i64 0, .int .i64 0, .int .i64 0, .int .i64 0, .int .i64 0] → Below w.heap.size w wv → Blk wv pa 26 #[.int .i64 0, .int .i64 0, .int .i64 0] → Blk wv pb 26 #[.int .i64 0, .int .i64 0, .int .i64 0] → Blk wv pc 26 #[.int .i64 0, .int .i64 0, .int .i64 0] → wd.heap.size ≤ pa → wd.heap.size ≤ pb → wd.heap.size ≤ pc → pa ≠ pb → pa ≠ pc → pb ≠ pc → G 6 #[true, true, true, false, true, true, true, false, true, true, true, false, true, true, true, false, false, false] { tmps := #[.int .i64 t, .agg x.cs.toArray, .agg i.cs.toArray, .int .i64 own, undef, .pointer (some ⟨p1, 0, none⟩), .pointer (some ⟨p2, 0, none⟩), undef, .pointer (some ⟨p3, 0, none⟩), .pointer (some ⟨pa, 0, none⟩), .pointer (some ⟨pb, 0, none⟩), .pointer (some ⟨pc, 0, none⟩), .agg x.cs.toArray, .pointer (some ⟨p2, 1, none⟩), .int .i64 i.a, undef, .agg x.cs.toArray, .pointer (some ⟨p2, 2, none⟩), .int .i64 i.b, undef, .agg x.cs.toArray, .pointer (some ⟨p2, 3, none⟩), .int .i64 i.c, undef, undef, undef, undef, undef, undef, undef, undef, undef, undef, undef, undef, undef, undef, undef, undef, undef, undef, undef, undef, undef, undef, undef, undef, undef, undef, undef, undef, undef, undef, undef, undef, undef, undef, undef, undef, undef, undef, undef, undef, undef, undef, undef, undef, undef, undef, undef, undef, undef, undef, undef, undef, undef, undef, undef, undef, undef, undef, undef, undef, undef, undef, undef, undef, undef, undef, undef, undef], defers := [] } wv := by
      intro wv pa pb pc sv b1v b2v b3v kkv bpa bpb bpc hpa hpb hpc npapb npapc npbpc
      refine in_G HG.out ?_
      refine wpAnyH_ready (rs := [3]) (by kernel_rfl) (by simp) ?_
      refine AllReadyH.cons (o := ⟨some 15, _, _, _, _, _⟩) rfl (fun K hK => ?_) AllReadyH.nil
      go_simp
      refine (rget_any x i.a wv).mono ?_
      rintro e wn ⟨rfl, hb⟩
      have sn : (fun W => Kept (fun g => False) wd W) wn := Kept.next sv (kept_below (fun _ => False) hb) (fun _ h => h.elim)
      refine hK.out _ _ sn (fun hh => ?_)
      clear hh hK K
      try simp only [Act.put, List.setIfInBounds_toArray, List.set_cons_zero, List.set_cons_succ]
      exact of_G HG.out (st_3_12_13_14 wn pa pb pc sn (b1v.on hb) (b2v.on hb) (b3v.on hb) (kkv.trans (hb.mono kkv.size)) (bpa.on hb) (bpb.on hb) (bpc.on hb) hpa hpb hpc npapb npapc npbpc)
    have st_3_13_14 : ∀ (wv : World) (pb : Nat) (pc : Nat), (fun W => Kept (fun g => False) wd W) wv → Blk wv p1 33 x.cs.toArray → Blk wv p2 49 i.cs.toArray → Blk wv p3 40 #[.int .i64 0, .int .i64 0, .int .i64 0, .int .i64 0, .int .i64 0, .int .i64 0, .int .i64 0, .int .i64 0, .int .i64 0, .int .i64 0, .int .i64 0, .int .i64 0, .int .i64 0, .int .i64 0] → Below w.heap.size w wv → Blk wv pb 26 #[.int .i64 0, .int .i64 0, .int .i64 0] → Blk wv pc 26 #[.int .i64 0, .int .i64 0, .int .i64 0] → wd.heap.size ≤ pb → wd.heap.size ≤ pc → pb ≠ pc → G 6 #[true, true, true, true, true, true, true, false, true, true, true, false, false, true, true, false, false, false] { tmps := #[.int .i64 t, .agg x.cs.toArray, .agg i.cs.toArray, .int .i64 own, undef, .pointer (some ⟨p1, 0, none⟩), .pointer (some ⟨p2, 0, none⟩), undef, .pointer (some ⟨p3, 0, none⟩), undef, .pointer (some ⟨pb, 0, none⟩), .pointer (some ⟨pc, 0, none⟩), .agg x.cs.toArray, .pointer (some ⟨p2, 1, none⟩), .int .i64 i.a, .agg (regI x i.a).cs.toArray, .agg x.cs.toArray, .pointer (some ⟨p2, 2, none⟩), .int .i64 i.b, undef, .agg x.cs.toArray, .pointer (some ⟨p2, 3, none⟩), .int .i64 i.c, undef, undef, undef, undef, undef, undef, undef, undef, undef, undef, undef, undef, undef, undef, undef, undef, undef, undef, undef, undef, undef, undef, undef, undef, undef, undef, undef, undef, undef, undef, undef, undef, undef, undef, undef, undef, undef, undef, undef, undef, undef, undef, undef, undef, undef, undef, undef, undef, undef, undef, undef, undef, undef, undef, undef, undef, undef, undef, undef, undef, undef, undef, undef, undef, undef, undef, undef, undef], defers := [] } wv := by
      intro wv pb pc sv b1v b2v b3v kkv bpb bpc hpb hpc npbpc
      refine in_G HG.out ?_
      refine wpAnyH_ready (rs := [7, 12]) (by kernel_rfl) (by simp) ?_
      refine AllReadyH.cons (o := ⟨some 19, _, _, _, _, _⟩) rfl (fun K hK => ?_) (AllReadyH.cons (o := ⟨some 9, _, _, _, _, _⟩) rfl (fun K hK => ?_) AllReadyH.nil)
      · go_simp
        refine (rget_any x i.b wv).mono ?_
        rintro e wn ⟨rfl, hb⟩
        have sn : (fun W => Kept (fun g => False) wd W) wn := Kept.next sv (kept_below (fun _ => False) hb) (fun _ h => h.elim)
        refine hK.out _ _ sn (fun hh => ?_)
        clear hh hK K
        try simp only [Act.put, List.setIfInBounds_toArray, List.set_cons_zero, List.set_cons_succ]
        exact of_G HG.out (st_3_7_13_14 wn pb pc sn (b1v.on hb) (b2v.on hb) (b3v.on hb) (kkv.trans (hb.mono kkv.size)) (bpb.on hb) (bpc.on hb) hpb hpc npbpc)
      · go_simp
        obtain ⟨wn, ew⟩ : ∃ zz, zz = wv.alloc (.cells #[.int .i64 0, .int .i64 0, .int .i64 0] 26) := ⟨_, rfl⟩
        have hb : Below wv.heap.size wv wn := by rw [ew]; exact (Below.refl _ _).alloc (Nat.le_refl _) _
        rw [← ew]
        have bnew : Blk wn wv.heap.size 26 #[.int .i64 0, .int .i64 0, .int .i64 0] := by rw [ew]; exact heap_alloc_new _ _
        have sn : (fun W => Kept (fun g => False) wd W) wn := Kept.next sv (kept_below (fun _ => False) hb) (fun _ h => h.elim)
        refine hK.out _ _ sn (fun hh => ?_)
        clear hh hK K
        try simp only [Act.put, List.setIfInBounds_toArray, List.set_cons_zero, List.set_cons_succ]
        exact of_G HG.out (st_3_12_13_14 wn wv.heap.size pb pc sn (b1v.on hb) (b2v.on hb) (b3v.on hb) (kkv.trans (hb.mono kkv.size)) bnew (bpb.on hb) (bpc.on hb) (Kept.size sv) hpb hpc (Nat.ne_of_gt bpb.lt) (Nat.ne_of_gt bpc.lt) npbpc)
    have st_3_12_14 : ∀ (wv : World) (pa : Nat) (pc : Nat), (fun W => Kept (fun g => False) wd W) wv → Blk wv p1 33 x.cs.toArray → Blk wv p2 49 i.cs.toArray → Blk wv p3 40 #[.int .i64 0, .int .i64 0, .int .i64 0, .int .i64 0, .int .i64 0, .int .i64 0, .int .i64 0, .int .i64 0, .int .i64 0, .int .i64 0, .int .i64 0, .int .i64 0, .int .i64 0, .int .i64 0] → Below w.heap.size w wv → Blk wv pa 26 #[.int .i64 0, .int .i64 0, .int .i64 0] → Blk wv pc 26 #[.int .i64 0, .int .i64 0, .int .i64 0] → wd.heap.size ≤ pa → wd.heap.size ≤ pc → pa ≠ pc → G 6 #[true, true, true, true, true, true, true, false, true, true, true, false, true, false, true, false, false, false] { tmps := #[.int .i64 t, .agg x.cs.toArray, .agg i.cs.toArray, .int .i64 own, undef, .pointer (some ⟨p1, 0, none⟩), .pointer (some ⟨p2, 0, none⟩), undef, .pointer (some ⟨p3, 0, none⟩), .pointer (some ⟨pa, 0, none⟩), undef, .pointer (some ⟨pc, 0, none⟩), .agg x.cs.toArray, .pointer (some ⟨p2, 1, none⟩), .int .i64 i.a, .agg (regI x i.a).cs.toArray, .agg x.cs.toArray, .pointer (some ⟨p2, 2, none⟩), .int .i64 i.b, undef, .agg x.cs.toArray, .pointer (some ⟨p2, 3, none⟩), .int .i64 i.c, undef, undef, undef, undef, undef, undef, undef, undef, undef, undef, undef, undef, undef, undef, undef, undef, undef, undef, undef, undef, undef, undef, undef, undef, undef, undef, undef, undef, undef, undef, undef, undef, undef, undef, undef, undef, undef, undef, undef, undef, undef, undef, undef, undef, undef, undef, undef, undef, undef, undef, undef, undef, undef, undef, undef, undef, undef, undef, undef, undef, undef, undef, undef, undef, undef, undef, undef, undef], defers := [] } wv := by
      intro wv pa pc sv b1v b2v b3v kkv bpa bpc hpa hpc npapc
      refine in_G HG.out ?_
      refine wpAnyH_ready (rs := [7, 13]) (by kernel_rfl) (by simp) ?_
      refine AllReadyH.cons (o := ⟨some 19, _, _, _, _, _⟩) rfl (fun K hK => ?_) (AllReadyH.cons (o := ⟨some 10, _, _, _, _, _⟩) rfl (fun K hK => ?_) AllReadyH.nil)
      · go_simp
        refine (rget_any x i.b wv).mono ?_
        rintro e wn ⟨rfl, hb⟩
        have sn : (fun W => Kept (fun g => False) wd W) wn := Kept.next sv (kept_below (fun _ => False) hb) (fun _ h => h.elim)
        refine hK.out _ _ sn (fun hh => ?_)
        clear hh hK K
        try simp only [Act.put, List.setIfInBounds_toArray, List.set_cons_zero, List.set_cons_succ]
        exact of_G HG.out (st_3_7_12_14 wn pa pc sn (b1v.on hb) (b2v.on hb) (b3v.on hb) (kkv.trans (hb.mono kkv.size)) (bpa.on hb) (bpc.on hb) hpa hpc npapc)
      · go_simp
        obtain ⟨wn, ew⟩ : ∃ zz, zz = wv.alloc (.cells #[.int .i64 0, .int .i64 0, .int .i64 0] 26) := ⟨_, rfl⟩
        have hb : Below wv.heap.size wv wn := by rw [ew]; exact (Below.refl _ _).alloc (Nat.le_refl _) _
        rw [← ew]
        have bnew : Blk wn wv.heap.size 26 #[.int .i64 0, .int .i64 0, .int .i64 0] := by rw [ew]; exact heap_alloc_new _ _
        have sn : (fun W => Kept (fun g => False) wd W) wn := Kept.next sv (kept_below (fun _ => False) hb) (fun _ h => h.elim)
        refine hK.out _ _ sn (fun hh => ?_)
        clear hh hK K
        try simp only [Act.put, List.setIfInBounds_toArray, List.set_cons_zero, List.set_cons_succ]
        exact of_G HG.out (st_3_12_13_14 wn pa wv.heap.size pc sn (b1v.on hb) (b2v.on hb) (b3v.on hb) (kkv.trans (hb.mono kkv.size)) (bpa.on hb) bnew (bpc.on hb) hpa (Kept.size sv) hpc (Nat.ne_of_lt bpa.lt) npapc (Nat.ne_of_gt bpc.lt))
    have st_3_7_14 : ∀ (wv : World) (pc : Nat), (fun W => Kept (fun g => False) wd W) wv → Blk wv p1 33 x.cs.toArray → Blk wv p2 49 i.cs.toArray → Blk wv p3 40 #[.int .i64 0, .int .i64 0, .int .i64 0, .int .i64 0, .int .i64 0, .int .i64 0, .int .i64 0, .int .i64 0, .int .i64 0, .int .i64 0, .int .i64 0, .int .i64 0, .int .i64 0, .int .i64 0] → Below w.heap.size w wv → Blk wv pc 26 #[.int .i64 0, .int .i64 0, .int .i64 0] → wd.heap.size ≤ pc → G 6 #[true, true, true, true, true, true, true, true, true, true, true, false, false, false, true, false, false, false] { tmps := #[.int .i64 t, .agg x.cs.toArray, .agg i.cs.toArray, .int .i64 own, undef, .pointer (some ⟨p1, 0, none⟩), .pointer (some ⟨p2, 0, none⟩), undef, .pointer (some ⟨p3, 0, none⟩), undef, undef, .pointer (some ⟨pc, 0, none⟩), .agg x.cs.toArray, .pointer (some ⟨p2, 1, none⟩), .int .i64 i.a, .agg (regI x i.a).cs.toArray, .agg x.cs.toArray, .pointer (some ⟨p2, 2, none⟩), .int .i64 i.b, .agg (regI x i.b).cs.toArray, .agg x.cs.toArray, .pointer (some ⟨p2, 3, none⟩), .int .i64 i.c, undef, undef, undef, undef, undef, undef, undef, undef, undef, undef, undef, undef, undef, undef, undef, undef, undef, undef, undef, undef, undef, undef, undef, undef, undef, undef, undef, undef, undef, undef, undef, undef, undef, undef, undef, undef, undef, undef, undef, undef, undef, undef, undef, undef, undef, undef, undef, undef, undef, undef, undef, undef, undef, undef, undef, undef, undef, undef, undef, undef, undef, undef, undef, undef, undef, undef, undef, undef], defers := [] } wv := by
      intro wv pc sv b1v b2v b3v kkv bpc hpc
      refine in_G HG.out ?_
      refine wpAnyH_ready (rs := [11, 12, 13]) (by kernel_rfl) (by simp) ?_
      refine AllReadyH.cons (o := ⟨some 23, _, _, _, _, _⟩) rfl (fun K hK => ?_) (AllReadyH.cons (o := ⟨some 9, _, _, _, _, _⟩) rfl (fun K hK => ?_) (AllReadyH.cons (o := ⟨some 10, _, _, _, _, _⟩) rfl (fun K hK => ?_) AllReadyH.nil))
      · go_simp
        refine (rget_any x i.c wv).mono ?_
        rintro e wn ⟨rfl, hb⟩
        have sn : (fun W => Kept (fun g => False) wd W) wn := Kept.next sv (kept_below (fun _ => False) hb) (fun _ h => h.elim)
        refine hK.out _ _ sn (fun hh => ?_)
        clear hh hK K
        try simp only [Act.put, List.setIfInBounds_toArray, List.set_cons_zero, List.set_cons_succ]
        exact of_G HG.out (st_3_7_11_14 wn pc sn (b1v.on hb) (b2v.on hb) (b3v.on hb) (kkv.trans (hb.mono kkv.size)) (bpc.on hb) hpc)
      · go_simp
        obtain ⟨wn, ew⟩ : ∃ zz, zz = wv.alloc (.cells #[.int .i64 0, .int .i64 0, .int .i64 0] 26) := ⟨_, rfl⟩
        have hb : Below wv.heap.size wv wn := by rw [ew]; exact (Below.refl _ _).alloc (Nat.le_refl _) _
        rw [← ew]
        have bnew : Blk wn wv.heap.size 26 #[.int .i64 0, .int .i64 0, .int .i64 0] := by rw [ew]; exact heap_alloc_new _ _
        have sn : (fun W => Kept (fun g => False) wd W) wn := Kept.next sv (kept_below (fun _ => False) hb) (fun _ h => h.elim)
        refine hK.out _ _ sn (fun hh => ?_)
        clear hh hK K
        try simp only [Act.put, List.setIfInBounds_toArray, List.set_cons_zero, List.set_cons_succ]
        exact of_G HG.out (st_3_7_12_14 wn wv.heap.size pc sn (b1v.on hb) (b2v.on hb) (b3v.on hb) (kkv.trans (hb.mono kkv.size)) bnew (bpc.on hb) (Kept.size sv) hpc (Nat.ne_of_gt bpc.lt))
      · go_simp
        obtain ⟨wn, ew⟩ : ∃ zz, zz = wv.alloc (.cells #[.int .i64 0, .int .i64 0, .int .i64 0] 26) := ⟨_, rfl⟩
        have hb : Below wv.heap.size wv wn := by rw [ew]; exact (Below.refl _ _).alloc (Nat.le_refl _) _
        rw [← ew]
        have bnew : Blk wn wv.heap.size 26 #[.int .i64 0, .int .i64 0, .int .i64 0] := by rw [ew]; exact heap_alloc_new _ _
        have sn : (fun W => Kept (fun g => False) wd W) wn := Kept.next sv (kept_below (fun _ => False) hb) (fun _ h => h.elim)
        refine hK.out _ _ sn (fun hh => ?_)
        clear hh hK K
        try simp only [Act.put, List.setIfInBounds_toArray, List.set_cons_zero, List.set_cons_succ]
        exact of_G HG.out (st_3_7_13_14 wn wv.heap.size pc sn (b1v.on hb) (b2v.on hb) (b3v.on hb) (kkv.trans (hb.mono kkv.size)) bnew (bpc.on hb) (Kept.size sv) hpc (Nat.ne_of_gt bpc.lt))
    have st_3_12_13 : ∀ (wv : World) (pa : Nat) (pb : Nat), (fun W => Kept (fun g => False) wd W) wv → Blk wv p1 33 x.cs.toArray → Blk wv p2 49 i.cs.toArray → Blk wv p3 40 #[.int .i64 0, .int .i64 0, .int .i64 0, .int .i64 0, .int .i64 0, .int .i64 0, .int .i64 0, .int .i64 0, .int .i64 0, .int .i64 0, .int .i64 0, .int .i64 0, .int .i64 0, .int .i64 0] → Below w.heap.size w wv → Blk wv pa 26 #[.int .i64 0, .int .i64 0, .int .i64 0] → Blk wv pb 26 #[.int .i64 0, .int .i64 0, .int .i64 0] → wd.heap.size ≤ pa → wd.heap.size ≤ pb → pa ≠ pb → G 6 #[true, true, true, true, true, true, true, false, true, true, true, false, true, true, false, false, false, false] { tmps := #[.int .i64 t, .agg x.cs.toArray, .agg i.cs.toArray, .int .i64 own, undef, .pointer (some ⟨p1, 0, none⟩), .pointer (some ⟨p2, 0, none⟩), undef, .pointer (some ⟨p3, 0, none⟩), .pointer (some ⟨pa, 0, none⟩), .pointer (some ⟨pb, 0, none⟩), undef, .agg x.cs.toArray, .pointer (some ⟨p2, 1, none⟩), .int .i64 i.a, .agg (regI x i.a).cs.toArray, .agg x.cs.toArray, .pointer (some ⟨p2, 2, none⟩), .int .i64 i.b, undef, .agg x.cs.toArray, .pointer (some ⟨p2, 3, none⟩), .int .i64 i.c, undef, undef, undef, undef, undef, undef, undef, undef, undef, undef, undef, undef, undef, undef, undef, undef, undef, undef, undef, undef, undef, undef, undef, undef, undef, undef, undef, undef, undef, undef, undef, undef, undef, undef, undef, undef, undef, undef, undef, undef, undef, undef, undef, undef, undef, undef, undef, undef, undef, undef, undef, undef, undef, undef, undef, undef, undef, undef, undef, undef, undef, undef, undef, undef, undef, undef, undef, undef], defers := [] } wv := by
      intro wv pa pb sv b1v b2v b3v kkv bpa bpb hpa hpb npapb
      refine in_G HG.out ?_
      refine wpAnyH_ready (rs := [7, 14]) (by kernel_rfl) (by simp) ?_
      refine AllReadyH.cons (o := ⟨some 19, _, _, _, _, _⟩) rfl (fun K hK => ?_) (AllReadyH.cons (o := ⟨some 11, _, _, _, _, _⟩) rfl (fun K hK => ?_) AllReadyH.nil)
      · go_simp
        refine (rget_any x i.b wv).mono ?_
        rintro e wn ⟨rfl, hb⟩
        have sn : (fun W => Kept (fun g => False) wd W) wn := Kept.next sv (kept_below (fun _ => False) hb) (fun _ h => h.elim)
        refine hK.out _ _ sn (fun hh => ?_)
        clear hh hK K
        try simp only [Act.put, List.setIfInBounds_toArray, List.set_cons_zero, List.set_cons_succ]
        exact of_G HG.out (st_3_7_12_13 wn pa pb sn (b1v.on hb) (b2v.on hb) (b3v.on hb) (kkv.trans (hb.mono kkv.size)) (bpa.on hb) (bpb.on hb) hpa hpb npapb)
      · go_simp
        obtain ⟨wn, ew⟩ : ∃ zz, zz = wv.alloc (.cells #[.int .i64 0, .int .i64 0, .int .i64 0] 26) := ⟨_, rfl⟩
        have hb : Below wv.heap.size wv wn := by rw [ew]; exact (Below.refl _ _).alloc (Nat.le_refl _) _
        rw [← ew]
        have bnew : Blk wn wv.heap.size 26 #[.int .i64 0, .int .i64 0, .int .i64 0] := by rw [ew]; exact heap_alloc_new _ _
        have sn : (fun W => Kept (fun g => False) wd W) wn := Kept.next sv (kept_below (fun _ => False) hb) (fun _ h => h.elim)
        refine hK.out _ _ sn (fun hh => ?_)
        clear hh hK K
        try simp only [Act.put, List.setIfInBounds_toArray, List.set_cons_zero, List.set_cons_succ]
        exact of_G HG.out (st_3_12_13_14 wn pa pb wv.heap.size sn (b1v.on hb) (b2v.on hb) (b3v.on hb) (kkv.trans (hb.mono kkv.size)) (bpa.on hb) (bpb.on hb) bnew hpa hpb (Kept.size sv) npapb (Nat.ne_of_lt bpa.lt) (Nat.ne_of_lt bpb.lt))
    have st_3_7_13 : ∀ (wv : World) (pb : Nat), (fun W => Kept (fun g => False) wd W) wv → Blk wv p1 33 x.cs.toArray → Blk wv p2 49 i.cs.toArray → Blk wv p3 40 #[.int .i64 0, .int .i64 0, .int .i64 0, .int .i64 0, .int .i64 0, .int .i64 0, .int .i64 0, .int .i64 0, .int .i64 0, .int .i64 0, .int .i64 0, .int .i64 0, .int .i64 0, .int .i64 0] → Below w.heap.size w wv → Blk wv pb 26 #[.int .i64 0, .int .i64 0, .int .i64 0] → wd.heap.size ≤ pb → G 6 #[true, true, true, true, true, true, true, true, true, true, true, false, false, true, false, false, false, false] { tmps := #[.int .i64 t, .agg x.cs.toArray, .agg i.cs.toArray, .int .i64 own, undef, .pointer (some ⟨p1, 0, none⟩), .pointer (some ⟨p2, 0, none⟩), undef, .pointer (some ⟨p3, 0, none⟩), undef, .pointer (some ⟨pb, 0, none⟩), undef, .agg x.cs.toArray, .pointer (some ⟨p2, 1, none⟩), .int .i64 i.a, .agg (regI x i.a).cs.toArray, .agg x.cs.toArray, .pointer (some ⟨p2, 2, none⟩), .int .i64 i.b, .agg (regI x i.b).cs.toArray, .agg x.cs.toArray, .pointer (some ⟨p2, 3, none⟩), .int .i64 i.c, undef, undef, undef, undef, undef, undef, undef, undef, undef, undef, undef, undef, undef, undef, undef, undef, undef, undef, undef, undef, undef, undef, undef, undef, undef, undef, undef, undef, undef, undef, undef, undef, undef, undef, undef, undef, undef, undef, undef, undef, undef, undef, undef, undef, undef, undef, undef, undef, undef, undef, undef, undef, undef, undef, undef, undef, undef, undef, undef, undef, undef, undef, undef, undef, undef, undef, undef, undef], defers := [] } wv := by
      intro wv pb sv b1v b2v b3v kkv bpb hpb
      refine in_G HG.out ?_
      refine wpAnyH_ready (rs := [11, 12, 14]) (by kernel_rfl) (by simp) ?_
      refine AllReadyH.cons (o := ⟨some 23, _, _, _, _, _⟩) rfl (fun K hK => ?_) (AllReadyH.cons (o := ⟨some 9, _, _, _, _, _⟩) rfl (fun K hK => ?_) (AllReadyH.cons (o := ⟨some 11, _, _, _, _, _⟩) rfl (fun K hK => ?_) AllReadyH.nil))
      · go_simp
        refine (rget_any x i.c wv).mono ?_
        rintro e wn ⟨rfl, hb⟩
        have sn : (fun W => Kept (fun g => False) wd W) wn := Kept.next sv (kept_below (fun _ => False) hb) (fun _ h => h.elim)
        refine hK.out _ _ sn (fun hh => ?_)
        clear hh hK K
        try simp only [Act.put, List.setIfInBounds_toArray, List.set_cons_zero, List.set_cons_succ]
        exact of_G HG.out (st_3_7_11_13 wn pb sn (b1v.on hb) (b2v.on hb) (b3v.on hb) (kkv.trans (hb.mono kkv.size)) (bpb.on hb) hpb)
      · go_simp
        obtain ⟨wn, ew⟩ : ∃ zz, zz = wv.alloc (.cells #[.int .i64 0, .int .i64 0, .int .i64 0] 26) := ⟨_, rfl⟩
        have hb : Below wv.heap.size wv wn := by rw [ew]; exact (Below.refl _ _).alloc (Nat.le_refl _) _
        rw [← ew]
        have bnew : Blk wn wv.heap.size 26 #[.int .i64 0, .int .i64 0, .int .i64 0] := by rw [ew]; exact heap_alloc_new _ _
        have sn : (fun W => Kept (fun g => False) wd W) wn := Kept.next sv (kept_below (fun _ => False) hb) (fun _ h => h.elim)
        refine hK.out _ _ sn (fun hh => ?_)
        clear hh hK K
        try simp only [Act.put, List.setIfInBounds_toArray, List.set_cons_zero, List.set_cons_succ]
        exact of_G HG.out (st_3_7_12_13 wn wv.heap.size pb sn (b1v.on hb) (b2v.on hb) (b3v.on hb) (kkv.trans (hb.mono kkv.size)) bnew (bpb.on hb) (Kept.size sv) hpb (Nat.ne_of_gt bpb.lt))
      · go_simp
        obtain ⟨wn, ew⟩ : ∃ zz, zz = wv.alloc (.cells #[.int .i64 0, .int .i64 0, .int .i64 0] 26) := ⟨_, rfl⟩
        have hb : Below wv.heap.size wv wn := by rw [ew]; exact (Below.refl _ _).alloc (Nat.le_refl _) _
        rw [← ew]
        have bnew : Blk wn wv.heap.size 26 #[.int .i64 0, .int .i64 0, .int .i64 0] := by rw [ew]; exact heap_alloc_new _ _
        have sn : (fun W => Kept (fun g => False) wd W) wn := Kept.next sv (kept_below (fun _ => False) hb) (fun _ h => h.elim)
        refine hK.out _ _ sn (fun hh => ?_)
        clear hh hK K
        try simp only [Act.put, List.setIfInBounds_toArray, List.set_cons_zero, List.set_cons_succ]
        exact of_G HG.out (st_3_7_13_14 wn pb wv.heap.size sn (b1v.on hb) (b2v.on hb) (b3v.on hb) (kkv.trans (hb.mono kkv.size)) (bpb.on hb) bnew hpb (Kept.size sv) (Nat.ne_of_lt bpb.lt))
    have st_3_7_12 : ∀ (wv : World) (pa : Nat), (fun W => Kept (fun g => False) wd W) wv → Blk wv p1 33 x.cs.toArray → Blk wv p2 49 i.cs.toArray → Blk wv p3 40 #[.int .i64 0, .int .i64 0, .int .i64 0, .int .i64 0, .int .i64 0, .int .i64 0, .int .i64 0, .int .i64 0, .int .i64 0, .int .i64 0, .int .i64 0, .int .i64 0, .int .i64 0, .int .i64 0] → Below w.heap.size w wv → Blk wv pa 26 #[.int .i64 0, .int .i64 0, .int .i64 0] → wd.heap.size ≤ pa → G 6 #[true, true, true, true, true, true, true, true, true, true, true, false, true, false, false, false, false, false] { tmps := #[.int .i64 t, .agg x.cs.toArray, .agg i.cs.toArray, .int .i64 own, undef, .pointer (some ⟨p1, 0, none⟩), .pointer (some ⟨p2, 0, none⟩), undef, .pointer (some ⟨p3, 0, none⟩), .pointer (some ⟨pa, 0, none⟩), undef, undef, .agg x.cs.toArray, .pointer (some ⟨p2, 1, none⟩), .int .i64 i.a, .agg (regI x i.a).cs.toArray, .agg x.cs.toArray, .pointer (some ⟨p2, 2, none⟩), .int .i64 i.b, .agg (regI x i.b).cs.toArray, .agg x.cs.toArray, .pointer (some ⟨p2, 3, none⟩), .int .i64 i.c, undef, undef, undef, undef, undef, undef, undef, undef, undef, undef, undef, undef, undef, undef, undef, undef, undef, undef, undef, undef, undef, undef, undef, undef, undef, undef, undef, undef, undef, undef, undef, undef, undef, undef, undef, undef, undef, undef, undef, undef, undef, undef, undef, undef, undef, undef, undef, undef, undef, undef, undef, undef, undef, undef, undef, undef, undef, undef, undef, undef, undef, undef, undef, undef, undef, undef, undef, undef], defers := [] } wv := by
      intro wv pa sv b1v b2v b3v kkv bpa hpa
      refine in_G HG.out ?_
      refine wpAnyH_ready (rs := [11, 13, 14]) (by kernel_rfl) (by simp) ?_
      refine AllReadyH.cons (o := ⟨some 23, _, _, _, _, _⟩) rfl (fun K hK => ?_) (AllReadyH.cons (o := ⟨some 10, _, _, _, _, _⟩) rfl (fun K hK => ?_) (AllReadyH.cons (o := ⟨some 11, _, _, _, _, _⟩) rfl (fun K hK => ?_) AllReadyH.nil))
      · go_simp
        refine (rget_any x i.c wv).mono ?_
        rintro e wn ⟨rfl, hb⟩
        have sn : (fun W => Kept (fun g => False) wd W) wn := Kept.next sv (kept_below (fun _ => False) hb) (fun _ h => h.elim)
        refine hK.out _ _ sn (fun hh => ?_)
        clear hh hK K
        try simp only [Act.put, List.setIfInBounds_toArray, List.set_cons_zero, List.set_cons_succ]
        exact of_G HG.out (st_3_7_11_12 wn pa sn (b1v.on hb) (b2v.on hb) (b3v.on hb) (kkv.trans (hb.mono kkv.size)) (bpa.on hb) hpa)
      · go_simp
        obtain ⟨wn, ew⟩ : ∃ zz, zz = wv.alloc (.cells #[.int .i64 0, .int .i64 0, .int .i64 0] 26) := ⟨_, rfl⟩
        have hb : Below wv.heap.size wv wn := by rw [ew]; exact (Below.refl _ _).alloc (Nat.le_refl _) _
        rw [← ew]
        have bnew : Blk wn wv.heap.size 26 #[.int .i64 0, .int .i64 0, .int .i64 0] := by rw [ew]; exact heap_alloc_new _ _
        have sn : (fun W => Kept (fun g => False) wd W) wn := Kept.next sv (kept_below (fun _ => False) hb) (fun _ h => h.elim)
        refine hK.out _ _ sn (fun hh => ?_)
        clear hh hK K
        try simp only [Act.put, List.setIfInBounds_toArray, List.set_cons_zero, List.set_cons_succ]
        exact of_G HG.out (st_3_7_12_13 wn pa wv.heap.size sn (b1v.on hb) (b2v.on hb) (b3v.on hb) (kkv.trans (hb.mono kkv.size)) (bpa.on hb) bnew hpa (Kept.size sv) (Nat.ne_of_lt bpa.lt))
      · go_simp
        obtain ⟨wn, ew⟩ : ∃ zz, zz = wv.alloc (.cells #[.int .i64 0, .int .i64 0, .int .i64 0] 26) := ⟨_, rfl⟩
        have hb : Below wv.heap.size wv wn := by rw [ew]; exact (Below.refl _ _).alloc (Nat.le_refl _) _
        rw [← ew]
        have bnew : Blk wn wv.heap.size 26 #[.int .i64 0, .int .i64 0, .int .i64 0] := by rw [ew]; exact heap_alloc_new _ _
        have sn : (fun W => Kept (fun g => False) wd W) wn := Kept.next sv (kept_below (fun _ => False) hb) (fun _ h => h.elim)
        refine hK.out _ _ sn (fun hh => ?_)
        clear hh hK K
        try simp only [Act.put, List.setIfInBounds_toArray, List.set_cons_zero, List.set_cons_succ]
        exact of_G HG.out (st_3_7_12_14 wn pa wv.heap.size sn (b1v.on hb) (b2v.on hb) (b3v.on hb) (kkv.trans (hb.mono kkv.size)) (bpa.on hb) bnew hpa (Kept.size sv) (Nat.ne_of_lt bpa.lt))
    have st_3_7_11 : ∀ (wv : World), (fun W => Kept (fun g => False) wd W) wv → Blk wv p1 33 x.cs.toArray → Blk wv p2 49 i.cs.toArray → Blk wv p3 40 #[.int .i64 0, .int .i64 0, .int .i64 0, .int .i64 0, .int .i64 0, .int .i64 0, .int .i64 0, .int .i64 0, .int .i64 0, .int .i64 0, .int .i64 0, .int .i64 0, .int .i64 0, .int .i64 0] → Below w.heap.size w wv → G 6 #[true, true, true, true, true, true, true, true, true, true, true, true, false, false, false, false, false, false] { tmps := #[.int .i64 t, .agg x.cs.toArray, .agg i.cs.toArray, .int .i64 own, undef, .pointer (some ⟨p1, 0, none⟩), .pointer (some ⟨p2, 0, none⟩), undef, .pointer (some ⟨p3, 0, none⟩), undef, undef, undef, .agg x.cs.toArray, .pointer (some ⟨p2, 1, none⟩), .int .i64 i.a, .agg (regI x i.a).cs.toArray, .agg x.cs.toArray, .pointer (some ⟨p2, 2, none⟩), .int .i64 i.b, .agg (regI x i.b).cs.toArray, .agg x.cs.toArray, .pointer (some ⟨p2, 3, none⟩), .int .i64 i.c, .agg (regI x i.c).cs.toArray, undef, undef, undef, undef, undef, undef, undef, undef, undef, undef, undef, undef, undef, undef, undef, undef, undef, undef, undef, undef, undef, undef, undef, undef, undef, undef, undef, undef, undef, undef, undef, undef, undef, undef, undef, undef, undef, undef, undef, undef, undef, undef, undef, undef, undef, undef, undef, undef, undef, undef, undef, undef, undef, undef, undef, undef, undef, undef, undef, undef, undef, undef, undef, undef, undef, undef, undef], defers := [] } wv := by
      intro wv sv b1v b2v b3v kkv
      refine in_G HG.out ?_
      refine wpAnyH_ready (rs := [12, 13, 14]) (by kernel_rfl) (by simp) ?_
      refine AllReadyH.cons (o := ⟨some 9, _, _, _, _, _⟩) rfl (fun K hK => ?_) (AllReadyH.cons (o := ⟨some 10, _, _, _, _, _⟩) rfl (fun K hK => ?_) (AllReadyH.cons (o := ⟨some 11, _, _, _, _, _⟩) rfl (fun K hK => ?_) AllReadyH.nil))
      · go_simp
        obtain ⟨wn, ew⟩ : ∃ zz, zz = wv.alloc (.cells #[.int .i64 0, .int .i64 0, .int .i64 0] 26) := ⟨_, rfl⟩
        have hb : Below wv.heap.size wv wn := by rw [ew]; exact (Below.refl _ _).alloc (Nat.le_refl _) _
        rw [← ew]
        have bnew : Blk wn wv.heap.size 26 #[.int .i64 0, .int .i64 0, .int .i64 0] := by rw [ew]; exact heap_alloc_new _ _
        have sn : (fun W => Kept (fun g => False) wd W) wn := Kept.next sv (kept_below (fun _ => False) hb) (fun _ h => h.elim)
        refine hK.out _ _ sn (fun hh => ?_)
        clear hh hK K
        try simp only [Act.put, List.setIfInBounds_toArray, List.set_cons_zero, List.set_cons_succ]
        exact of_G HG.out (st_3_7_11_12 wn wv.heap.size sn (b1v.on hb) (b2v.on hb) (b3v.on hb) (kkv.trans (hb.mono kkv.size)) bnew (Kept.size sv))
      · go_simp
        obtain ⟨wn, ew⟩ : ∃ zz, zz = wv.alloc (.cells #[.int .i64 0, .int .i64 0, .int .i64 0] 26) := ⟨_, rfl⟩
        have hb : Below wv.heap.size wv wn := by rw [ew]; exact (Below.refl _ _).alloc (Nat.le_refl _) _
        rw [← ew]
        have bnew : Blk wn wv.heap.size 26 #[.int .i64 0, .int .i64 0, .int .i64 0] := by rw [ew]; exact heap_alloc_new _ _
        have sn : (fun W => Kept (fun g => False) wd W) wn := Kept.next sv (kept_below (fun _ => False) hb) (fun _ h => h.elim)
        refine hK.out _ _ sn (fun hh => ?_)
        clear hh hK K
        try simp only [Act.put, List.setIfInBounds_toArray, List.set_cons_zero, List.set_cons_succ]
        exact of_G HG.out (st_3_7_11_13 wn wv.heap.size sn (b1v.on hb) (b2v.on hb) (b3v.on hb) (kkv.trans (hb.mono kkv.size)) bnew (Kept.size sv))
      · go_simp
        obtain ⟨wn, ew⟩ : ∃ zz, zz = wv.alloc (.cells #[.int .i64 0, .int .i64 0, .int .i64 0] 26) := ⟨_, rfl⟩
        have hb : Below wv.heap.size wv wn := by rw [ew]; exact (Below.refl _ _).alloc (Nat.le_refl _) _
        rw [← ew]
        have bnew : Blk wn wv.heap.size 26 #[.int .i64 0, .int .i64 0, .int .i64 0] := by rw [ew]; exact heap_alloc_new _ _
        have sn : (fun W => Kept (fun g => False) wd W) wn := Kept.next sv (kept_below (fun _ => False) hb) (fun _ h => h.elim)
        refine hK.out _ _ sn (fun hh => ?_)
        clear hh hK K
        try simp only [Act.put, List.setIfInBounds_toArray, List.set_cons_zero, List.set_cons_succ]
        exact of_G HG.out (st_3_7_11_14 wn wv.heap.size sn (b1v.on hb) (b2v.on hb) (b3v.on hb) (kkv.trans (hb.mono kkv.size)) bnew (Kept.size sv))
    have st_13_14 : ∀ (wv : World) (pb : Nat) (pc : Nat), (fun W => Kept (fun g => False) wd W) wv → Blk wv p1 33 x.cs.toArray → Blk wv p2 49 i.cs.toArray → Blk wv p3 40 #[.int .i64 0, .int .i64 0, .int .i64 0, .int .i64 0, .int .i64 0, .int .i64 0, .int .i64 0, .int .i64 0, .int .i64 0, .int .i64 0, .int .i64 0, .int .i64 0, .int .i64 0, .int .i64 0] → Below w.heap.size w wv → Blk wv pb 26 #[.int .i64 0, .int .i64 0, .int .i64 0] → Blk wv pc 26 #[.int .i64 0, .int .i64 0, .int .i64 0] → wd.heap.size ≤ pb → wd.heap.size ≤ pc → pb ≠ pc → G 7 #[true, true, true, false, true, true, true, false, true, true, true, false, false, true, true, false, false, false] { tmps := #[.int .i64 t, .agg x.cs.toArray, .agg i.cs.toArray, .int .i64 own, undef, .pointer (some ⟨p1, 0, none⟩), .pointer (some ⟨p2, 0, none⟩), undef, .pointer (some ⟨p3, 0, none⟩), undef, .pointer (some ⟨pb, 0, none⟩), .pointer (some ⟨pc, 0, none⟩), .agg x.cs.toArray, .pointer (some ⟨p2, 1, none⟩), .int .i64 i.a, undef, .agg x.cs.toArray, .pointer (some ⟨p2, 2, none⟩), .int .i64 i.b, undef, .agg x.cs.toArray, .pointer (some ⟨p2, 3, none⟩), .int .i64 i.c, undef, undef, undef, undef, undef, undef, undef, undef, undef, undef, undef, undef, undef, undef, undef, undef, undef, undef, undef, undef, undef, undef, undef, undef, undef, undef, undef, undef, undef, undef, undef, undef, undef, undef, undef, undef, undef, undef, undef, undef, undef, undef, undef, undef, undef, undef, undef, undef, undef, undef, undef, undef, undef, undef, undef, undef, undef, undef, undef, undef, undef, undef, undef, undef, undef, undef, undef, undef], defers := [] } wv := by
      intro wv pb pc sv b1v b2v b3v kkv bpb bpc hpb hpc npbpc
      refine in_G HG.out ?_
      refine wpAnyH_ready (rs := [3, 12]) (by kernel_rfl) (by simp) ?_
      refine AllReadyH.cons (o := ⟨some 15, _, _, _, _, _⟩) rfl (fun K hK => ?_) (AllReadyH.cons (o := ⟨some 9, _, _, _, _, _⟩) rfl (fun K hK => ?_) AllReadyH.nil)
      · go_simp
        refine (rget_any x i.a wv).mono ?_
        rintro e wn ⟨rfl, hb⟩
        have sn : (fun W => Kept (fun g => False) wd W) wn := Kept.next sv (kept_below (fun _ => False) hb) (fun _ h => h.elim)
        refine hK.out _ _ sn (fun hh => ?_)
        clear hh hK K
        try simp only [Act.put, List.setIfInBounds_toArray, List.set_cons_zero, List.set_cons_succ]
        exact of_G HG.out (st_3_13_14 wn pb pc sn (b1v.on hb) (b2v.on hb) (b3v.on hb) (kkv.trans (hb.mono kkv.size)) (bpb.on hb) (bpc.on hb) hpb hpc npbpc)
      · go_simp
        obtain ⟨wn, ew⟩ : ∃ zz, zz = wv.alloc (.cells #[.int .i64 0, .int .i64 0, .int .i64 0] 26) := ⟨_, rfl⟩
        have hb : Below wv.heap.size wv wn := by rw [ew]; exact (Below.refl _ _).alloc (Nat.le_refl _) _
        rw [← ew]
        have bnew : Blk wn wv.heap.size 26 #[.int .i64 0, .int .i64 0, .int .i64 0] := by rw [ew]; exact heap_alloc_new _ _
        have sn : (fun W => Kept (fun g => False) wd W) wn := Kept.next sv (kept_below (fun _ => False) hb) (fun _ h => h.elim)
        refine hK.out _ _ sn (fun hh => ?_)
        clear hh hK K
        try simp only [Act.put, List.setIfInBounds_toArray, List.set_cons_zero, List.set_cons_succ]
        exact of_G HG.out (st_12_13_14 wn wv.heap.size pb pc sn (b1v.on hb) (b2v.on hb) (b3v.on hb) (kkv.trans (hb.mono kkv.size)) bnew (bpb.on hb) (bpc.on hb) (Kept.size sv) hpb hpc (Nat.ne_of_gt bpb.lt) (Nat.ne_of_gt bpc.lt) npbpc)
    have st_12_14 : ∀ (wv : World) (pa : Nat) (pc : Nat), (fun W => Kept (fun g => False) wd W) wv → Blk wv p1 33 x.cs.toArray → Blk wv p2 49 i.cs.toArray → Blk wv p3 40 #[.int .i64 0, .int .i64 0, .int .i64 0, .int .i64 0, .int .i64 0, .int .i64 0, .int .i64 0, .int .i64 0, .int .i64 0, .int .i64 0, .int .i64 0, .int .i64 0, .int .i64 0, .int .i64 0] → Below w.heap.size w wv → Blk wv pa 26 #[.int .i64 0, .int .i64 0, .int .i64 0] → Blk wv pc 26 #[.int .i64 0, .int .i64 0, .int .i64 0] → wd.heap.size ≤ pa → wd.heap.size ≤ pc → pa ≠ pc → G 7 #[true, true, true, false, true, true, true, false, true, true, true, false, true, false, true, false, false, false] { tmps := #[.int .i64 t, .agg x.cs.toArray, .agg i.cs.toArray, .int .i64 own, undef, .pointer (some ⟨p1, 0, none⟩), .pointer (some ⟨p2, 0, none⟩), undef, .pointer (some ⟨p3, 0, none⟩), .pointer (some ⟨pa, 0, none⟩), undef, .pointer (some ⟨pc, 0, none⟩), .agg x.cs.toArray, .pointer (some ⟨p2, 1, none⟩), .int .i64 i.a, undef, .agg x.cs.toArray, .pointer (some ⟨p2, 2, none⟩), .int .i64 i.b, undef, .agg x.cs.toArray, .pointer (some ⟨p2, 3, none⟩), .int .i64 i.c, undef, undef, undef, undef, undef, undef, undef, undef, undef, undef, undef, undef, undef, undef, undef, undef, undef, undef, undef, undef, undef, undef, undef, undef, undef, undef, undef, undef, undef, undef, undef, undef, undef, undef, undef, undef, undef, undef, undef, undef, undef, undef, undef, undef, undef, undef, undef, undef, undef, undef, undef, undef, undef, undef, undef, undef, undef, undef, undef, undef, undef, undef, undef, undef, undef, undef, undef, undef], defers := [] } wv := by
      intro wv pa pc sv b1v b2v b3v kkv bpa bpc hpa hpc npapc
      refine in_G HG.out ?_
      refine wpAnyH_ready (rs := [3, 13]) (by kernel_rfl) (by simp) ?_
      refine AllReadyH.cons (o := ⟨some 15, _, _, _, _, _⟩) rfl (fun K hK => ?_) (AllReadyH.cons (o := ⟨some 10, _, _, _, _, _⟩) rfl (fun K hK => ?_) AllReadyH.nil)
      · go_simp
        refine (rget_any x i.a wv).mono ?_
        rintro e wn ⟨rfl, hb⟩
        have sn : (fun W => Kept (fun g => False) wd W) wn := Kept.next sv (kept_below (fun _ => False) hb) (fun _ h => h.elim)
        refine hK.out _ _ sn (fun hh => ?_)
        clear hh hK K
        try simp only [Act.put, List.setIfInBounds_toArray, List.set_cons_zero, List.set_cons_succ]
        exact of_G HG.out (st_3_12_14 wn pa pc sn (b1v.on hb) (b2v.on hb) (b3v.on hb) (kkv.trans (hb.mono kkv.size)) (bpa.on hb) (bpc.on hb) hpa hpc npapc)
      · go_simp
        obtain ⟨wn, ew⟩ : ∃ zz, zz = wv.alloc (.cells #[.int .i64 0, .int .i64 0, .int .i64 0] 26) := ⟨_, rfl⟩
        have hb : Below wv.heap.size wv wn := by rw [ew]; exact (Below.refl _ _).alloc (Nat.le_refl _) _
        rw [← ew]
        have bnew : Blk wn wv.heap.size 26 #[.int .i64 0, .int .i64 0, .int .i64 0] := by rw [ew]; exact heap_alloc_new _ _
        have sn : (fun W => Kept (fun g => False) wd W) wn := Kept.next sv (kept_below (fun _ => False) hb) (fun _ h => h.elim)
        refine hK.out _ _ sn (fun hh => ?_)
        clear hh hK K
        try simp only [Act.put, List.setIfInBounds_toArray, List.set_cons_zero, List.set_cons_succ]
        exact of_G HG.out (st_12_13_14 wn pa wv.heap.size pc sn (b1v.on hb) (b2v.on hb) (b3v.on hb) (kkv.trans (hb.mono kkv.size)) (bpa.on hb) bnew (bpc.on hb) hpa (Kept.size sv) hpc (Nat.ne_of_lt bpa.lt) npapc (Nat.ne_of_gt bpc.lt))
    have st_3_14 : ∀ (wv : World) (pc : Nat), (fun W => Kept (fun g => False) wd W) wv → Blk wv p1 33 x.cs.toArray → Blk wv p2 49 i.cs.toArray → Blk wv p3 40 #[.int .i64 0, .int .i64 0, .int .i64 0, .int .i64 0, .int .i64 0, .int .i64 0, .int .i64 0, .int .i64 0, .int .i64 0, .int .i64 0, .int .i64 0, .int .i64 0, .int .i64 0, .int .i64 0] → Below w.heap.size w wv → Blk wv pc 26 #[.int .i64 0, .int .i64 0, .int .i64 0] → wd.heap.size ≤ pc → G 7 #[true, true, true, true, true, true, true, false, true, true, true, false, false, false, true, false, false, false] { tmps := #[.int .i64 t, .agg x.cs.toArray, .agg i.cs.toArray, .int .i64 own, undef, .pointer (some ⟨p1, 0, none⟩), .pointer (some ⟨p2, 0, none⟩), undef, .pointer (some ⟨p3, 0, none⟩), undef, undef, .pointer (some ⟨pc, 0, none⟩), .agg x.cs.toArray, .pointer (some ⟨p2, 1, none⟩), .int .i64 i.a, .agg (regI x i.a).cs.toArray, .agg x.cs.toArray, .pointer (some ⟨p2, 2, none⟩), .int .i64 i.b, undef, .agg x.cs.toArray, .pointer (some ⟨p2, 3, none⟩), .int .i64 i.c, undef, undef, undef, undef, undef, undef, undef, undef, undef, undef, undef, undef, undef, undef, undef, undef, undef, undef, undef, undef, undef, undef, undef, undef, undef, undef, undef, undef, undef, undef, undef, undef, undef, undef, undef, undef, undef, undef, undef, undef, undef, undef, undef, undef, undef, undef, undef, undef, undef, undef, undef, undef, undef, undef, undef, undef, undef, undef, undef, undef, undef, undef, undef, undef, undef, undef, undef, undef], defers := [] } wv := by
      intro wv pc sv b1v b2v b3v kkv bpc hpc
      refine in_G HG.out ?_
      refine wpAnyH_ready (rs := [7, 12, 13]) (by kernel_rfl) (by simp) ?_
      refine AllReadyH.cons (o := ⟨some 19, _, _, _, _, _⟩) rfl (fun K hK => ?_) (AllReadyH.cons (o := ⟨some 9, _, _, _, _, _⟩) rfl (fun K hK => ?_) (AllReadyH.cons (o := ⟨some 10, _, _, _, _, _⟩) rfl (fun K hK => ?_) AllReadyH.nil))
      · go_simp
        refine (rget_any x i.b wv).mono ?_
        rintro e wn ⟨rfl, hb⟩
        have sn : (fun W => Kept (fun g => False) wd W) wn := Kept.next sv (kept_below (fun _ => False) hb) (fun _ h => h.elim)
        refine hK.out _ _ sn (fun hh => ?_)
        clear hh hK K
        try simp only [Act.put, List.setIfInBounds_toArray, List.set_cons_zero, List.set_cons_succ]
        exact of_G HG.out (st_3_7_14 wn pc sn (b1v.on hb) (b2v.on hb) (b3v.on hb) (kkv.trans (hb.mono kkv.size)) (bpc.on hb) hpc)
      · go_simp
        obtain ⟨wn, ew⟩ : ∃ zz, zz = wv.alloc (.cells #[.int .i64 0, .int .i64 0, .int .i64 0] 26) := ⟨_, rfl⟩
        have hb : Below wv.heap.size wv wn := by rw [ew]; exact (Below.refl _ _).alloc (Nat.le_refl _) _
        rw [← ew]
        have bnew : Blk wn wv.heap.size 26 #[.int .i64 0, .int .i64 0, .int .i64 0] := by rw [ew]; exact heap_alloc_new _ _
        have sn : (fun W => Kept (fun g => False) wd W) wn := Kept.next sv (kept_below (fun _ => False) hb) (fun _ h => h.elim)
        refine hK.out _ _ sn (fun hh => ?_)
        clear hh hK K
        try simp only [Act.put, List.setIfInBounds_toArray, List.set_cons_zero, List.set_cons_succ]
        exact of_G HG.out (st_3_12_14 wn wv.heap.size pc sn (b1v.on hb) (b2v.on hb) (b3v.on hb) (kkv.trans (hb.mono kkv.size)) bnew (bpc.on hb) (Kept.size sv) hpc (Nat.ne_of_gt bpc.lt))
      · go_simp
        obtain ⟨wn, ew⟩ : ∃ zz, zz = wv.alloc (.cells #[.int .i64 0, .int .i64 0, .int .i64 0] 26) := ⟨_, rfl⟩
        have hb : Below wv.heap.size wv wn := by rw [ew]; exact (Below.refl _ _).alloc (Nat.le_refl _) _
        rw [← ew]
        have bnew : Blk wn wv.heap.size 26 #[.int .i64 0, .int .i64 0, .int .i64 0] := by rw [ew]; exact heap_alloc_new _ _
        have sn : (fun W => Kept (fun g => False) wd W) wn := Kept.next sv (kept_below (fun _ => False) hb) (fun _ h => h.elim)
        refine hK.out _ _ sn (fun hh => ?_)
        clear hh hK K
        try simp only [Act.put, List.setIfInBounds_toArray, List.set_cons_zero, List.set_cons_succ]
        exact of_G HG.out (st_3_13_14 wn wv.heap.size pc sn (b1v.on hb) (b2v.on hb) (b3v.on hb) (kkv.trans (hb.mono kkv.size)) bnew (bpc.on hb) (Kept.size sv) hpc (Nat.ne_of_gt bpc.lt))
    have st_12_13 : ∀ (wv : World) (pa : Nat) (pb : Nat), (fun W => Kept (fun g => False) wd W) wv → Blk wv p1 33 x.cs.toArray → Blk wv p2 49 i.cs.toArray → Blk wv p3 40 #[.int .i64 0, .int .i64 0, .int .i64 0, .int .i64 0, .int .i64 0, .int .i64 0, .int .i64 0, .int .i64 0, .int .i64 0, .int .i64 0, .int .i64 0, .int .i64 0, .int .i64 0, .int .i64 0] → Below w.heap.size w wv → Blk wv pa 26 #[.int .i64 0, .int .i64 0, .int .i64 0] → Blk wv pb 26 #[.int .i64 0, .int .i64 0, .int .i64 0] → wd.heap.size ≤ pa → wd.heap.size ≤ pb → pa ≠ pb → G 7 #[true, true, true, false, true, true, true, false, true, true, true, false, true, true, false, false, false, false] { tmps := #[.int .i64 t, .agg x.cs.toArray, .agg i.cs.toArray, .int .i64 own, undef, .pointer (some ⟨p1, 0, none⟩), .pointer (some ⟨p2, 0, none⟩), undef, .pointer (some ⟨p3, 0, none⟩), .pointer (some ⟨pa, 0, none⟩), .pointer (some ⟨pb, 0, none⟩), undef, .agg x.cs.toArray, .pointer (some ⟨p2, 1, none⟩), .int .i64 i.a, undef, .agg x.cs.toArray, .pointer (some ⟨p2, 2, none⟩), .int .i64 i.b, undef, .agg x.cs.toArray, .pointer (some ⟨p2, 3, none⟩), .int .i64 i.c, undef, undef, undef, undef, undef, undef, undef, undef, undef, undef, undef, undef, undef, undef, undef, undef, undef, undef, undef, undef, undef, undef, undef, undef, undef, undef, undef, undef, undef, undef, undef, undef, undef, undef, undef, undef, undef, undef, undef, undef, undef, undef, undef, undef, undef, undef, undef, undef, undef, undef, undef, undef, undef, undef, undef, undef, undef, undef, undef, undef, undef, undef, undef, undef, undef, undef, undef, undef], defers := [] } wv := by
      intro wv pa pb sv b1v b2v b3v kkv bpa bpb hpa hpb npapb
      refine in_G HG.out ?_
      refine wpAnyH_ready (rs := [3, 14]) (by kernel_rfl) (by simp) ?_
      refine AllReadyH.cons (o := ⟨some 15, _, _, _, _, _⟩) rfl (fun K hK => ?_) (AllReadyH.cons (o := ⟨some 11, _, _, _, _, _⟩) rfl (fun K hK => ?_) AllReadyH.nil)
      · go_simp
        refine (rget_any x i.a wv).mono ?_
        rintro e wn ⟨rfl, hb⟩
        have sn : (fun W => Kept (fun g => False) wd W) wn := Kept.next sv (kept_below (fun _ => False) hb) (fun _ h => h.elim)
        refine hK.out _ _ sn (fun hh => ?_)
        clear hh hK K
        try simp only [Act.put, List.setIfInBounds_toArray, List.set_cons_zero, List.set_cons_succ]
        exact of_G HG.out (st_3_12_13 wn pa pb sn (b1v.on hb) (b2v.on hb) (b3v.on hb) (kkv.trans (hb.mono kkv.size)) (bpa.on hb) (bpb.on hb) hpa hpb npapb)
      · go_simp
        obtain ⟨wn, ew⟩ : ∃ zz, zz = wv.alloc (.cells #[.int .i64 0, .int .i64 0, .int .i64 0] 26) := ⟨_, rfl⟩
        have hb : Below wv.heap.size wv wn := by rw [ew]; exact (Below.refl _ _).alloc (Nat.le_refl _) _
        rw [← ew]
        have bnew : Blk wn wv.heap.size 26 #[.int .i64 0, .int .i64 0, .int .i64 0] := by rw [ew]; exact heap_alloc_new _ _
        have sn : (fun W => Kept (fun g => False) wd W) wn := Kept.next sv (kept_below (fun _ => False) hb) (fun _ h => h.elim)
        refine hK.out _ _ sn (fun hh => ?_)
        clear hh hK K
        try simp only [Act.put, List.setIfInBounds_toArray, List.set_cons_zero, List.set_cons_succ]
        exact of_G HG.out (st_12_13_14 wn pa pb wv.heap.size sn (b1v.on hb) (b2v.on hb) (b3v.on hb) (kkv.trans (hb.mono kkv.size)) (bpa.on hb) (bpb.on hb) bnew hpa hpb (Kept.size sv) npapb (Nat.ne_of_lt bpa.lt) (Nat.ne_of_lt bpb.lt))
    have st_3_13 : ∀ (wv : World) (pb : Nat), (fun W => Kept (fun g => False) wd W) wv → Blk wv p1 33 x.cs.toArray → Blk wv p2 49 i.cs.toArray → Blk wv p3 40 #[.int .i64 0, .int .i64 0, .int .i64 0, .int .i64 0, .int .i64 0, .int .i64 0, .int .i64 0, .int .i64 0, .int .i64 0, .int .i64 0, .int .i64 0, .int .i64 0, .int .i64 0, .int .i64 0] → Below w.heap.size w wv → Blk wv pb 26 #[.int .i64 0, .int .i64 0, .int .i64 0] → wd.heap.size ≤ pb → G 7 #[true, true, true, true, true, true, true, false, true, true, true, false, false, true, false, false, false, false] { tmps := #[.int .i64 t, .agg x.cs.toArray, .agg i.cs.toArray, .int .i64 own, undef, .pointer (some ⟨p1, 0, none⟩), .pointer (some ⟨p2, 0, none⟩), undef, .pointer (some ⟨p3, 0, none⟩), undef, .pointer (some ⟨pb, 0, none⟩), undef, .agg x.cs.toArray, .pointer (some ⟨p2, 1, none⟩), .int .i64 i.a, .agg (regI x i.a).cs.toArray, .agg x.cs.toArray, .pointer (some ⟨p2, 2, none⟩), .int .i64 i.b, undef, .agg x.cs.toArray, .pointer (some ⟨p2, 3, none⟩), .int .i64 i.c, undef, undef, undef, undef, undef, undef, undef, undef, undef, undef, undef, undef, undef, undef, undef, undef, undef, undef, undef, undef, undef, undef, undef, undef, undef, undef, undef, undef, undef, undef, undef, undef, undef, undef, undef, undef, undef, undef, undef, undef, undef, undef, undef, undef, undef, undef, undef, undef, undef, undef, undef, undef, undef, undef, undef, undef, undef, undef, undef, undef, undef, undef, undef, undef, undef, undef, undef, undef], defers := [] } wv := by
      intro wv pb sv b1v b2v b3v kkv bpb hpb
      refine in_G HG.out ?_
      refine wpAnyH_ready (rs := [7, 12, 14]) (by kernel_rfl) (by simp) ?_
      refine AllReadyH.cons (o := ⟨some 19, _, _, _, _, _⟩) rfl (fun K hK => ?_) (AllReadyH.cons (o := ⟨some 9, _, _, _, _, _⟩) rfl (fun K hK => ?_) (AllReadyH.cons (o := ⟨some 11, _, _, _, _, _⟩) rfl (fun K hK => ?_) AllReadyH.nil))
      · go_simp
        refine (rget_any x i.b wv).mono ?_
        rintro e wn ⟨rfl, hb⟩
        have sn : (fun W => Kept (fun g => False) wd W) wn := Kept.next sv (kept_below (fun _ => False) hb) (fun _ h => h.elim)
        refine hK.out _ _ sn (fun hh => ?_)
        clear hh hK K
        try simp only [Act.put, List.setIfInBounds_toArray, List.set_cons_zero, List.set_cons_succ]
        exact of_G HG.out (st_3_7_13 wn pb sn (b1v.on hb) (b2v.on hb) (b3v.on hb) (kkv.trans (hb.mono kkv.size)) (bpb.on hb) hpb)
      · go_simp
        obtain ⟨wn, ew⟩ : ∃ zz, zz = wv.alloc (.cells #[.int .i64 0, .int .i64 0, .int .i64 0] 26) := ⟨_, rfl⟩
        have hb : Below wv.heap.size wv wn := by rw [ew]; exact (Below.refl _ _).alloc (Nat.le_refl _) _
        rw [← ew]
        have bnew : Blk wn wv.heap.size 26 #[.int .i64 0, .int .i64 0, .int .i64 0] := by rw [ew]; exact heap_alloc_new _ _
        have sn : (fun W => Kept (fun g => False) wd W) wn := Kept.next sv (kept_below (fun _ => False) hb) (fun _ h => h.elim)
        refine hK.out _ _ sn (fun hh => ?_)
        clear hh hK K
        try simp only [Act.put, List.setIfInBounds_toArray, List.set_cons_zero, List.set_cons_succ]
        exact of_G HG.out (st_3_12_13 wn wv.heap.size pb sn (b1v.on hb) (b2v.on hb) (b3v.on hb) (kkv.trans (hb.mono kkv.size)) bnew (bpb.on hb) (Kept.size sv) hpb (Nat.ne_of_gt bpb.lt))
      · go_simp
        obtain ⟨wn, ew⟩ : ∃ zz, zz = wv.alloc (.cells #[.int .i64 0, .int .i64 0, .int .i64 0] 26) := ⟨_, rfl⟩
        have hb : Below wv.heap.size wv wn := by rw [ew]; exact (Below.refl _ _).alloc (Nat.le_refl _) _
        rw [← ew]
        have bnew : Blk wn wv.heap.size 26 #[.int .i64 0, .int .i64 0, .int .i64 0] := by rw [ew]; exact heap_alloc_new _ _
        have sn : (fun W => Kept (fun g => False) wd W) wn := Kept.next sv (kept_below (fun _ => False) hb) (fun _ h => h.elim)
        refine hK.out _ _ sn (fun hh => ?_)
        clear hh hK K
        try simp only [Act.put, List.setIfInBounds_toArray, List.set_cons_zero, List.set_cons_succ]
        exact of_G HG.out (st_3_13_14 wn pb wv.heap.size sn (b1v.on hb) (b2v.on hb) (b3v.on hb) (kkv.trans (hb.mono kkv.size)) (bpb.on hb) bnew hpb (Kept.size sv) (Nat.ne_of_lt bpb.lt))
    have st_3_12 : ∀ (wv : World) (pa : Nat), (fun W => Kept (fun g => False) wd W) wv → Blk wv p1 33 x.cs.toArray → Blk wv p2 49 i.cs.toArray → Blk wv p3 40 #[.int .i64 0, .int .i64 0, .int .i64 0, .int .i64 0, .int .i64 0, .int .i64 0, .int .i64 0, .int .i64 0, .int .i64 0, .int .i64 0, .int .i64 0, .int .i64 0, .int .i64 0, .int .i64 0] → Below w.heap.size w wv → Blk wv pa 26 #[.int .i64 0, .int .i64 0, .int .i64 0] → wd.heap.size ≤ pa → G 7 #[true, true, true, true, true, true, true, false, true, true, true, false, true, false, false, false, false, false] { tmps := #[.int .i64 t, .agg x.cs.toArray, .agg i.cs.toArray, .int .i64 own, undef, .pointer (some ⟨p1, 0, none⟩), .pointer (some ⟨p2, 0, none⟩), undef, .pointer (some ⟨p3, 0, none⟩), .pointer (some ⟨pa, 0, none⟩), undef, undef, .agg x.cs.toArray, .pointer (some ⟨p2, 1, none⟩), .int .i64 i.a, .agg (regI x i.a).cs.toArray, .agg x.cs.toArray, .pointer (some ⟨p2, 2, none⟩), .int .i64 i.b, undef, .agg x.cs.toArray, .pointer (some ⟨p2, 3, none⟩), .int .i64 i.c, undef, undef, undef, undef, undef, undef, undef, undef, undef, undef, undef, undef, undef, undef, undef, undef, undef, undef, undef, undef, undef, undef, undef, undef, undef, undef, undef, undef, undef, undef, undef, undef, undef, undef, undef, undef, undef, undef, undef, undef, undef, undef, undef, undef, undef, undef, undef, undef, undef, undef, undef, undef, undef, undef, undef, undef, undef, undef, undef, undef, undef, undef, undef, undef, undef, undef, undef, undef], defers := [] } wv := by
      intro wv pa sv b1v b2v b3v kkv bpa hpa
      refine in_G HG.out ?_
      refine wpAnyH_ready (rs := [7, 13, 14]) (by kernel_rfl) (by simp) ?_
      refine AllReadyH.cons (o := ⟨some 19, _, _, _, _, _⟩) rfl (fun K hK => ?_) (AllReadyH.cons (o := ⟨some 10, _, _, _, _, _⟩) rfl (fun K hK => ?_) (AllReadyH.cons (o := ⟨some 11, _, _, _, _, _⟩) rfl (fun K hK => ?_) AllReadyH.nil))
      · go_simp
        refine (rget_any x i.b wv).mono ?_
        rintro e wn ⟨rfl, hb⟩
        have sn : (fun W => Kept (fun g => False) wd W) wn := Kept.next sv (kept_below (fun _ => False) hb) (fun _ h => h.elim)
        refine hK.out _ _ sn (fun hh => ?_)
        clear hh hK K
        try simp only [Act.put, List.setIfInBounds_toArray, List.set_cons_zero, List.set_cons_succ]
        exact of_G HG.out (st_3_7_12 wn pa sn (b1v.on hb) (b2v.on hb) (b3v.on hb) (kkv.trans (hb.mono kkv.size)) (bpa.on hb) hpa)
      · go_simp
        obtain ⟨wn, ew⟩ : ∃ zz, zz = wv.alloc (.cells #[.int .i64 0, .int .i64 0, .int .i64 0] 26) := ⟨_, rfl⟩
        have hb : Below wv.heap.size wv wn := by rw [ew]; exact (Below.refl _ _).alloc (Nat.le_refl _) _
        rw [← ew]
        have bnew : Blk wn wv.heap.size 26 #[.int .i64 0, .int .i64 0, .int .i64 0] := by rw [ew]; exact heap_alloc_new _ _
        have sn : (fun W => Kept (fun g => False) wd W) wn := Kept.next sv (kept_below (fun _ => False) hb) (fun _ h => h.elim)
        refine hK.out _ _ sn (fun hh => ?_)
        clear hh hK K
        try simp only [Act.put, List.setIfInBounds_toArray, List.set_cons_zero, List.set_cons_succ]
        exact of_G HG.out (st_3_12_13 wn pa wv.heap.size sn (b1v.on hb) (b2v.on hb) (b3v.on hb) (kkv.trans (hb.mono kkv.size)) (bpa.on hb) bnew hpa (Kept.size sv) (Nat.ne_of_lt bpa.lt))
      · go_simp
        obtain ⟨wn, ew⟩ : ∃ zz, zz = wv.alloc (.cells #[.int .i64 0, .int .i64 0, .int .i64 0] 26) := ⟨_, rfl⟩
        have hb : Below wv.heap.size wv wn := by rw [ew]; exact (Below.refl _ _).alloc (Nat.le_refl _) _
        rw [← ew]
        have bnew : Blk wn wv.heap.size 26 #[.int .i64 0, .int .i64 0, .int .i64 0] := by rw [ew]; exact heap_alloc_new _ _
        have sn : (fun W => Kept (fun g => False) wd W) wn := Kept.next sv (kept_below (fun _ => False) hb) (fun _ h => h.elim)
        refine hK.out _ _ sn (fun hh => ?_)
        clear hh hK K
        try simp only [Act.put, List.setIfInBounds_toArray, List.set_cons_zero, List.set_cons_succ]
        exact of_G HG.out (st_3_12_14 wn pa wv.heap.size sn (b1v.on hb) (b2v.on hb) (b3v.on hb) (kkv.trans (hb.mono kkv.size)) (bpa.on hb) bnew hpa (Kept.size sv) (Nat.ne_of_lt bpa.lt))
    have st_3_7 : ∀ (wv : World), (fun W => Kept (fun g => False) wd W) wv → Blk wv p1 33 x.cs.toArray → Blk wv p2 49 i.cs.toArray → Blk wv p3 40 #[.int .i64 0, .int .i64 0, .int .i64 0, .int .i64 0, .int .i64 0, .int .i64 0, .int .i64 0, .int .i64 0, .int .i64 0, .int .i64 0, .int .i64 0, .int .i64 0, .int .i64 0, .int .i64 0] → Below w.heap.size w wv → G 7 #[true, true, true, true, true, true, true, true, true, true, true, false, false, false, false, false, false, false] { tmps := #[.int .i64 t, .agg x.cs.toArray, .agg i.cs.toArray, .int .i64 own, undef, .pointer (some ⟨p1, 0, none⟩), .pointer (some ⟨p2, 0, none⟩), undef, .pointer (some ⟨p3, 0, none⟩), undef, undef, undef, .agg x.cs.toArray, .pointer (some ⟨p2, 1, none⟩), .int .i64 i.a, .agg (regI x i.a).cs.toArray, .agg x.cs.toArray, .pointer (some ⟨p2, 2, none⟩), .int .i64 i.b, .agg (regI x i.b).cs.toArray, .agg x.cs.toArray, .pointer (some ⟨p2, 3, none⟩), .int .i64 i.c, undef, undef, undef, undef, undef, undef, undef, undef, undef, undef, undef, undef, undef, undef, undef, undef, undef, undef, undef, undef, undef, undef, undef, undef, undef, undef, undef, undef, undef, undef, undef, undef, undef, undef, undef, undef, undef, undef, undef, undef, undef, undef, undef, undef, undef, undef, undef, undef, undef, undef, undef, undef, undef, undef, undef, undef, undef, undef, undef, undef, undef, undef, undef, undef, undef, undef, undef, undef], defers := [] } wv := by
      intro wv sv b1v b2v b3v kkv
      refine in_G HG.out ?_
      refine wpAnyH_ready (rs := [11, 12, 13, 14]) (by kernel_rfl) (by simp) ?_
      refine AllReadyH.cons (o := ⟨some 23, _, _, _, _, _⟩) rfl (fun K hK => ?_) (AllReadyH.cons (o := ⟨some 9, _, _, _, _, _⟩) rfl (fun K hK => ?_) (AllReadyH.cons (o := ⟨some 10, _, _, _, _, _⟩) rfl (fun K hK => ?_) (AllReadyH.cons (o := ⟨some 11, _, _, _, _, _⟩) rfl (fun K hK => ?_) AllReadyH.nil)))
      · go_simp
        refine (rget_any x i.c wv).mono ?_
        rintro e wn ⟨rfl, hb⟩
        have sn : (fun W => Kept (fun g => False) wd W) wn := Kept.next sv (kept_below (fun _ => False) hb) (fun _ h => h.elim)
        refine hK.out _ _ sn (fun hh => ?_)
        clear hh hK K
        try simp only [Act.put, List.setIfInBounds_toArray, List.set_cons_zero, List.set_cons_succ]
        exact of_G HG.out (st_3_7_11 wn sn (b1v.on hb) (b2v.on hb) (b3v.on hb) (kkv.trans (hb.mono kkv.size)))
      · go_simp
        obtain ⟨wn, ew⟩ : ∃ zz, zz = wv.alloc (.cells #[.int .i64 0, .int .i64 0, .int .i64 0] 26) := ⟨_, rfl⟩
        have hb : Below wv.heap.size wv wn := by rw [ew]; exact (Below.refl _ _).alloc (Nat.le_refl _) _
        rw [← ew]
        have bnew : Blk wn wv.heap.size 26 #[.int .i64 0, .int .i64 0, .int .i64 0] := by rw [ew]; exact heap_alloc_new _ _
        have sn : (fun W => Kept (fun g => False) wd W) wn := Kept.next sv (kept_below (fun _ => False) hb) (fun _ h => h.elim)
        refine hK.out _ _ sn (fun hh => ?_)
        clear hh hK K
        try simp only [Act.put, List.setIfInBounds_toArray, List.set_cons_zero, List.set_cons_succ]
        exact of_G HG.out (st_3_7_12 wn wv.heap.size sn (b1v.on hb) (b2v.on hb) (b3v.on hb) (kkv.trans (hb.mono kkv.size)) bnew (Kept.size sv))
      · go_simp
        obtain ⟨wn, ew⟩ : ∃ zz, zz = wv.alloc (.cells #[.int .i64 0, .int .i64 0, .int .i64 0] 26) := ⟨_, rfl⟩
        have hb : Below wv.heap.size wv wn := by rw [ew]; exact (Below.refl _ _).alloc (Nat.le_refl _) _
        rw [← ew]
        have bnew : Blk wn wv.heap.size 26 #[.int .i64 0, .int .i64 0, .int .i64 0] := by rw [ew]; exact heap_alloc_new _ _
        have sn : (fun W => Kept (fun g => False) wd W) wn := Kept.next sv (kept_below (fun _ => False) hb) (fun _ h => h.elim)
        refine hK.out _ _ sn (fun hh => ?_)
        clear hh hK K
        try simp only [Act.put, List.setIfInBounds_toArray, List.set_cons_zero, List.set_cons_succ]
        exact of_G HG.out (st_3_7_13 wn wv.heap.size sn (b1v.on hb) (b2v.on hb) (b3v.on hb) (kkv.trans (hb.mono kkv.size)) bnew (Kept.size sv))
      · go_simp
        obtain ⟨wn, ew⟩ : ∃ zz, zz = wv.alloc (.cells #[.int .i64 0, .int .i64 0, .int .i64 0] 26) := ⟨_, rfl⟩
        have hb : Below wv.heap.size wv wn := by rw [ew]; exact (Below.refl _ _).alloc (Nat.le_refl _) _
        rw [← ew]
        have bnew : Blk wn wv.heap.size 26 #[.int .i64 0, .int .i64 0, .int .i64 0] := by rw [ew]; exact heap_alloc_new _ _
        have sn : (fun W => Kept (fun g => False) wd W) wn := Kept.next sv (kept_below (fun _ => False) hb) (fun _ h => h.elim)
        refine hK.out _ _ sn (fun hh => ?_)
        clear hh hK K
        try simp only [Act.put, List.setIfInBounds_toArray, List.set_cons_zero, List.set_cons_succ]
        exact of_G HG.out (st_3_7_14 wn wv.heap.size sn (b1v.on hb) (b2v.on hb) (b3v.on hb) (kkv.trans (hb.mono kkv.size)) bnew (Kept.size sv))
    have st_14 : ∀ (wv : World) (pc : Nat), (fun W => Kept (fun g => False) wd W) wv → Blk wv p1 33 x.cs.toArray → Blk wv p2 49 i.cs.toArray → Blk wv p3 40 #[.int .i64 0, .int .i64 0, .int .i64 0, .int .i64 0, .int .i64 0, .int .i64 0, .int .i64 0, .int .i64 0, .int .i64 0, .int .i64 0, .int .i64 0, .int .i64 0, .int .i64 0, .int .i64 0] → Below w.heap.size w wv → Blk wv pc 26 #[.int .i64 0, .int .i64 0, .int .i64 0] → wd.heap.size ≤ pc → G 8 #[true, true, true, false, true, true, true, false, true, true, true, false, false, false, true, false, false, false] { tmps := #[.int .i64 t, .agg x.cs.toArray, .agg i.cs.toArray, .int .i64 own, undef, .pointer (some ⟨p1, 0, none⟩), .pointer (some ⟨p2, 0, none⟩), undef, .pointer (some ⟨p3, 0, none⟩), undef, undef, .pointer (some ⟨pc, 0, none⟩), .agg x.cs.toArray, .pointer (some ⟨p2, 1, none⟩), .int .i64 i.a, undef, .agg x.cs.toArray, .pointer (some ⟨p2, 2, none⟩), .int .i64 i.b, undef, .agg x.cs.toArray, .pointer (some ⟨p2, 3, none⟩), .int .i64 i.c, undef, undef, undef, undef, undef, undef, undef, undef, undef, undef, undef, undef, undef, undef, undef, undef, undef, undef, undef, undef, undef, undef, undef, undef, undef, undef, undef, undef, undef, undef, undef, undef, undef, undef, undef, undef, undef, undef, undef, undef, undef, undef, undef, undef, undef, undef, undef, undef, undef, undef, undef, undef, undef, undef, undef, undef, undef, undef, undef, undef, undef, undef, undef, undef, undef, undef, undef, undef], defers := [] } wv := by
      intro wv pc sv b1v b2v b3v kkv bpc hpc
      refine in_G HG.out ?_
      refine wpAnyH_ready (rs := [3, 12, 13]) (by kernel_rfl) (by simp) ?_
      refine AllReadyH.cons (o := ⟨some 15, _, _, _, _, _⟩) rfl (fun K hK => ?_) (AllReadyH.cons (o := ⟨some 9, _, _, _, _, _⟩) rfl (fun K hK => ?_) (AllReadyH.cons (o := ⟨some 10, _, _, _, _, _⟩) rfl (fun K hK => ?_) AllReadyH.nil))
      · go_simp
        refine (rget_any x i.a wv).mono ?_
        rintro e wn ⟨rfl, hb⟩
        have sn : (fun W => Kept (fun g => False) wd W) wn := Kept.next sv (kept_below (fun _ => False) hb) (fun _ h => h.elim)
        refine hK.out _ _ sn (fun hh => ?_)
        clear hh hK K
        try simp only [Act.put, List.setIfInBounds_toArray, List.set_cons_zero, List.set_cons_succ]
        exact of_G HG.out (st_3_14 wn pc sn (b1v.on hb) (b2v.on hb) (b3v.on hb) (kkv.trans (hb.mono kkv.size)) (bpc.on hb) hpc)
      · go_simp
        obtain ⟨wn, ew⟩ : ∃ zz, zz = wv.alloc (.cells #[.int .i64 0, .int .i64 0, .int .i64 0] 26) := ⟨_, rfl⟩
        have hb : Below wv.heap.size wv wn := by rw [ew]; exact (Below.refl _ _).alloc (Nat.le_refl _) _
        rw [← ew]
        have bnew : Blk wn wv.heap.size 26 #[.int .i64 0, .int .i64 0, .int .i64 0] := by rw [ew]; exact heap_alloc_new _ _
        have sn : (fun W => Kept (fun g => False) wd W) wn := Kept.next sv (kept_below (fun _ => False) hb) (fun _ h => h.elim)
        refine hK.out _ _ sn (fun hh => ?_)
        clear hh hK K
        try simp only [Act.put, List.setIfInBounds_toArray, List.set_cons_zero, List.set_cons_succ]
        exact of_G HG.out (st_12_14 wn wv.heap.size pc sn (b1v.on hb) (b2v.on hb) (b3v.on hb) (kkv.trans (hb.mono kkv.size)) bnew (bpc.on hb) (Kept.size sv) hpc (Nat.ne_of_gt bpc.lt))
      · go_simp
        obtain ⟨wn, ew⟩ : ∃ zz, zz = wv.alloc (.cells #[.int .i64 0, .int .i64 0, .int .i64 0] 26) := ⟨_, rfl⟩
        have hb : Below wv.heap.size wv wn := by rw [ew]; exact (Below.refl _ _).alloc (Nat.le_refl _) _
        rw [← ew]
        have bnew : Blk wn wv.heap.size 26 #[.int .i64 0, .int .i64 0, .int .i64 0] := by rw [ew]; exact heap_alloc_new _ _
        have sn : (fun W => Kept (fun g => False) wd W) wn := Kept.next sv (kept_below (fun _ => False) hb) (fun _ h => h.elim)
        refine hK.out _ _ sn (fun hh => ?_)
        clear hh hK K
        try simp only [Act.put, List.setIfInBounds_toArray, List.set_cons_zero, List.set_cons_succ]
        exact of_G HG.out (st_13_14 wn wv.heap.size pc sn (b1v.on hb) (b2v.on hb) (b3v.on hb) (kkv.trans (hb.mono kkv.size)) bnew (bpc.on hb) (Kept.size sv) hpc (Nat.ne_of_gt bpc.lt))
    have st_13 : ∀ (wv : World) (pb : Nat), (fun W => Kept (fun g => False) wd W) wv → Blk wv p1 33 x.cs.toArray → Blk wv p2 49 i.cs.toArray → Blk wv p3 40 #[.int .i64 0, .int .i64 0, .int .i64 0, .int .i64 0, .int .i64 0, .int .i64 0, .int .i64 0, .int .i64 0, .int .i64 0, .int .i64 0, .int .i64 0, .int .i64 0, .int .i64 0, .int .i64 0] → Below w.heap.size w wv → Blk wv pb 26 #[.int .i64 0, .int .i64 0, .int .i64 0] → wd.heap.size ≤ pb → G 8 #[true, true, true, false, true, true, true, false, true, true, true, false, false, true, false, false, false, false] { tmps := #[.int .i64 t, .agg x.cs.toArray, .agg i.cs.toArray, .int .i64 own, undef, .pointer (some ⟨p1, 0, none⟩), .pointer (some ⟨p2, 0, none⟩), undef, .pointer (some ⟨p3, 0, none⟩), undef, .pointer (some ⟨pb, 0, none⟩), undef, .agg x.cs.toArray, .pointer (some ⟨p2, 1, none⟩), .int .i64 i.a, undef, .agg x.cs.toArray, .pointer (some ⟨p2, 2, none⟩), .int .i64 i.b, undef, .agg x.cs.toArray, .pointer (some ⟨p2, 3, none⟩), .int .i64 i.c, undef, undef, undef, undef, undef, undef, undef, undef, undef, undef, undef, undef, undef, undef, undef, undef, undef, undef, undef, undef, undef, undef, undef, undef, undef, undef, undef, undef, undef, undef, undef, undef, undef, undef, undef, undef, undef, undef, undef, undef, undef, undef, undef, undef, undef, undef, undef, undef, undef, undef, undef, undef, undef, undef, undef, undef, undef, undef, undef, undef, undef, undef, undef, undef, undef, undef, undef, undef], defers := [] } wv := by
      intro wv pb sv b1v b2v b3v kkv bpb hpb
      refine in_G HG.out ?_
      refine wpAnyH_ready (rs := [3, 12, 14]) (by kernel_rfl) (by simp) ?_
      refine AllReadyH.cons (o := ⟨some 15, _, _, _, _, _⟩) rfl (fun K hK => ?_) (AllReadyH.cons (o := ⟨some 9, _, _, _, _, _⟩) rfl (fun K hK => ?_) (AllReadyH.cons (o := ⟨some 11, _, _, _, _, _⟩) rfl (fun K hK => ?_) AllReadyH.nil))
      · go_simp
        refine (rget_any x i.a wv).mono ?_
        rintro e wn ⟨rfl, hb⟩
        have sn : (fun W => Kept (fun g => False) wd W) wn := Kept.next sv (kept_below (fun _ => False) hb) (fun _ h => h.elim)
        refine hK.out _ _ sn (fun hh => ?_)
        clear hh hK K
        try simp only [Act.put, List.setIfInBounds_toArray, List.set_cons_zero, List.set_cons_succ]
        exact of_G HG.out (st_3_13 wn pb sn (b1v.on hb) (b2v.on hb) (b3v.on hb) (kkv.trans (hb.mono kkv.size)) (bpb.on hb) hpb)
      · go_simp
        obtain ⟨wn, ew⟩ : ∃ zz, zz = wv.alloc (.cells #[.int .i64 0, .int .i64 0, .int .i64 0] 26) := ⟨_, rfl⟩
        have hb : Below wv.heap.size wv wn := by rw [ew]; exact (Below.refl _ _).alloc (Nat.le_refl _) _
        rw [← ew]
        have bnew : Blk wn wv.heap.size 26 #[.int .i64 0, .int .i64 0, .int .i64 0] := by rw [ew]; exact heap_alloc_new _ _
        have sn : (fun W => Kept (fun g => False) wd W) wn := Kept.next sv (kept_below (fun _ => False) hb) (fun _ h => h.elim)
        refine hK.out _ _ sn (fun hh => ?_)
        clear hh hK K
        try simp only [Act.put, List.setIfInBounds_toArray, List.set_cons_zero, List.set_cons_succ]
        exact of_G HG.out (st_12_13 wn wv.heap.size pb sn (b1v.on hb) (b2v.on hb) (b3v.on hb) (kkv.trans (hb.mono kkv.size)) bnew (bpb.on hb) (Kept.size sv) hpb (Nat.ne_of_gt bpb.lt))
      · go_simp
        obtain ⟨wn, ew⟩ : ∃ zz, zz = wv.alloc (.cells #[.int .i64 0, .int .i64 0, .int .i64 0] 26) := ⟨_, rfl⟩
        have hb : Below wv.heap.size wv wn := by rw [ew]; exact (Below.refl _ _).alloc (Nat.le_refl _) _
        rw [← ew]
        have bnew : Blk wn wv.heap.size 26 #[.int .i64 0, .int .i64 0, .int .i64 0] := by rw [ew]; exact heap_alloc_new _ _
        have sn : (fun W => Kept (fun g => False) wd W) wn := Kept.next sv (kept_below (fun _ => False) hb) (fun _ h => h.elim)
        refine hK.out _ _ sn (fun hh => ?_)
        clear hh hK K
        try simp only [Act.put, List.setIfInBounds_toArray, List.set_cons_zero, List.set_cons_succ]
        exact of_G HG.out (st_13_14 wn pb wv.heap.size sn (b1v.on hb) (b2v.on hb) (b3v.on hb) (kkv.trans (hb.mono kkv.size)) (bpb.on hb) bnew hpb (Kept.size sv) (Nat.ne_of_lt bpb.lt))
    have st_12 : ∀ (wv : World) (pa : Nat), (fun W => Kept (fun g => False) wd W) wv → Blk wv p1 33 x.cs.toArray → Blk wv p2 49 i.cs.toArray → Blk wv p3 40 #[.int .i64 0, .int .i64 0, .int .i64 0, .int .i64 0, .int .i64 0, .int .i64 0, .int .i64 0, .int .i64 0, .int .i64 0, .int .i64 0, .int .i64 0, .int .i64 0, .int .i64 0, .int .i64 0] → Below w.heap.size w wv → Blk wv pa 26 #[.int .i64 0, .int .i64 0, .int .i64 0] → wd.heap.size ≤ pa → G 8 #[true, true, true, false, true, true, true, false, true, true, true, false, true, false, false, false, false, false] { tmps := #[.int .i64 t, .agg x.cs.toArray, .agg i.cs.toArray, .int .i64 own, undef, .pointer (some ⟨p1, 0, none⟩), .pointer (some ⟨p2, 0, none⟩), undef, .pointer (some ⟨p3, 0, none⟩), .pointer (some ⟨pa, 0, none⟩), undef, undef, .agg x.cs.toArray, .pointer (some ⟨p2, 1, none⟩), .int .i64 i.a, undef, .agg x.cs.toArray, .pointer (some ⟨p2, 2, none⟩), .int .i64 i.b, undef, .agg x.cs.toArray, .pointer (some ⟨p2, 3, none⟩), .int .i64 i.c, undef, undef, undef, undef, undef, undef, undef, undef, undef, undef, undef, undef, undef, undef, undef, undef, undef, undef, undef, undef, undef, undef, undef, undef, undef, undef, undef, undef, undef, undef, undef, undef, undef, undef, undef, undef, undef, undef, undef, undef, undef, undef, undef, undef, undef, undef, undef, undef, undef, undef, undef, undef, undef, undef, undef, undef, undef, undef, undef, undef, undef, undef, undef, undef, undef, undef, undef, undef], defers := [] } wv := by
      intro wv pa sv b1v b2v b3v kkv bpa hpa
      refine in_G HG.out ?_
      refine wpAnyH_ready (rs := [3, 13, 14]) (by kernel_rfl) (by simp) ?_
      refine AllReadyH.cons (o := ⟨some 15, _, _, _, _, _⟩) rfl (fun K hK => ?_) (AllReadyH.cons (o := ⟨some 10, _, _, _, _, _⟩) rfl (fun K hK => ?_) (AllReadyH.cons (o := ⟨some 11, _, _, _, _, _⟩) rfl (fun K hK => ?_) AllReadyH.nil))
      · go_simp
        refine (rget_any x i.a wv).mono ?_
        rintro e wn ⟨rfl, hb⟩
        have sn : (fun W => Kept (fun g => False) wd W) wn := Kept.next sv (kept_below (fun _ => False) hb) (fun _ h => h.elim)
        refine hK.out _ _ sn (fun hh => ?_)
        clear hh hK K
        try simp only [Act.put, List.setIfInBounds_toArray, List.set_cons_zero, List.set_cons_succ]
        exact of_G HG.out (st_3_12 wn pa sn (b1v.on hb) (b2v.on hb) (b3v.on hb) (kkv.trans (hb.mono kkv.size)) (bpa.on hb) hpa)
      · go_simp
        obtain ⟨wn, ew⟩ : ∃ zz, zz = wv.alloc (.cells #[.int .i64 0, .int .i64 0, .int .i64 0] 26) := ⟨_, rfl⟩
        have hb : Below wv.heap.size wv wn := by rw [ew]; exact (Below.refl _ _).alloc (Nat.le_refl _) _
        rw [← ew]
        have bnew : Blk wn wv.heap.size 26 #[.int .i64 0, .int .i64 0, .int .i64 0] := by rw [ew]; exact heap_alloc_new _ _
        have sn : (fun W => Kept (fun g => False) wd W) wn := Kept.next sv (kept_below (fun _ => False) hb) (fun _ h => h.elim)
        refine hK.out _ _ sn (fun hh => ?_)
        clear hh hK K
        try simp only [Act.put, List.setIfInBounds_toArray, List.set_cons_zero, List.set_cons_succ]
        exact of_G HG.out (st_12_13 wn pa wv.heap.size sn (b1v.on hb) (b2v.on hb) (b3v.on hb) (kkv.trans (hb.mono kkv.size)) (bpa.on hb) bnew hpa (Kept.size sv) (Nat.ne_of_lt bpa.lt))
      · go_simp
        obtain ⟨wn, ew⟩ : ∃ zz, zz = wv.alloc (.cells #[.int .i64 0, .int .i64 0, .int .i64 0] 26) := ⟨_, rfl⟩
        have hb : Below wv.heap.size wv wn := by rw [ew]; exact (Below.refl _ _).alloc (Nat.le_refl _) _
        rw [← ew]
        have bnew : Blk wn wv.heap.size 26 #[.int .i64 0, .int .i64 0, .int .i64 0] := by rw [ew]; exact heap_alloc_new _ _
        have sn : (fun W => Kept (fun g => False) wd W) wn := Kept.next sv (kept_below (fun _ => False) hb) (fun _ h => h.elim)
        refine hK.out _ _ sn (fun hh => ?_)
        clear hh hK K
        try simp only [Act.put, List.setIfInBounds_toArray, List.set_cons_zero, List.set_cons_succ]
        exact of_G HG.out (st_12_14 wn pa wv.heap.size sn (b1v.on hb) (b2v.on hb) (b3v.on hb) (kkv.trans (hb.mono kkv.size)) (bpa.on hb) bnew hpa (Kept.size sv) (Nat.ne_of_lt bpa.lt))
    have st_3 : ∀ (wv : World), (fun W => Kept (fun g => False) wd W) wv → Blk wv p1 33 x.cs.toArray → Blk wv p2 49 i.cs.toArray → Blk wv p3 40 #[.int .i64 0, .int .i64 0, .int .i64 0, .int .i64 0, .int .i64 0, .int .i64 0, .int .i64 0, .int .i64 0, .int .i64 0, .int .i64 0, .int .i64 0, .int .i64 0, .int .i64 0, .int .i64 0] → Below w.heap.size w wv → G 8 #[true, true, true, true, true, true, true, false, true, true, true, false, false, false, false, false, false, false] { tmps := #[.int .i64 t, .agg x.cs.toArray, .agg i.cs.toArray, .int .i64 own, undef, .pointer (some ⟨p1, 0, none⟩), .pointer (some ⟨p2, 0, none⟩), undef, .pointer (some ⟨p3, 0, none⟩), undef, undef, undef, .agg x.cs.toArray, .pointer (some ⟨p2, 1, none⟩), .int .i64 i.a, .agg (regI x i.a).cs.toArray, .agg x.cs.toArray, .pointer (some ⟨p2, 2, none⟩), .int .i64 i.b, undef, .agg x.cs.toArray, .pointer (some ⟨p2, 3, none⟩), .int .i64 i.c, undef, undef, undef, undef, undef, undef, undef, undef, undef, undef, undef, undef, undef, undef, undef, undef, undef, undef, undef, undef, undef, undef, undef, undef, undef, undef, undef, undef, undef, undef, undef, undef, undef, undef, undef, undef, undef, undef, undef, undef, undef, undef, undef, undef, undef, undef, undef, undef, undef, undef, undef, undef, undef, undef, undef, undef, undef, undef, undef, undef, undef, undef, undef, undef, undef, undef, undef, undef], defers := [] } wv := by
      intro wv sv b1v b2v b3v kkv
      refine in_G HG.out ?_
      refine wpAnyH_ready (rs := [7, 12, 13, 14]) (by kernel_rfl) (by simp) ?_
      refine AllReadyH.cons (o := ⟨some 19, _, _, _, _, _⟩) rfl (fun K hK => ?_) (AllReadyH.cons (o := ⟨some 9, _, _, _, _, _⟩) rfl (fun K hK => ?_) (AllReadyH.cons (o := ⟨some 10, _, _, _, _, _⟩) rfl (fun K hK => ?_) (AllReadyH.cons (o := ⟨some 11, _, _, _, _, _⟩) rfl (fun K hK => ?_) AllReadyH.nil)))
      · go_simp
        refine (rget_any x i.b wv).mono ?_
        rintro e wn ⟨rfl, hb⟩
        have sn : (fun W => Kept (fun g => False) wd W) wn := Kept.next sv (kept_below (fun _ => False) hb) (fun _ h => h.elim)
        refine hK.out _ _ sn (fun hh => ?_)
        clear hh hK K
        try simp only [Act.put, List.setIfInBounds_toArray, List.set_cons_zero, List.set_cons_succ]
        exact of_G HG.out (st_3_7 wn sn (b1v.on hb) (b2v.on hb) (b3v.on hb) (kkv.trans (hb.mono kkv.size)))
      · go_simp
        obtain ⟨wn, ew⟩ : ∃ zz, zz = wv.alloc (.cells #[.int .i64 0, .int .i64 0, .int .i64 0] 26) := ⟨_, rfl⟩
        have hb : Below wv.heap.size wv wn := by rw [ew]; exact (Below.refl _ _).alloc (Nat.le_refl _) _
        rw [← ew]
        have bnew : Blk wn wv.heap.size 26 #[.int .i64 0, .int .i64 0, .int .i64 0] := by rw [ew]; exact heap_alloc_new _ _
        have sn : (fun W => Kept (fun g => False) wd W) wn := Kept.next sv (kept_below (fun _ => False) hb) (fun _ h => h.elim)
        refine hK.out _ _ sn (fun hh => ?_)
        clear hh hK K
        try simp only [Act.put, List.setIfInBounds_toArray, List.set_cons_zero, List.set_cons_succ]
        exact of_G HG.out (st_3_12 wn wv.heap.size sn (b1v.on hb) (b2v.on hb) (b3v.on hb) (kkv.trans (hb.mono kkv.size)) bnew (Kept.size sv))
      · go_simp
        obtain ⟨wn, ew⟩ : ∃ zz, zz = wv.alloc (.cells #[.int .i64 0, .int .i64 0, .int .i64 0] 26) := ⟨_, rfl⟩
        have hb : Below wv.heap.size wv wn := by rw [ew]; exact (Below.refl _ _).alloc (Nat.le_refl _) _
        rw [← ew]
        have bnew : Blk wn wv.heap.size 26 #[.int .i64 0, .int .i64 0, .int .i64 0] := by rw [ew]; exact heap_alloc_new _ _
        have sn : (fun W => Kept (fun g => False) wd W) wn := Kept.next sv (kept_below (fun _ => False) hb) (fun _ h => h.elim)
        refine hK.out _ _ sn (fun hh => ?_)
        clear hh hK K
        try simp only [Act.put, List.setIfInBounds_toArray, List.set_cons_zero, List.set_cons_succ]
        exact of_G HG.out (st_3_13 wn wv.heap.size sn (b1v.on hb) (b2v.on hb) (b3v.on hb) (kkv.trans (hb.mono kkv.size)) bnew (Kept.size sv))
      · go_simp
        obtain ⟨wn, ew⟩ : ∃ zz, zz = wv.alloc (.cells #[.int .i64 0, .int .i64 0, .int .i64 0] 26) := ⟨_, rfl⟩
        have hb : Below wv.heap.size wv wn := by rw [ew]; exact (Below.refl _ _).alloc (Nat.le_refl _) _
        rw [← ew]
        have bnew : Blk wn wv.heap.size 26 #[.int .i64 0, .int .i64 0, .int .i64 0] := by rw [ew]; exact heap_alloc_new _ _
        have sn : (fun W => Kept (fun g => False) wd W) wn := Kept.next sv (kept_below (fun _ => False) hb) (fun _ h => h.elim)
        refine hK.out _ _ sn (fun hh => ?_)
        clear hh hK K
        try simp only [Act.put, List.setIfInBounds_toArray, List.set_cons_zero, List.set_cons_succ]
        exact of_G HG.out (st_3_14 wn wv.heap.size sn (b1v.on hb) (b2v.on hb) (b3v.on hb) (kkv.trans (hb.mono kkv.size)) bnew (Kept.size sv))
    have st_0 : ∀ (wv : World), (fun W => Kept (fun g => False) wd W) wv → Blk wv p1 33 x.cs.toArray → Blk wv p2 49 i.cs.toArray → Blk wv p3 40 #[.int .i64 0, .int .i64 0, .int .i64 0, .int .i64 0, .int .i64 0, .int .i64 0, .int .i64 0, .int .i64 0, .int .i64 0, .int .i64 0, .int .i64 0, .int .i64 0, .int .i64 0, .int .i64 0] → Below w.heap.size w wv → G 9 #[true, true, true, false, true, true, true, false, true, true, true, false, false, false, false, false, false, false] { tmps := #[.int .i64 t, .agg x.cs.toArray, .agg i.cs.toArray, .int .i64 own, undef, .pointer (some ⟨p1, 0, none⟩), .pointer (some ⟨p2, 0, none⟩), undef, .pointer (some ⟨p3, 0, none⟩), undef, undef, undef, .agg x.cs.toArray, .pointer (some ⟨p2, 1, none⟩), .int .i64 i.a, undef, .agg x.cs.toArray, .pointer (some ⟨p2, 2, none⟩), .int .i64 i.b, undef, .agg x.cs.toArray, .pointer (some ⟨p2, 3, none⟩), .int .i64 i.c, undef, undef, undef, undef, undef, undef, undef, undef, undef, undef, undef, undef, undef, undef, undef, undef, undef, undef, undef, undef, undef, undef, undef, undef, undef, undef, undef, undef, undef, undef, undef, undef, undef, undef, undef, undef, undef, undef, undef, undef, undef, undef, undef, undef, undef, undef, undef, undef, undef, undef, undef, undef, undef, undef, undef, undef, undef, undef, undef, undef, undef, undef, undef, undef, undef, undef, undef, undef], defers := [] } wv := by
      intro wv sv b1v b2v b3v kkv
      refine in_G HG.out ?_
      refine wpAnyH_ready (rs := [3, 12, 13, 14]) (by kernel_rfl) (by simp) ?_
      refine AllReadyH.cons (o := ⟨some 15, _, _, _, _, _⟩) rfl (fun K hK => ?_) (AllReadyH.cons (o := ⟨some 9, _, _, _, _, _⟩) rfl (fun K hK => ?_) (AllReadyH.cons (o := ⟨some 10, _, _, _, _, _⟩) rfl (fun K hK => ?_) (AllReadyH.cons (o := ⟨some 11, _, _, _, _, _⟩) rfl (fun K hK => ?_) AllReadyH.nil)))
      · go_simp
        refine (rget_any x i.a wv).mono ?_
        rintro e wn ⟨rfl, hb⟩
        have sn : (fun W => Kept (fun g => False) wd W) wn := Kept.next sv (kept_below (fun _ => False) hb) (fun _ h => h.elim)
        refine hK.out _ _ sn (fun hh => ?_)
        clear hh hK K
        try simp only [Act.put, List.setIfInBounds_toArray, List.set_cons_zero, List.set_cons_succ]
        exact of_G HG.out (st_3 wn sn (b1v.on hb) (b2v.on hb) (b3v.on hb) (kkv.trans (hb.mono kkv.size)))
      · go_simp
        obtain ⟨wn, ew⟩ : ∃ zz, zz = wv.alloc (.cells #[.int .i64 0, .int .i64 0, .int .i64 0] 26) := ⟨_, rfl⟩
        have hb : Below wv.heap.size wv wn := by rw [ew]; exact (Below.refl _ _).alloc (Nat.le_refl _) _
        rw [← ew]
        have bnew : Blk wn wv.heap.size 26 #[.int .i64 0, .int .i64 0, .int .i64 0] := by rw [ew]; exact heap_alloc_new _ _
        have sn : (fun W => Kept (fun g => False) wd W) wn := Kept.next sv (kept_below (fun _ => False) hb) (fun _ h => h.elim)
        refine hK.out _ _ sn (fun hh => ?_)
        clear hh hK K
        try simp only [Act.put, List.setIfInBounds_toArray, List.set_cons_zero, List.set_cons_succ]
        exact of_G HG.out (st_12 wn wv.heap.size sn (b1v.on hb) (b2v.on hb) (b3v.on hb) (kkv.trans (hb.mono kkv.size)) bnew (Kept.size sv))
      · go_simp
        obtain ⟨wn, ew⟩ : ∃ zz, zz = wv.alloc (.cells #[.int .i64 0, .int .i64 0, .int .i64 0] 26) := ⟨_, rfl⟩
        have hb : Below wv.heap.size wv wn := by rw [ew]; exact (Below.refl _ _).alloc (Nat.le_refl _) _
        rw [← ew]
        have bnew : Blk wn wv.heap.size 26 #[.int .i64 0, .int .i64 0, .int .i64 0] := by rw [ew]; exact heap_alloc_new _ _
        have sn : (fun W => Kept (fun g => False) wd W) wn := Kept.next sv (kept_below (fun _ => False) hb) (fun _ h => h.elim)
        refine hK.out _ _ sn (fun hh => ?_)
        clear hh hK K
        try simp only [Act.put, List.setIfInBounds_toArray, List.set_cons_zero, List.set_cons_succ]
        exact of_G HG.out (st_13 wn wv.heap.size sn (b1v.on hb) (b2v.on hb) (b3v.on hb) (kkv.trans (hb.mono kkv.size)) bnew (Kept.size sv))
      · go_simp
        obtain ⟨wn, ew⟩ : ∃ zz, zz = wv.alloc (.cells #[.int .i64 0, .int .i64 0, .int .i64 0] 26) := ⟨_, rfl⟩
        have hb : Below wv.heap.size wv wn := by rw [ew]; exact (Below.refl _ _).alloc (Nat.le_refl _) _
        rw [← ew]
        have bnew : Blk wn wv.heap.size 26 #[.int .i64 0, .int .i64 0, .int .i64 0] := by rw [ew]; exact heap_alloc_new _ _
        have sn : (fun W => Kept (fun g => False) wd W) wn := Kept.next sv (kept_below (fun _ => False) hb) (fun _ h => h.elim)
        refine hK.out _ _ sn (fun hh => ?_)
        clear hh hK K
        try simp only [Act.put, List.setIfInBounds_toArray, List.set_cons_zero, List.set_cons_succ]
        exact of_G HG.out (st_14 wn wv.heap.size sn (b1v.on hb) (b2v.on hb) (b3v.on hb) (kkv.trans (hb.mono kkv.size)) bnew (Kept.size sv))
    exact st_0 wd kS b1 b2 b3 kk
  case rest =>
    clear kk b1 b2 b3
    obtain ⟨p4, p5, p6, rfl, rfl, rfl, kk, b1, b2, b3, b4, b5, b6⟩ := hcut
    have h13 : p1 ≠ p3 := b1.ne b3 (by decide)
    have h23 : p2 ≠ p3 := b2.ne b3 (by decide)
    have h43 : p4 ≠ p3 := b4.ne b3 (by decide)
    have h53 : p5 ≠ p3 := b5.ne b3 (by decide)
    have h63 : p6 ≠ p3 := b6.ne b3 (by decide)
    obtain ⟨⟨a0, a1, a2⟩, ea⟩ : ∃ u, regI x i.a = u := ⟨_, rfl⟩
    obtain ⟨⟨u0, u1, u2⟩, eu⟩ : ∃ u, regI x i.b = u := ⟨_, rfl⟩
    obtain ⟨⟨v0, v1, v2⟩, ev⟩ : ∃ u, regI x i.c = u := ⟨_, rfl⟩
    rw [ea] at b4
    rw [eu] at b5
    rw [ev] at b6
    have HR := Lib.hid (And.intro ea (And.intro eu ev))
    clear ea eu ev
    replace b4 : Blk wc p4 26 #[.int .i64 a0, .int .i64 a1, .int .i64 a2] := b4
    replace b5 : Blk wc p5 26 #[.int .i64 u0, .int .i64 u1, .int .i64 u2] := b5
    replace b6 : Blk wc p6 26 #[.int .i64 v0, .int .i64 v1, .int .i64 v2] := b6
    by_cases c17 : i.op = 17
    · have t17 : (i.op == 17) = true := by rw [c17]; rfl
      have eF : F = ⟨5, noP, noW, noW, noW, 0⟩ := by
        rw [← HF.out]
        unfold actI
        obtain ⟨ea, eu, ev⟩ := HR.out
        simp [ea, eu, ev, c17]
      subst eF
      clear c17
      have c60_2_0 : wc.cell? ⟨p2, 0, none⟩ = some (.int .i64 i.op) := b2.cell 0
      have bq4 := b4
      have bq5 := b5
      have bq6 := b6
      obtain ⟨W61, es61⟩ : ∃ W, wc.setRow p3 #[.int .i64 5, .int .i64 0, .int .i64 0, .int .i64 0, .int .i64 0, .int .i64 0, .int .i64 0, .int .i64 0, .int .i64 0, .int .i64 0, .int .i64 0, .int .i64 0, .int .i64 0, .int .i64 0] = W := ⟨_, rfl⟩
      have bo3 := b3
      replace b1 := row_far b1 es61 (by omega)
      replace b2 := row_far b2 es61 (by omega)
      replace b4 := row_far b4 es61 (by omega)
      replace b5 := row_far b5 es61 (by omega)
      replace b6 := row_far b6 es61 (by omega)
      replace b3 : Blk W61 p3 40 #[.int .i64 5, .int .i64 0, .int .i64 0, .int .i64 0, .int .i64 0, .int .i64 0, .int .i64 0, .int .i64 0, .int .i64 0, .int .i64 0, .int .i64 0, .int .i64 0, .int .i64 0, .int .i64 0] := row_named b3 es61
      replace kk := kk.trans (row_below es61 hp3 kk.size)
      go_wp2_with (first | ((with_reducible refine at_load 26 (.tmp 9) ?_); refine wpList_load_row rfl 26 (.tmp 9) rfl p4 rfl 26 #[.int .i64 a0, .int .i64 a1, .int .i64 a2] (0, 0) _ bq4 Tryz.underlying26 rfl size26 ?_) | ((with_reducible refine at_load 26 (.tmp 10) ?_); refine wpList_load_row rfl 26 (.tmp 10) rfl p5 rfl 26 #[.int .i64 u0, .int .i64 u1, .int .i64 u2] (0, 0) _ bq5 Tryz.underlying26 rfl size26 ?_) | ((with_reducible refine at_load 26 (.tmp 11) ?_); refine wpList_load_row rfl 26 (.tmp 11) rfl p6 rfl 26 #[.int .i64 v0, .int .i64 v1, .int .i64 v2] (0, 0) _ bq6 Tryz.underlying26 rfl size26 ?_) | ((with_reducible refine at_store 40 (.tmp 8) (.tmp 28) ?_); refine wpList_store_row rfl 40 (.tmp 8) (.tmp 28) rfl p3 #[.int .i64 5, .int .i64 0, .int .i64 0, .int .i64 0, .int .i64 0, .int .i64 0, .int .i64 0, .int .i64 0, .int .i64 0, .int .i64 0, .int .i64 0, .int .i64 0, .int .i64 0, .int .i64 0] rfl rfl 40 #[.int .i64 0, .int .i64 0, .int .i64 0, .int .i64 0, .int .i64 0, .int .i64 0, .int .i64 0, .int .i64 0, .int .i64 0, .int .i64 0, .int .i64 0, .int .i64 0, .int .i64 0, .int .i64 0] bo3 size40 rfl (by simp [Value.oneCell']) ?_; rw [es61]))
      refine bodyPost_ret (results_cell_row (cs := #[.int .i64 5, .int .i64 0, .int .i64 0, .int .i64 0, .int .i64 0, .int .i64 0, .int .i64 0, .int .i64 0, .int .i64 0, .int .i64 0, .int .i64 0, .int .i64 0, .int .i64 0, .int .i64 0]) rfl _ _ p3 40 (0, 0) _ rfl b3 Tryz.underlying40 rfl size40) rfl ?_
      exact ⟨rfl, kk⟩
    by_cases c11 : i.op = 11
    · have t17 : (i.op == 17) = false := beq_eq_false_iff_ne.2 c17
      have t11 : (i.op == 11) = true := by rw [c11]; rfl
      have eF : F = ⟨2, ⟨1, i.b, 0⟩, noW, noW, noW, 0⟩ := by
        rw [← HF.out]
        unfold actI
        obtain ⟨ea, eu, ev⟩ := HR.out
        simp [ea, eu, ev, c11]
      subst eF
      clear c17 c11
      have c60_2_0 : wc.cell? ⟨p2, 0, none⟩ = some (.int .i64 i.op) := b2.cell 0
      have c60_2_2 : wc.cell? ⟨p2, 2, none⟩ = some (.int .i64 i.b) := b2.cell 2
      have bq4 := b4
      have bq5 := b5
      have bq6 := b6
      obtain ⟨W61, es61⟩ : ∃ W, wc.setRow p3 #[.int .i64 2, .int .i64 1, .int .i64 i.b, .int .i64 0, .int .i64 0, .int .i64 0, .int .i64 0, .int .i64 0, .int .i64 0, .int .i64 0, .int .i64 0, .int .i64 0, .int .i64 0, .int .i64 0] = W := ⟨_, rfl⟩
      have bo3 := b3
      replace b1 := row_far b1 es61 (by omega)
      replace b2 := row_far b2 es61 (by omega)
      replace b4 := row_far b4 es61 (by omega)
      replace b5 := row_far b5 es61 (by omega)
      replace b6 := row_far b6 es61 (by omega)
      replace b3 : Blk W61 p3 40 #[.int .i64 2, .int .i64 1, .int .i64 i.b, .int .i64 0, .int .i64 0, .int .i64 0, .int .i64 0, .int .i64 0, .int .i64 0, .int .i64 0, .int .i64 0, .int .i64 0, .int .i64 0, .int .i64 0] := row_named b3 es61
      replace kk := kk.trans (row_below es61 hp3 kk.size)
      go_wp2_with (first | ((with_reducible refine at_load 26 (.tmp 9) ?_); refine wpList_load_row rfl 26 (.tmp 9) rfl p4 rfl 26 #[.int .i64 a0, .int .i64 a1, .int .i64 a2] (0, 0) _ bq4 Tryz.underlying26 rfl size26 ?_) | ((with_reducible refine at_load 26 (.tmp 10) ?_); refine wpList_load_row rfl 26 (.tmp 10) rfl p5 rfl 26 #[.int .i64 u0, .int .i64 u1, .int .i64 u2] (0, 0) _ bq5 Tryz.underlying26 rfl size26 ?_) | ((with_reducible refine at_load 26 (.tmp 11) ?_); refine wpList_load_row rfl 26 (.tmp 11) rfl p6 rfl 26 #[.int .i64 v0, .int .i64 v1, .int .i64 v2] (0, 0) _ bq6 Tryz.underlying26 rfl size26 ?_) | ((with_reducible refine at_store 40 (.tmp 8) (.tmp 34) ?_); refine wpList_store_row rfl 40 (.tmp 8) (.tmp 34) rfl p3 #[.int .i64 2, .int .i64 1, .int .i64 i.b, .int .i64 0, .int .i64 0, .int .i64 0, .int .i64 0, .int .i64 0, .int .i64 0, .int .i64 0, .int .i64 0, .int .i64 0, .int .i64 0, .int .i64 0] rfl rfl 40 #[.int .i64 0, .int .i64 0, .int .i64 0, .int .i64 0, .int .i64 0, .int .i64 0, .int .i64 0, .int .i64 0, .int .i64 0, .int .i64 0, .int .i64 0, .int .i64 0, .int .i64 0, .int .i64 0] bo3 size40 rfl (by simp [Value.oneCell']) ?_; rw [es61]))
      refine bodyPost_ret (results_cell_row (cs := #[.int .i64 2, .int .i64 1, .int .i64 i.b, .int .i64 0, .int .i64 0, .int .i64 0, .int .i64 0, .int .i64 0, .int .i64 0, .int .i64 0, .int .i64 0, .int .i64 0, .int .i64 0, .int .i64 0]) rfl _ _ p3 40 (0, 0) _ rfl b3 Tryz.underlying40 rfl size40) rfl ?_
      exact ⟨rfl, kk⟩
    by_cases c23 : i.op = 23
    · have t17 : (i.op == 17) = false := beq_eq_false_iff_ne.2 c17
      have t11 : (i.op == 11) = false := beq_eq_false_iff_ne.2 c11
      have t23 : (i.op == 23) = true := by rw [c23]; rfl
      have eF : F = ⟨2, ⟨6, 0, 0⟩, noW, noW, noW, 0⟩ := by
        rw [← HF.out]
        unfold actI
        obtain ⟨ea, eu, ev⟩ := HR.out
        simp [ea, eu, ev, c23]
      subst eF
      clear c17 c11 c23
      have c60_2_0 : wc.cell? ⟨p2, 0, none⟩ = some (.int .i64 i.op) := b2.cell 0
      have bq4 := b4
      have bq5 := b5
      have bq6 := b6
      obtain ⟨W61, es61⟩ : ∃ W, wc.setRow p3 #[.int .i64 2, .int .i64 6, .int .i64 0, .int .i64 0, .int .i64 0, .int .i64 0, .int .i64 0, .int .i64 0, .int .i64 0, .int .i64 0, .int .i64 0, .int .i64 0, .int .i64 0, .int .i64 0] = W := ⟨_, rfl⟩
      have bo3 := b3
      replace b1 := row_far b1 es61 (by omega)
      replace b2 := row_far b2 es61 (by omega)
      replace b4 := row_far b4 es61 (by omega)
      replace b5 := row_far b5 es61 (by omega)
      replace b6 := row_far b6 es61 (by omega)
      replace b3 : Blk W61 p3 40 #[.int .i64 2, .int .i64 6, .int .i64 0, .int .i64 0, .int .i64 0, .int .i64 0, .int .i64 0, .int .i64 0, .int .i64 0, .int .i64 0, .int .i64 0, .int .i64 0, .int .i64 0, .int .i64 0] := row_named b3 es61
      replace kk := kk.trans (row_below es61 hp3 kk.size)
      go_wp2_with (first | ((with_reducible refine at_load 26 (.tmp 9) ?_); refine wpList_load_row rfl 26 (.tmp 9) rfl p4 rfl 26 #[.int .i64 a0, .int .i64 a1, .int .i64 a2] (0, 0) _ bq4 Tryz.underlying26 rfl size26 ?_) | ((with_reducible refine at_load 26 (.tmp 10) ?_); refine wpList_load_row rfl 26 (.tmp 10) rfl p5 rfl 26 #[.int .i64 u0, .int .i64 u1, .int .i64 u2] (0, 0) _ bq5 Tryz.underlying26 rfl size26 ?_) | ((with_reducible refine at_load 26 (.tmp 11) ?_); refine wpList_load_row rfl 26 (.tmp 11) rfl p6 rfl 26 #[.int .i64 v0, .int .i64 v1, .int .i64 v2] (0, 0) _ bq6 Tryz.underlying26 rfl size26 ?_) | ((with_reducible refine at_store 40 (.tmp 8) (.tmp 38) ?_); refine wpList_store_row rfl 40 (.tmp 8) (.tmp 38) rfl p3 #[.int .i64 2, .int .i64 6, .int .i64 0, .int .i64 0, .int .i64 0, .int .i64 0, .int .i64 0, .int .i64 0, .int .i64 0, .int .i64 0, .int .i64 0, .int .i64 0, .int .i64 0, .int .i64 0] rfl rfl 40 #[.int .i64 0, .int .i64 0, .int .i64 0, .int .i64 0, .int .i64 0, .int .i64 0, .int .i64 0, .int .i64 0, .int .i64 0, .int .i64 0, .int .i64 0, .int .i64 0, .int .i64 0, .int .i64 0] bo3 size40 rfl (by simp [Value.oneCell']) ?_; rw [es61]))
      refine bodyPost_ret (results_cell_row (cs := #[.int .i64 2, .int .i64 6, .int .i64 0, .int .i64 0, .int .i64 0, .int .i64 0, .int .i64 0, .int .i64 0, .int .i64 0, .int .i64 0, .int .i64 0, .int .i64 0, .int .i64 0, .int .i64 0]) rfl _ _ p3 40 (0, 0) _ rfl b3 Tryz.underlying40 rfl size40) rfl ?_
      exact ⟨rfl, kk⟩
    by_cases c14 : i.op = 14
    · have t17 : (i.op == 17) = false := beq_eq_false_iff_ne.2 c17
      have t11 : (i.op == 11) = false := beq_eq_false_iff_ne.2 c11
      have t23 : (i.op == 23) = false := beq_eq_false_iff_ne.2 c23
      have t14 : (i.op == 14) = true := by rw [c14]; rfl
      obtain ⟨⟨y0, y1, y2⟩, ey⟩ : ∃ y, thrP ⟨u0, u1, u2⟩ i.n = y := ⟨_, rfl⟩
      have eF : F = ⟨2, ⟨y0, y1, y2⟩, ⟨u0, u1, u2⟩, noW, noW, u2⟩ := by
        rw [← HF.out]
        unfold actI
        obtain ⟨ea, eu, ev⟩ := HR.out
        simp [ea, eu, ev, c14, ey]
      subst eF
      clear c17 c11 c23 c14
      have d1 : ∀ W, Calls Tryz.prog 28 #[.agg #[.int .i64 u0, .int .i64 u1, .int .i64 u2], .int .i64 i.n] W fun e w' => e = .returned (.agg #[.int .i64 y0, .int .i64 y1, .int .i64 y2]) ∧ Below W.heap.size W w' := fun W => by have := rthrough_any ⟨u0, u1, u2⟩ i.n W; rw [ey] at this; exact this
      clear ey
      have c60_2_0 : wc.cell? ⟨p2, 0, none⟩ = some (.int .i64 i.op) := b2.cell 0
      go_wp2_with fail
      clear c60_2_0
      obtain ⟨wd, ed⟩ : ∃ W, wc.drew = W := ⟨_, rfl⟩
      have hd : Below wc.heap.size wc wd := by rw [← ed]; exact (Below.refl _ _).drew
      replace b1 := b1.on hd
      replace b2 := b2.on hd
      replace b4 := b4.on hd
      replace b5 := b5.on hd
      replace b6 := b6.on hd
      replace b3 := b3.on hd
      replace kk := kk.trans (hd.mono kk.size)
      clear hd
      have kS : Kept (fun g => g = p3) wd wd := Kept.refl _ _
      have tS : ∀ W, Kept (fun g => g = p3) wd W → W.cell? ⟨p2, 4, none⟩ = some (.int .i64 i.n) ∧ W.cell? ⟨p5, 2, none⟩ = some (.int .i64 u2) := fun W hW => ⟨(b2.kept hW h23).cell 4, (b5.kept hW h53).cell 2⟩
      refine wp_region_noPanic ?_
      refine wp_region_held_drew (S := (fun W => Kept (fun g => g = p3) wd W)) (by kernel_rfl) (by rw [ed]; exact kS) (fun hHeld => ?_)
      rw [ed] at hHeld ⊢
      refine wpAnyH_take (i := 0) (oi := ⟨some 41, _, _, _, _, _⟩) (v := .agg (List.toArray ([.int .i64 u0, .int .i64 u1, .int .i64 u2]))) rfl (by kernel_rfl) (by kernel_rfl) (by kernel_rfl) (fun _ _ _ h => h) (yieldsIf_load_mid (by rfl) 26 (.tmp 10) rfl p5 (0) rfl ([.int .i64 u0, .int .i64 u1, .int .i64 u2]) _ (fun W hW => range_part (b5.kept hW h53) 0 [.int .i64 u0, .int .i64 u1, .int .i64 u2] rfl) Tryz.underlying26 rfl size26) (by assumption) ?_
      try simp only [Act.put, List.setIfInBounds_toArray, List.set_cons_zero, List.set_cons_succ]
      refine wpAnyH_take (i := 1) (oi := ⟨some 42, _, _, _, _, _⟩) (v := ?_) rfl (by kernel_rfl) (by kernel_rfl) (by kernel_rfl) (fun _ _ _ h => h) (Or.inl ⟨by rfl, ?_⟩) (by assumption) ?_
      rotate_left 1
      · (intro W hSw; go_simp <;> with_reducible rfl)
      try simp only [Act.put, List.setIfInBounds_toArray, List.set_cons_zero, List.set_cons_succ]
      refine wpAnyH_take (i := 2) (oi := ⟨some 43, _, _, _, _, _⟩) (v := ?_) rfl (by kernel_rfl) (by kernel_rfl) (by kernel_rfl) (fun _ _ _ h => h) (Or.inl ⟨by rfl, ?_⟩) (by assumption) ?_
      rotate_left 1
      · (intro W hSw; obtain ⟨q0, q1⟩ := tS W hSw; go_simp <;> with_reducible rfl)
      try simp only [Act.put, List.setIfInBounds_toArray, List.set_cons_zero, List.set_cons_succ]
      refine wpAnyH_take (i := 4) (oi := ⟨some 45, _, _, _, _, _⟩) (v := .agg (List.toArray ([.int .i64 u0, .int .i64 u1, .int .i64 u2]))) rfl (by kernel_rfl) (by kernel_rfl) (by kernel_rfl) (fun _ _ _ h => h) (yieldsIf_load_mid (by rfl) 26 (.tmp 10) rfl p5 (0) rfl ([.int .i64 u0, .int .i64 u1, .int .i64 u2]) _ (fun W hW => range_part (b5.kept hW h53) 0 [.int .i64 u0, .int .i64 u1, .int .i64 u2] rfl) Tryz.underlying26 rfl size26) (by assumption) ?_
      try simp only [Act.put, List.setIfInBounds_toArray, List.set_cons_zero, List.set_cons_succ]
      refine wpAnyH_take (i := 5) (oi := ⟨some 46, _, _, _, _, _⟩) (v := ?_) rfl (by kernel_rfl) (by kernel_rfl) (by kernel_rfl) (fun _ _ _ h => h) (Or.inl ⟨by rfl, ?_⟩) (by assumption) ?_
      rotate_left 1
      · (intro W hSw; go_simp <;> with_reducible rfl)
      try simp only [Act.put, List.setIfInBounds_toArray, List.set_cons_zero, List.set_cons_succ]
      refine wpAnyH_take (i := 6) (oi := ⟨some 47, _, _, _, _, _⟩) (v := ?_) rfl (by kernel_rfl) (by kernel_rfl) (by kernel_rfl) (fun _ _ _ h => h) (Or.inl ⟨by rfl, ?_⟩) (by assumption) ?_
      rotate_left 1
      · (intro W hSw; obtain ⟨q0, q1⟩ := tS W hSw; go_simp <;> with_reducible rfl)
      try simp only [Act.put, List.setIfInBounds_toArray, List.set_cons_zero, List.set_cons_succ]
      refine wpAnyH_ready (rs := [3]) (by kernel_rfl) (by simp) ?_
      refine AllReadyH.cons (o := ⟨some 44, _, _, _, _, _⟩) rfl (fun K hK => ?_) AllReadyH.nil
      go_simp
      refine (d1 wd).mono ?_
      rintro e w1 ⟨rfl, hb1⟩
      have b3_1 := b3.on hb1
      have kk_1 := kk.trans (hb1.mono kk.size)
      have S1 : (fun W => Kept (fun g => g = p3) wd W) w1 := Kept.next kS (kept_below (fun _ => False) hb1) (fun _ h => h.elim)
      refine hK.out _ _ S1 (fun h1 => ?_)
      clear hHeld hK K
      try simp only [Act.put, List.setIfInBounds_toArray, List.set_cons_zero, List.set_cons_succ]
      refine wpAnyH_take (i := 7) (oi := ⟨some 48, _, _, _, _, _⟩) (v := ?_) rfl (by kernel_rfl) (by kernel_rfl) (by kernel_rfl) (fun _ _ _ h => h) (Or.inl ⟨by rfl, ?_⟩) (by assumption) ?_
      rotate_left 1
      · (intro W hSw; go_simp <;> with_reducible rfl)
      try simp only [Act.put, List.setIfInBounds_toArray, List.set_cons_zero, List.set_cons_succ]
      refine wpAnyH_ready (rs := [8]) (by kernel_rfl) (by simp) ?_
      refine AllReadyH.cons (o := ⟨none, _, _, _, _, _⟩) rfl (fun K hK => ?_) AllReadyH.nil
      rw [if_pos (by rfl)]
      refine wp_store_row 40 (.tmp 8) (.tmp 48) rfl p3 #[.int .i64 2, .int .i64 y0, .int .i64 y1, .int .i64 y2, .int .i64 u0, .int .i64 u1, .int .i64 u2, .int .i64 0, .int .i64 0, .int .i64 0, .int .i64 0, .int .i64 0, .int .i64 0, .int .i64 u2] rfl rfl 40 #[.int .i64 0, .int .i64 0, .int .i64 0, .int .i64 0, .int .i64 0, .int .i64 0, .int .i64 0, .int .i64 0, .int .i64 0, .int .i64 0, .int .i64 0, .int .i64 0, .int .i64 0, .int .i64 0] b3_1 size40 rfl (by simp [Value.oneCell']) ?_
      refine hK.out _ _ (Kept.next S1 (kept_row _ p3 _) (fun g h => .inl h)) (fun h2 => ?_)
      clear h1 hK K
      have S2 : Kept (fun g => g = p3) wd (w1.setRow p3 #[.int .i64 2, .int .i64 y0, .int .i64 y1, .int .i64 y2, .int .i64 u0, .int .i64 u1, .int .i64 u2, .int .i64 0, .int .i64 0, .int .i64 0, .int .i64 0, .int .i64 0, .int .i64 0, .int .i64 u2]) := Kept.next S1 (kept_row _ p3 _) (fun g h => .inl h)
      have b3_2 : Blk (w1.setRow p3 #[.int .i64 2, .int .i64 y0, .int .i64 y1, .int .i64 y2, .int .i64 u0, .int .i64 u1, .int .i64 u2, .int .i64 0, .int .i64 0, .int .i64 0, .int .i64 0, .int .i64 0, .int .i64 0, .int .i64 u2]) p3 40 #[.int .i64 2, .int .i64 y0, .int .i64 y1, .int .i64 y2, .int .i64 u0, .int .i64 u1, .int .i64 u2, .int .i64 0, .int .i64 0, .int .i64 0, .int .i64 0, .int .i64 0, .int .i64 0, .int .i64 u2] := row_named b3_1 rfl
      have kk_2 := kk_1.trans (row_below (W := (w1.setRow p3 #[.int .i64 2, .int .i64 y0, .int .i64 y1, .int .i64 y2, .int .i64 u0, .int .i64 u1, .int .i64 u2, .int .i64 0, .int .i64 0, .int .i64 0, .int .i64 0, .int .i64 0, .int .i64 0, .int .i64 u2])) rfl hp3 kk_1.size)
      try simp only [Act.put]
      refine wpAnyH_done (by kernel_rfl) ?_ _
      refine NoPanic.normal ?_
      go_wp2_with fail
      refine bodyPost_ret (results_cell_row (cs := #[.int .i64 2, .int .i64 y0, .int .i64 y1, .int .i64 y2, .int .i64 u0, .int .i64 u1, .int .i64 u2, .int .i64 0, .int .i64 0, .int .i64 0, .int .i64 0, .int .i64 0, .int .i64 0, .int .i64 u2]) rfl _ _ p3 40 (0, 0) _ rfl b3_2 Tryz.underlying40 rfl size40) rfl ?_
      exact ⟨rfl, kk_2⟩
    by_cases c13 : i.op = 13
    · have t17 : (i.op == 17) = false := beq_eq_false_iff_ne.2 c17
      have t11 : (i.op == 11) = false := beq_eq_false_iff_ne.2 c11
      have t23 : (i.op == 23) = false := beq_eq_false_iff_ne.2 c23
      have t14 : (i.op == 14) = false := beq_eq_false_iff_ne.2 c14
      have t13 : (i.op == 13) = true := by rw [c13]; rfl
      have eF : F = ⟨4, ⟨1, i.n, 0⟩, noW, ⟨u0, u1, u2⟩, ⟨v0, v1, v2⟩, 0⟩ := by
        rw [← HF.out]
        unfold actI
        obtain ⟨ea, eu, ev⟩ := HR.out
        simp [ea, eu, ev, c13]
      subst eF
      clear c17 c11 c23 c14 c13
      have c60_2_0 : wc.cell? ⟨p2, 0, none⟩ = some (.int .i64 i.op) := b2.cell 0
      have c60_2_4 : wc.cell? ⟨p2, 4, none⟩ = some (.int .i64 i.n) := b2.cell 4
      have bq4 := b4
      have bq5 := b5
      have bq6 := b6
      obtain ⟨W61, es61⟩ : ∃ W, wc.setRow p3 #[.int .i64 4, .int .i64 1, .int .i64 i.n, .int .i64 0, .int .i64 0, .int .i64 0, .int .i64 0, .int .i64 u0, .int .i64 u1, .int .i64 u2, .int .i64 v0, .int .i64 v1, .int .i64 v2, .int .i64 0] = W := ⟨_, rfl⟩
      have bo3 := b3
      replace b1 := row_far b1 es61 (by omega)
      replace b2 := row_far b2 es61 (by omega)
      replace b4 := row_far b4 es61 (by omega)
      replace b5 := row_far b5 es61 (by omega)
      replace b6 := row_far b6 es61 (by omega)
      replace b3 : Blk W61 p3 40 #[.int .i64 4, .int .i64 1, .int .i64 i.n, .int .i64 0, .int .i64 0, .int .i64 0, .int .i64 0, .int .i64 u0, .int .i64 u1, .int .i64 u2, .int .i64 v0, .int .i64 v1, .int .i64 v2, .int .i64 0] := row_named b3 es61
      replace kk := kk.trans (row_below es61 hp3 kk.size)
      go_wp2_with (first | ((with_reducible refine at_load 26 (.tmp 9) ?_); refine wpList_load_row rfl 26 (.tmp 9) rfl p4 rfl 26 #[.int .i64 a0, .int .i64 a1, .int .i64 a2] (0, 0) _ bq4 Tryz.underlying26 rfl size26 ?_) | ((with_reducible refine at_load 26 (.tmp 10) ?_); refine wpList_load_row rfl 26 (.tmp 10) rfl p5 rfl 26 #[.int .i64 u0, .int .i64 u1, .int .i64 u2] (0, 0) _ bq5 Tryz.underlying26 rfl size26 ?_) | ((with_reducible refine at_load 26 (.tmp 11) ?_); refine wpList_load_row rfl 26 (.tmp 11) rfl p6 rfl 26 #[.int .i64 v0, .int .i64 v1, .int .i64 v2] (0, 0) _ bq6 Tryz.underlying26 rfl size26 ?_) | ((with_reducible refine at_store 40 (.tmp 8) (.tmp 56) ?_); refine wpList_store_row rfl 40 (.tmp 8) (.tmp 56) rfl p3 #[.int .i64 4, .int .i64 1, .int .i64 i.n, .int .i64 0, .int .i64 0, .int .i64 0, .int .i64 0, .int .i64 u0, .int .i64 u1, .int .i64 u2, .int .i64 v0, .int .i64 v1, .int .i64 v2, .int .i64 0] rfl rfl 40 #[.int .i64 0, .int .i64 0, .int .i64 0, .int .i64 0, .int .i64 0, .int .i64 0, .int .i64 0, .int .i64 0, .int .i64 0, .int .i64 0, .int .i64 0, .int .i64 0, .int .i64 0, .int .i64 0] bo3 size40 rfl (by simp [Value.oneCell']) ?_; rw [es61]))
      refine bodyPost_ret (results_cell_row (cs := #[.int .i64 4, .int .i64 1, .int .i64 i.n, .int .i64 0, .int .i64 0, .int .i64 0, .int .i64 0, .int .i64 u0, .int .i64 u1, .int .i64 u2, .int .i64 v0, .int .i64 v1, .int .i64 v2, .int .i64 0]) rfl _ _ p3 40 (0, 0) _ rfl b3 Tryz.underlying40 rfl size40) rfl ?_
      exact ⟨rfl, kk⟩
    by_cases c16 : i.op = 16
    · have t17 : (i.op == 17) = false := beq_eq_false_iff_ne.2 c17
      have t11 : (i.op == 11) = false := beq_eq_false_iff_ne.2 c11
      have t23 : (i.op == 23) = false := beq_eq_false_iff_ne.2 c23
      have t14 : (i.op == 14) = false := beq_eq_false_iff_ne.2 c14
      have t13 : (i.op == 13) = false := beq_eq_false_iff_ne.2 c13
      have t16 : (i.op == 16) = true := by rw [c16]; rfl
      obtain ⟨⟨y0, y1, y2⟩, ey⟩ : ∃ y, thrP ⟨a0, a1, a2⟩ i.n = y := ⟨_, rfl⟩
      have eF : F = ⟨4, ⟨y0, y1, y2⟩, ⟨a0, a1, a2⟩, ⟨u0, u1, u2⟩, ⟨v0, v1, v2⟩, a2⟩ := by
        rw [← HF.out]
        unfold actI
        obtain ⟨ea, eu, ev⟩ := HR.out
        simp [ea, eu, ev, c16, ey]
      subst eF
      clear c17 c11 c23 c14 c13 c16
      have d1 : ∀ W, Calls Tryz.prog 28 #[.agg #[.int .i64 a0, .int .i64 a1, .int .i64 a2], .int .i64 i.n] W fun e w' => e = .returned (.agg #[.int .i64 y0, .int .i64 y1, .int .i64 y2]) ∧ Below W.heap.size W w' := fun W => by have := rthrough_any ⟨a0, a1, a2⟩ i.n W; rw [ey] at this; exact this
      clear ey
      have c60_2_0 : wc.cell? ⟨p2, 0, none⟩ = some (.int .i64 i.op) := b2.cell 0
      go_wp2_with fail
      clear c60_2_0
      obtain ⟨wd, ed⟩ : ∃ W, wc.drew = W := ⟨_, rfl⟩
      have hd : Below wc.heap.size wc wd := by rw [← ed]; exact (Below.refl _ _).drew
      replace b1 := b1.on hd
      replace b2 := b2.on hd
      replace b4 := b4.on hd
      replace b5 := b5.on hd
      replace b6 := b6.on hd
      replace b3 := b3.on hd
      replace kk := kk.trans (hd.mono kk.size)
      clear hd
      have kS : Kept (fun g => g = p3) wd wd := Kept.refl _ _
      have tS : ∀ W, Kept (fun g => g = p3) wd W → W.cell? ⟨p2, 4, none⟩ = some (.int .i64 i.n) ∧ W.cell? ⟨p4, 2, none⟩ = some (.int .i64 a2) := fun W hW => ⟨(b2.kept hW h23).cell 4, (b4.kept hW h43).cell 2⟩
      refine wp_region_noPanic ?_
      refine wp_region_held_drew (S := (fun W => Kept (fun g => g = p3) wd W)) (by kernel_rfl) (by rw [ed]; exact kS) (fun hHeld => ?_)
      rw [ed] at hHeld ⊢
      refine wpAnyH_take (i := 0) (oi := ⟨some 59, _, _, _, _, _⟩) (v := .agg (List.toArray ([.int .i64 a0, .int .i64 a1, .int .i64 a2]))) rfl (by kernel_rfl) (by kernel_rfl) (by kernel_rfl) (fun _ _ _ h => h) (yieldsIf_load_mid (by rfl) 26 (.tmp 9) rfl p4 (0) rfl ([.int .i64 a0, .int .i64 a1, .int .i64 a2]) _ (fun W hW => range_part (b4.kept hW h43) 0 [.int .i64 a0, .int .i64 a1, .int .i64 a2] rfl) Tryz.underlying26 rfl size26) (by assumption) ?_
      try simp only [Act.put, List.setIfInBounds_toArray, List.set_cons_zero, List.set_cons_succ]
      refine wpAnyH_take (i := 1) (oi := ⟨some 60, _, _, _, _, _⟩) (v := ?_) rfl (by kernel_rfl) (by kernel_rfl) (by kernel_rfl) (fun _ _ _ h => h) (Or.inl ⟨by rfl, ?_⟩) (by assumption) ?_
      rotate_left 1
      · (intro W hSw; go_simp <;> with_reducible rfl)
      try simp only [Act.put, List.setIfInBounds_toArray, List.set_cons_zero, List.set_cons_succ]
      refine wpAnyH_take (i := 2) (oi := ⟨some 61, _, _, _, _, _⟩) (v := ?_) rfl (by kernel_rfl) (by kernel_rfl) (by kernel_rfl) (fun _ _ _ h => h) (Or.inl ⟨by rfl, ?_⟩) (by assumption) ?_
      rotate_left 1
      · (intro W hSw; obtain ⟨q0, q1⟩ := tS W hSw; go_simp <;> with_reducible rfl)
      try simp only [Act.put, List.setIfInBounds_toArray, List.set_cons_zero, List.set_cons_succ]
      refine wpAnyH_take (i := 4) (oi := ⟨some 63, _, _, _, _, _⟩) (v := .agg (List.toArray ([.int .i64 a0, .int .i64 a1, .int .i64 a2]))) rfl (by kernel_rfl) (by kernel_rfl) (by kernel_rfl) (fun _ _ _ h => h) (yieldsIf_load_mid (by rfl) 26 (.tmp 9) rfl p4 (0) rfl ([.int .i64 a0, .int .i64 a1, .int .i64 a2]) _ (fun W hW => range_part (b4.kept hW h43) 0 [.int .i64 a0, .int .i64 a1, .int .i64 a2] rfl) Tryz.underlying26 rfl size26) (by assumption) ?_
      try simp only [Act.put, List.setIfInBounds_toArray, List.set_cons_zero, List.set_cons_succ]
      refine wpAnyH_take (i := 5) (oi := ⟨some 64, _, _, _, _, _⟩) (v := .agg (List.toArray ([.int .i64 u0, .int .i64 u1, .int .i64 u2]))) rfl (by kernel_rfl) (by kernel_rfl) (by kernel_rfl) (fun _ _ _ h => h) (yieldsIf_load_mid (by rfl) 26 (.tmp 10) rfl p5 (0) rfl ([.int .i64 u0, .int .i64 u1, .int .i64 u2]) _ (fun W hW => range_part (b5.kept hW h53) 0 [.int .i64 u0, .int .i64 u1, .int .i64 u2] rfl) Tryz.underlying26 rfl size26) (by assumption) ?_
      try simp only [Act.put, List.setIfInBounds_toArray, List.set_cons_zero, List.set_cons_succ]
      refine wpAnyH_take (i := 6) (oi := ⟨some 65, _, _, _, _, _⟩) (v := .agg (List.toArray ([.int .i64 v0, .int .i64 v1, .int .i64 v2]))) rfl (by kernel_rfl) (by kernel_rfl) (by kernel_rfl) (fun _ _ _ h => h) (yieldsIf_load_mid (by rfl) 26 (.tmp 11) rfl p6 (0) rfl ([.int .i64 v0, .int .i64 v1, .int .i64 v2]) _ (fun W hW => range_part (b6.kept hW h63) 0 [.int .i64 v0, .int .i64 v1, .int .i64 v2] rfl) Tryz.underlying26 rfl size26) (by assumption) ?_
      try simp only [Act.put, List.setIfInBounds_toArray, List.set_cons_zero, List.set_cons_succ]
      refine wpAnyH_take (i := 7) (oi := ⟨some 66, _, _, _, _, _⟩) (v := ?_) rfl (by kernel_rfl) (by kernel_rfl) (by kernel_rfl) (fun _ _ _ h => h) (Or.inl ⟨by rfl, ?_⟩) (by assumption) ?_
      rotate_left 1
      · (intro W hSw; go_simp <;> with_reducible rfl)
      try simp only [Act.put, List.setIfInBounds_toArray, List.set_cons_zero, List.set_cons_succ]
      refine wpAnyH_take (i := 8) (oi := ⟨some 67, _, _, _, _, _⟩) (v := ?_) rfl (by kernel_rfl) (by kernel_rfl) (by kernel_rfl) (fun _ _ _ h => h) (Or.inl ⟨by rfl, ?_⟩) (by assumption) ?_
      rotate_left 1
      · (intro W hSw; obtain ⟨q0, q1⟩ := tS W hSw; go_simp <;> with_reducible rfl)
      try simp only [Act.put, List.setIfInBounds_toArray, List.set_cons_zero, List.set_cons_succ]
      refine wpAnyH_ready (rs := [3]) (by kernel_rfl) (by simp) ?_
      refine AllReadyH.cons (o := ⟨some 62, _, _, _, _, _⟩) rfl (fun K hK => ?_) AllReadyH.nil
      go_simp
      refine (d1 wd).mono ?_
      rintro e w1 ⟨rfl, hb1⟩
      have b3_1 := b3.on hb1
      have kk_1 := kk.trans (hb1.mono kk.size)
      have S1 : (fun W => Kept (fun g => g = p3) wd W) w1 := Kept.next kS (kept_below (fun _ => False) hb1) (fun _ h => h.elim)
      refine hK.out _ _ S1 (fun h1 => ?_)
      clear hHeld hK K
      try simp only [Act.put, List.setIfInBounds_toArray, List.set_cons_zero, List.set_cons_succ]
      refine wpAnyH_take (i := 9) (oi := ⟨some 68, _, _, _, _, _⟩) (v := ?_) rfl (by kernel_rfl) (by kernel_rfl) (by kernel_rfl) (fun _ _ _ h => h) (Or.inl ⟨by rfl, ?_⟩) (by assumption) ?_
      rotate_left 1
      · (intro W hSw; go_simp <;> with_reducible rfl)
      try simp only [Act.put, List.setIfInBounds_toArray, List.set_cons_zero, List.set_cons_succ]
      refine wpAnyH_ready (rs := [10]) (by kernel_rfl) (by simp) ?_
      refine AllReadyH.cons (o := ⟨none, _, _, _, _, _⟩) rfl (fun K hK => ?_) AllReadyH.nil
      rw [if_pos (by rfl)]
      refine wp_store_row 40 (.tmp 8) (.tmp 68) rfl p3 #[.int .i64 4, .int .i64 y0, .int .i64 y1, .int .i64 y2, .int .i64 a0, .int .i64 a1, .int .i64 a2, .int .i64 u0, .int .i64 u1, .int .i64 u2, .int .i64 v0, .int .i64 v1, .int .i64 v2, .int .i64 a2] rfl rfl 40 #[.int .i64 0, .int .i64 0, .int .i64 0, .int .i64 0, .int .i64 0, .int .i64 0, .int .i64 0, .int .i64 0, .int .i64 0, .int .i64 0, .int .i64 0, .int .i64 0, .int .i64 0, .int .i64 0] b3_1 size40 rfl (by simp [Value.oneCell']) ?_
      refine hK.out _ _ (Kept.next S1 (kept_row _ p3 _) (fun g h => .inl h)) (fun h2 => ?_)
      clear h1 hK K
      have S2 : Kept (fun g => g = p3) wd (w1.setRow p3 #[.int .i64 4, .int .i64 y0, .int .i64 y1, .int .i64 y2, .int .i64 a0, .int .i64 a1, .int .i64 a2, .int .i64 u0, .int .i64 u1, .int .i64 u2, .int .i64 v0, .int .i64 v1, .int .i64 v2, .int .i64 a2]) := Kept.next S1 (kept_row _ p3 _) (fun g h => .inl h)
      have b3_2 : Blk (w1.setRow p3 #[.int .i64 4, .int .i64 y0, .int .i64 y1, .int .i64 y2, .int .i64 a0, .int .i64 a1, .int .i64 a2, .int .i64 u0, .int .i64 u1, .int .i64 u2, .int .i64 v0, .int .i64 v1, .int .i64 v2, .int .i64 a2]) p3 40 #[.int .i64 4, .int .i64 y0, .int .i64 y1, .int .i64 y2, .int .i64 a0, .int .i64 a1, .int .i64 a2, .int .i64 u0, .int .i64 u1, .int .i64 u2, .int .i64 v0, .int .i64 v1, .int .i64 v2, .int .i64 a2] := row_named b3_1 rfl
      have kk_2 := kk_1.trans (row_below (W := (w1.setRow p3 #[.int .i64 4, .int .i64 y0, .int .i64 y1, .int .i64 y2, .int .i64 a0, .int .i64 a1, .int .i64 a2, .int .i64 u0, .int .i64 u1, .int .i64 u2, .int .i64 v0, .int .i64 v1, .int .i64 v2, .int .i64 a2])) rfl hp3 kk_1.size)
      try simp only [Act.put]
      refine wpAnyH_done (by kernel_rfl) ?_ _
      refine NoPanic.normal ?_
      go_wp2_with fail
      refine bodyPost_ret (results_cell_row (cs := #[.int .i64 4, .int .i64 y0, .int .i64 y1, .int .i64 y2, .int .i64 a0, .int .i64 a1, .int .i64 a2, .int .i64 u0, .int .i64 u1, .int .i64 u2, .int .i64 v0, .int .i64 v1, .int .i64 v2, .int .i64 a2]) rfl _ _ p3 40 (0, 0) _ rfl b3_2 Tryz.underlying40 rfl size40) rfl ?_
      exact ⟨rfl, kk_2⟩
    by_cases c18 : i.op = 18
    · have t17 : (i.op == 17) = false := beq_eq_false_iff_ne.2 c17
      have t11 : (i.op == 11) = false := beq_eq_false_iff_ne.2 c11
      have t23 : (i.op == 23) = false := beq_eq_false_iff_ne.2 c23
      have t14 : (i.op == 14) = false := beq_eq_false_iff_ne.2 c14
      have t13 : (i.op == 13) = false := beq_eq_false_iff_ne.2 c13
      have t16 : (i.op == 16) = false := beq_eq_false_iff_ne.2 c16
      have t18 : (i.op == 18) = true := by rw [c18]; rfl
      have eF : F = ⟨6, noP, noW, noW, noW, 0⟩ := by
        rw [← HF.out]
        unfold actI
        obtain ⟨ea, eu, ev⟩ := HR.out
        simp [ea, eu, ev, c18]
      subst eF
      clear c17 c11 c23 c14 c13 c16 c18
      have c60_2_0 : wc.cell? ⟨p2, 0, none⟩ = some (.int .i64 i.op) := b2.cell 0
      have bq4 := b4
      have bq5 := b5
      have bq6 := b6
      obtain ⟨W61, es61⟩ : ∃ W, wc.setRow p3 #[.int .i64 6, .int .i64 0, .int .i64 0, .int .i64 0, .int .i64 0, .int .i64 0, .int .i64 0, .int .i64 0, .int .i64 0, .int .i64 0, .int .i64 0, .int .i64 0, .int .i64 0, .int .i64 0] = W := ⟨_, rfl⟩
      have bo3 := b3
      replace b1 := row_far b1 es61 (by omega)
      replace b2 := row_far b2 es61 (by omega)
      replace b4 := row_far b4 es61 (by omega)
      replace b5 := row_far b5 es61 (by omega)
      replace b6 := row_far b6 es61 (by omega)
      replace b3 : Blk W61 p3 40 #[.int .i64 6, .int .i64 0, .int .i64 0, .int .i64 0, .int .i64 0, .int .i64 0, .int .i64 0, .int .i64 0, .int .i64 0, .int .i64 0, .int .i64 0, .int .i64 0, .int .i64 0, .int .i64 0] := row_named b3 es61
      replace kk := kk.trans (row_below es61 hp3 kk.size)
      go_wp2_with (first | ((with_reducible refine at_load 26 (.tmp 9) ?_); refine wpList_load_row rfl 26 (.tmp 9) rfl p4 rfl 26 #[.int .i64 a0, .int .i64 a1, .int .i64 a2] (0, 0) _ bq4 Tryz.underlying26 rfl size26 ?_) | ((with_reducible refine at_load 26 (.tmp 10) ?_); refine wpList_load_row rfl 26 (.tmp 10) rfl p5 rfl 26 #[.int .i64 u0, .int .i64 u1, .int .i64 u2] (0, 0) _ bq5 Tryz.underlying26 rfl size26 ?_) | ((with_reducible refine at_load 26 (.tmp 11) ?_); refine wpList_load_row rfl 26 (.tmp 11) rfl p6 rfl 26 #[.int .i64 v0, .int .i64 v1, .int .i64 v2] (0, 0) _ bq6 Tryz.underlying26 rfl size26 ?_) | ((with_reducible refine at_store 40 (.tmp 8) (.tmp 71) ?_); refine wpList_store_row rfl 40 (.tmp 8) (.tmp 71) rfl p3 #[.int .i64 6, .int .i64 0, .int .i64 0, .int .i64 0, .int .i64 0, .int .i64 0, .int .i64 0, .int .i64 0, .int .i64 0, .int .i64 0, .int .i64 0, .int .i64 0, .int .i64 0, .int .i64 0] rfl rfl 40 #[.int .i64 0, .int .i64 0, .int .i64 0, .int .i64 0, .int .i64 0, .int .i64 0, .int .i64 0, .int .i64 0, .int .i64 0, .int .i64 0, .int .i64 0, .int .i64 0, .int .i64 0, .int .i64 0] bo3 size40 rfl (by simp [Value.oneCell']) ?_; rw [es61]))
      refine bodyPost_ret (results_cell_row (cs := #[.int .i64 6, .int .i64 0, .int .i64 0, .int .i64 0, .int .i64 0, .int .i64 0, .int .i64 0, .int .i64 0, .int .i64 0, .int .i64 0, .int .i64 0, .int .i64 0, .int .i64 0, .int .i64 0]) rfl _ _ p3 40 (0, 0) _ rfl b3 Tryz.underlying40 rfl size40) rfl ?_
      exact ⟨rfl, kk⟩
    by_cases c19 : i.op = 19
    · have t17 : (i.op == 17) = false := beq_eq_false_iff_ne.2 c17
      have t11 : (i.op == 11) = false := beq_eq_false_iff_ne.2 c11
      have t23 : (i.op == 23) = false := beq_eq_false_iff_ne.2 c23
      have t14 : (i.op == 14) = false := beq_eq_false_iff_ne.2 c14
      have t13 : (i.op == 13) = false := beq_eq_false_iff_ne.2 c13
      have t16 : (i.op == 16) = false := beq_eq_false_iff_ne.2 c16
      have t18 : (i.op == 18) = false := beq_eq_false_iff_ne.2 c18
      have t19 : (i.op == 19) = true := by rw [c19]; rfl
      have eF : F = ⟨7, noP, ⟨a0, a1, a2⟩, noW, noW, 0⟩ := by
        rw [← HF.out]
        unfold actI
        obtain ⟨ea, eu, ev⟩ := HR.out
        simp [ea, eu, ev, c19]
      subst eF
      clear c17 c11 c23 c14 c13 c16 c18 c19
      have c60_2_0 : wc.cell? ⟨p2, 0, none⟩ = some (.int .i64 i.op) := b2.cell 0
      have bq4 := b4
      have bq5 := b5
      have bq6 := b6
      obtain ⟨W61, es61⟩ : ∃ W, wc.setRow p3 #[.int .i64 7, .int .i64 0, .int .i64 0, .int .i64 0, .int .i64 a0, .int .i64 a1, .int .i64 a2, .int .i64 0, .int .i64 0, .int .i64 0, .int .i64 0, .int .i64 0, .int .i64 0, .int .i64 0] = W := ⟨_, rfl⟩
      have bo3 := b3
      replace b1 := row_far b1 es61 (by omega)
      replace b2 := row_far b2 es61 (by omega)
      replace b4 := row_far b4 es61 (by omega)
      replace b5 := row_far b5 es61 (by omega)
      replace b6 := row_far b6 es61 (by omega)
      replace b3 : Blk W61 p3 40 #[.int .i64 7, .int .i64 0, .int .i64 0, .int .i64 0, .int .i64 a0, .int .i64 a1, .int .i64 a2, .int .i64 0, .int .i64 0, .int .i64 0, .int .i64 0, .int .i64 0, .int .i64 0, .int .i64 0] := row_named b3 es61
      replace kk := kk.trans (row_below es61 hp3 kk.size)
      go_wp2_with (first | ((with_reducible refine at_load 26 (.tmp 9) ?_); refine wpList_load_row rfl 26 (.tmp 9) rfl p4 rfl 26 #[.int .i64 a0, .int .i64 a1, .int .i64 a2] (0, 0) _ bq4 Tryz.underlying26 rfl size26 ?_) | ((with_reducible refine at_load 26 (.tmp 10) ?_); refine wpList_load_row rfl 26 (.tmp 10) rfl p5 rfl 26 #[.int .i64 u0, .int .i64 u1, .int .i64 u2] (0, 0) _ bq5 Tryz.underlying26 rfl size26 ?_) | ((with_reducible refine at_load 26 (.tmp 11) ?_); refine wpList_load_row rfl 26 (.tmp 11) rfl p6 rfl 26 #[.int .i64 v0, .int .i64 v1, .int .i64 v2] (0, 0) _ bq6 Tryz.underlying26 rfl size26 ?_) | ((with_reducible refine at_store 40 (.tmp 8) (.tmp 75) ?_); refine wpList_store_row rfl 40 (.tmp 8) (.tmp 75) rfl p3 #[.int .i64 7, .int .i64 0, .int .i64 0, .int .i64 0, .int .i64 a0, .int .i64 a1, .int .i64 a2, .int .i64 0, .int .i64 0, .int .i64 0, .int .i64 0, .int .i64 0, .int .i64 0, .int .i64 0] rfl rfl 40 #[.int .i64 0, .int .i64 0, .int .i64 0, .int .i64 0, .int .i64 0, .int .i64 0, .int .i64 0, .int .i64 0, .int .i64 0, .int .i64 0, .int .i64 0, .int .i64 0, .int .i64 0, .int .i64 0] bo3 size40 rfl (by simp [Value.oneCell']) ?_; rw [es61]))
      refine bodyPost_ret (results_cell_row (cs := #[.int .i64 7, .int .i64 0, .int .i64 0, .int .i64 0, .int .i64 a0, .int .i64 a1, .int .i64 a2, .int .i64 0, .int .i64 0, .int .i64 0, .int .i64 0, .int .i64 0, .int .i64 0, .int .i64 0]) rfl _ _ p3 40 (0, 0) _ rfl b3 Tryz.underlying40 rfl size40) rfl ?_
      exact ⟨rfl, kk⟩
    by_cases c20 : i.op = 20
    · have t17 : (i.op == 17) = false := beq_eq_false_iff_ne.2 c17
      have t11 : (i.op == 11) = false := beq_eq_false_iff_ne.2 c11
      have t23 : (i.op == 23) = false := beq_eq_false_iff_ne.2 c23
      have t14 : (i.op == 14) = false := beq_eq_false_iff_ne.2 c14
      have t13 : (i.op == 13) = false := beq_eq_false_iff_ne.2 c13
      have t16 : (i.op == 16) = false := beq_eq_false_iff_ne.2 c16
      have t18 : (i.op == 18) = false := beq_eq_false_iff_ne.2 c18
      have t19 : (i.op == 19) = false := beq_eq_false_iff_ne.2 c19
      have t20 : (i.op == 20) = true := by rw [c20]; rfl
      have eF : F = ⟨8, noP, ⟨a0, a1, a2⟩, noW, noW, 0⟩ := by
        rw [← HF.out]
        unfold actI
        obtain ⟨ea, eu, ev⟩ := HR.out
        simp [ea, eu, ev, c20]
      subst eF
      clear c17 c11 c23 c14 c13 c16 c18 c19 c20
      have c60_2_0 : wc.cell? ⟨p2, 0, none⟩ = some (.int .i64 i.op) := b2.cell 0
      have bq4 := b4
      have bq5 := b5
      have bq6 := b6
      obtain ⟨W61, es61⟩ : ∃ W, wc.setRow p3 #[.int .i64 8, .int .i64 0, .int .i64 0, .int .i64 0, .int .i64 a0, .int .i64 a1, .int .i64 a2, .int .i64 0, .int .i64 0, .int .i64 0, .int .i64 0, .int .i64 0, .int .i64 0, .int .i64 0] = W := ⟨_, rfl⟩
      have bo3 := b3
      replace b1 := row_far b1 es61 (by omega)
      replace b2 := row_far b2 es61 (by omega)
      replace b4 := row_far b4 es61 (by omega)
      replace b5 := row_far b5 es61 (by omega)
      replace b6 := row_far b6 es61 (by omega)
      replace b3 : Blk W61 p3 40 #[.int .i64 8, .int .i64 0, .int .i64 0, .int .i64 0, .int .i64 a0, .int .i64 a1, .int .i64 a2, .int .i64 0, .int .i64 0, .int .i64 0, .int .i64 0, .int .i64 0, .int .i64 0, .int .i64 0] := row_named b3 es61
      replace kk := kk.trans (row_below es61 hp3 kk.size)
      go_wp2_with (first | ((with_reducible refine at_load 26 (.tmp 9) ?_); refine wpList_load_row rfl 26 (.tmp 9) rfl p4 rfl 26 #[.int .i64 a0, .int .i64 a1, .int .i64 a2] (0, 0) _ bq4 Tryz.underlying26 rfl size26 ?_) | ((with_reducible refine at_load 26 (.tmp 10) ?_); refine wpList_load_row rfl 26 (.tmp 10) rfl p5 rfl 26 #[.int .i64 u0, .int .i64 u1, .int .i64 u2] (0, 0) _ bq5 Tryz.underlying26 rfl size26 ?_) | ((with_reducible refine at_load 26 (.tmp 11) ?_); refine wpList_load_row rfl 26 (.tmp 11) rfl p6 rfl 26 #[.int .i64 v0, .int .i64 v1, .int .i64 v2] (0, 0) _ bq6 Tryz.underlying26 rfl size26 ?_) | ((with_reducible refine at_store 40 (.tmp 8) (.tmp 79) ?_); refine wpList_store_row rfl 40 (.tmp 8) (.tmp 79) rfl p3 #[.int .i64 8, .int .i64 0, .int .i64 0, .int .i64 0, .int .i64 a0, .int .i64 a1, .int .i64 a2, .int .i64 0, .int .i64 0, .int .i64 0, .int .i64 0, .int .i64 0, .int .i64 0, .int .i64 0] rfl rfl 40 #[.int .i64 0, .int .i64 0, .int .i64 0, .int .i64 0, .int .i64 0, .int .i64 0, .int .i64 0, .int .i64 0, .int .i64 0, .int .i64 0, .int .i64 0, .int .i64 0, .int .i64 0, .int .i64 0] bo3 size40 rfl (by simp [Value.oneCell']) ?_; rw [es61]))
      refine bodyPost_ret (results_cell_row (cs := #[.int .i64 8, .int .i64 0, .int .i64 0, .int .i64 0, .int .i64 a0, .int .i64 a1, .int .i64 a2, .int .i64 0, .int .i64 0, .int .i64 0, .int .i64 0, .int .i64 0, .int .i64 0, .int .i64 0]) rfl _ _ p3 40 (0, 0) _ rfl b3 Tryz.underlying40 rfl size40) rfl ?_
      exact ⟨rfl, kk⟩
    have t17 : (i.op == 17) = false := beq_eq_false_iff_ne.2 c17
    have t11 : (i.op == 11) = false := beq_eq_false_iff_ne.2 c11
    have t23 : (i.op == 23) = false := beq_eq_false_iff_ne.2 c23
    have t14 : (i.op == 14) = false := beq_eq_false_iff_ne.2 c14
    have t13 : (i.op == 13) = false := beq_eq_false_iff_ne.2 c13
    have t16 : (i.op == 16) = false := beq_eq_false_iff_ne.2 c16
    have t18 : (i.op == 18) = false := beq_eq_false_iff_ne.2 c18
    have t19 : (i.op == 19) = false := beq_eq_false_iff_ne.2 c19
    have t20 : (i.op == 20) = false := beq_eq_false_iff_ne.2 c20
    have d1 := shares_any i.op
    cases es : sharB i.op with
    | false =>
      rw [es] at d1
      have c60_2_0 : wc.cell? ⟨p2, 0, none⟩ = some (.int .i64 i.op) := b2.cell 0
      have eF : F = ⟨1, noP, noW, noW, noW, 0⟩ := by
        rw [← HF.out]
        unfold actI
        unfold sharB inB at es
        simp only [Bool.or_eq_false_iff, Bool.and_eq_false_iff, decide_eq_false_iff_not] at es
        rw [if_neg (show ¬ i.op = 11 by omega)]
        rw [if_neg (show ¬ i.op = 12 by omega)]
        rw [if_neg (show ¬ i.op = 13 by omega)]
        rw [if_neg (show ¬ i.op = 14 by omega)]
        rw [if_neg (show ¬ i.op = 15 by omega)]
        rw [if_neg (show ¬ i.op = 16 by omega)]
        rw [if_neg (show ¬ i.op = 17 by omega)]
        rw [if_neg (show ¬ i.op = 18 by omega)]
        rw [if_neg (show ¬ i.op = 19 by omega)]
        rw [if_neg (show ¬ i.op = 20 by omega)]
        rw [if_neg (show ¬ i.op = 21 by omega)]
        rw [if_neg (show ¬ i.op = 22 by omega)]
        rw [if_neg (show ¬ i.op = 23 by omega)]
        rw [if_neg (show ¬ i.op = 24 by omega)]
        rw [if_neg (show ¬ i.op = 25 by omega)]
      subst eF
      clear es c17 c11 c23 c14 c13 c16 c18 c19 c20
      go_wp2_with fail
      refine (d1 _).mono ?_
      rintro e W61 ⟨rfl, kq⟩
      clear c60_2_0
      replace b1 := b1.on kq
      replace b2 := b2.on kq
      replace b3 := b3.on kq
      replace b4 := b4.on kq
      replace b5 := b5.on kq
      replace b6 := b6.on kq
      replace kk := kk.trans (kq.mono kk.size)
      clear kq
      obtain ⟨W62, es62⟩ : ∃ W, W61.setRow p3 #[.int .i64 1, .int .i64 0, .int .i64 0, .int .i64 0, .int .i64 0, .int .i64 0, .int .i64 0, .int .i64 0, .int .i64 0, .int .i64 0, .int .i64 0, .int .i64 0, .int .i64 0, .int .i64 0] = W := ⟨_, rfl⟩
      have bo3 := b3
      replace b1 := row_far b1 es62 (by omega)
      replace b2 := row_far b2 es62 (by omega)
      replace b4 := row_far b4 es62 (by omega)
      replace b5 := row_far b5 es62 (by omega)
      replace b6 := row_far b6 es62 (by omega)
      replace b3 : Blk W62 p3 40 #[.int .i64 1, .int .i64 0, .int .i64 0, .int .i64 0, .int .i64 0, .int .i64 0, .int .i64 0, .int .i64 0, .int .i64 0, .int .i64 0, .int .i64 0, .int .i64 0, .int .i64 0, .int .i64 0] := row_named b3 es62
      replace kk := kk.trans (row_below es62 hp3 kk.size)
      go_wp2_with (((with_reducible refine at_store 40 (.tmp 8) (.tmp 84) ?_); refine wpList_store_row rfl 40 (.tmp 8) (.tmp 84) rfl p3 #[.int .i64 1, .int .i64 0, .int .i64 0, .int .i64 0, .int .i64 0, .int .i64 0, .int .i64 0, .int .i64 0, .int .i64 0, .int .i64 0, .int .i64 0, .int .i64 0, .int .i64 0, .int .i64 0] rfl rfl 40 #[.int .i64 0, .int .i64 0, .int .i64 0, .int .i64 0, .int .i64 0, .int .i64 0, .int .i64 0, .int .i64 0, .int .i64 0, .int .i64 0, .int .i64 0, .int .i64 0, .int .i64 0, .int .i64 0] bo3 size40 rfl (by simp [Value.oneCell']) ?_; rw [es62]))
      refine bodyPost_ret (results_cell_row (cs := #[.int .i64 1, .int .i64 0, .int .i64 0, .int .i64 0, .int .i64 0, .int .i64 0, .int .i64 0, .int .i64 0, .int .i64 0, .int .i64 0, .int .i64 0, .int .i64 0, .int .i64 0, .int .i64 0]) rfl _ _ p3 40 (0, 0) _ rfl b3 Tryz.underlying40 rfl size40) rfl ?_
      exact ⟨rfl, kk⟩
    | true =>
      rw [es] at d1
      have c60_2_0 : wc.cell? ⟨p2, 0, none⟩ = some (.int .i64 i.op) := b2.cell 0
      have eF : F = stoA t i ⟨a0, a1, a2⟩ ⟨u0, u1, u2⟩ own := by
        rw [← HF.out]
        obtain ⟨ea, eu, ev⟩ := HR.out
        unfold sharB inB at es
        simp only [Bool.or_eq_true, Bool.and_eq_true, decide_eq_true_eq] at es
        have ho : i.op = 12 ∨ i.op = 15 ∨ i.op = 21 ∨ i.op = 22 ∨ i.op = 24 ∨ i.op = 25 := by omega
        unfold actI stoA
        rcases ho with ho | ho | ho | ho | ho | ho <;> simp [ho, ea, eu, ev]
      have d2 : ∀ W, Calls Tryz.prog 30 #[.int .i64 t, .agg i.cs.toArray, .agg #[.int .i64 a0, .int .i64 a1, .int .i64 a2], .agg #[.int .i64 u0, .int .i64 u1, .int .i64 u2], .int .i64 own] W fun e w' => e = .returned (.agg F.cs.toArray) ∧ Below W.heap.size W w' := fun W => by rw [eF]; exact stores_any t i ⟨a0, a1, a2⟩ ⟨u0, u1, u2⟩ own W
      clear eF es c17 c11 c23 c14 c13 c16 c18 c19 c20
      go_wp2_with fail
      refine (d1 _).mono ?_
      rintro e W61 ⟨rfl, kq⟩
      clear c60_2_0
      replace b1 := b1.on kq
      replace b2 := b2.on kq
      replace b3 := b3.on kq
      replace b4 := b4.on kq
      replace b5 := b5.on kq
      replace b6 := b6.on kq
      replace kk := kk.trans (kq.mono kk.size)
      clear kq
      go_wp2_with (first | ((with_reducible refine at_load 49 (.tmp 6) ?_); refine wpList_load_row rfl 49 (.tmp 6) rfl p2 rfl 49 i.cs.toArray (0, 0) _ b2 Tryz.underlying49 rfl size49 ?_) | ((with_reducible refine at_load 26 (.tmp 9) ?_); refine wpList_load_row rfl 26 (.tmp 9) rfl p4 rfl 26 #[.int .i64 a0, .int .i64 a1, .int .i64 a2] (0, 0) _ b4 Tryz.underlying26 rfl size26 ?_) | ((with_reducible refine at_load 26 (.tmp 10) ?_); refine wpList_load_row rfl 26 (.tmp 10) rfl p5 rfl 26 #[.int .i64 u0, .int .i64 u1, .int .i64 u2] (0, 0) _ b5 Tryz.underlying26 rfl size26 ?_))
      refine (d2 _).mono ?_
      rintro e W62 ⟨rfl, kq⟩
      replace b1 := b1.on kq
      replace b2 := b2.on kq
      replace b3 := b3.on kq
      replace b4 := b4.on kq
      replace b5 := b5.on kq
      replace b6 := b6.on kq
      replace kk := kk.trans (kq.mono kk.size)
      clear kq
      obtain ⟨W63, es63⟩ : ∃ W, W62.setRow p3 F.cs.toArray = W := ⟨_, rfl⟩
      have bo3 := b3
      replace b1 := row_far b1 es63 (by omega)
      replace b2 := row_far b2 es63 (by omega)
      replace b4 := row_far b4 es63 (by omega)
      replace b5 := row_far b5 es63 (by omega)
      replace b6 := row_far b6 es63 (by omega)
      replace b3 : Blk W63 p3 40 F.cs.toArray := row_named b3 es63
      replace kk := kk.trans (row_below es63 hp3 kk.size)
      go_wp2_with (((with_reducible refine at_store 40 (.tmp 8) (.tmp 90) ?_); refine wpList_store_row rfl 40 (.tmp 8) (.tmp 90) rfl p3 F.cs.toArray rfl rfl 40 #[.int .i64 0, .int .i64 0, .int .i64 0, .int .i64 0, .int .i64 0, .int .i64 0, .int .i64 0, .int .i64 0, .int .i64 0, .int .i64 0, .int .i64 0, .int .i64 0, .int .i64 0, .int .i64 0] bo3 size40 rfl (Ac.onea _) ?_; rw [es63]))
      refine bodyPost_ret (results_cell_row (cs := F.cs.toArray) rfl _ _ p3 40 (0, 0) _ rfl b3 Tryz.underlying40 rfl size40) rfl ?_
      exact ⟨rfl, kk⟩
end Go.Proofs.YtfadfdfpocpelaaGreatDoor
