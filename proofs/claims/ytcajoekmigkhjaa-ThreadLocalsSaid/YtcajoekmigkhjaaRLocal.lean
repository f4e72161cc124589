/- What an instruction that touches nothing shared does to a thread, by the plain one. Conditions: at most a thousand elements in each list. -/
import Derived.Test.YtcajoekmigkhjaaLocB
namespace Go.Proofs.Ytcajoekmigkhjaa
open Go.RowKit Go.ChangeShapes Go.WideShapes Go.Great

theorem copyV {w : World} {V y : Th} {n1 n2 n3 : Nat} {z s : List Int} {l : List Bg} (h : Reads w V z l s) (e1 : V.se.n = n1) (e2 : V.bg.n = n2) (e3 : V.sn.n = n3) (hy : ∀ a b c, V.put a b c = y.put a b c) (h1 : n1 ≤ 1000) (h2 : n2 ≤ 1000) (h3 : n3 ≤ 1000) :
    Calls Try.prog 10 #[.agg V.cs.toArray] w fun e w' => ∃ A1 c1 A2 c2 A3 c3, e = .returned (.agg (y.put ⟨A1, n1, c1⟩ ⟨A2, n2, c2⟩ ⟨A3, n3, c3⟩).cs.toArray) ∧ Own w.heap.size w' (y.put ⟨A1, n1, c1⟩ ⟨A2, n2, c2⟩ ⟨A3, n3, c3⟩) z l s ∧ Below w.heap.size w w' := by
  subst e1 e2 e3
  refine (copy_any h h1 h2 h3).mono ?_
  rintro e w' ⟨A1, c1, A2, c2, A3, c3, rfl, ho, hb⟩
  rw [hy] at ho ⊢
  exact ⟨A1, c1, A2, c2, A3, c3, rfl, ho, hb⟩
theorem locB_of {i : Ins} {k : Int} (h : i.op = k) (h1 : 1 ≤ k) (h2 : k ≤ 10) : locB i = true := by
  unfold locB inB
  rw [h, decide_eq_true h1, decide_eq_true h2]
  rfl
theorem locT_1 {x : Th} {i : Ins} (e : i.op = 1) : locT x i = { x with st := 1 } := by
  unfold locT
  rw [if_pos e]
theorem locT_2 {x : Th} {i : Ins} (e : i.op = 2) : locT x i = setI x i.a ⟨i.n, 0, 0⟩ := by
  unfold locT
  rw [if_neg (by omega), if_pos e]
theorem locT_3 {x : Th} {i : Ins} (e : i.op = 3) : locT x i = setI x i.a (regI x i.b) := by
  unfold locT
  rw [if_neg (by omega), if_neg (by omega), if_pos e]
theorem locT_4 {x : Th} {i : Ins} (e : i.op = 4) : locT x i = recT x i := by
  unfold locT
  rw [if_neg (by omega), if_neg (by omega), if_neg (by omega), if_pos (by omega)]
theorem locT_5 {x : Th} {i : Ins} (e : i.op = 5) : locT x i = recT x i := by
  unfold locT
  rw [if_neg (by omega), if_neg (by omega), if_neg (by omega), if_pos (by omega)]
theorem locT_6 {x : Th} {i : Ins} (e : i.op = 6) : locT x i = recT x i := by
  unfold locT
  rw [if_neg (by omega), if_neg (by omega), if_neg (by omega), if_pos (by omega)]
theorem locT_7 {x : Th} {i : Ins} (e : i.op = 7) : locT x i = recT x i := by
  unfold locT
  rw [if_neg (by omega), if_neg (by omega), if_neg (by omega), if_pos (by omega)]
theorem locT_8 {x : Th} {i : Ins} (e : i.op = 8) : locT x i = jmpT x i true := by
  unfold locT
  rw [if_neg (by omega), if_neg (by omega), if_neg (by omega), if_neg (by omega), if_pos e]
theorem locT_9 {x : Th} {i : Ins} (e : i.op = 9) : locT x i = jmpT x i ((regI x i.a).n == 0) := by
  unfold locT
  rw [if_neg (by omega), if_neg (by omega), if_neg (by omega), if_neg (by omega), if_neg (by omega), if_pos e]
theorem locT_10 {x : Th} {i : Ins} (e : i.op = 10) : locT x i = jmpT x i ((regI x i.a).n == (regI x i.b).n) := by
  unfold locT
  rw [if_neg (by omega), if_neg (by omega), if_neg (by omega), if_neg (by omega), if_neg (by omega), if_neg (by omega), if_pos e]
theorem locT_0 {x : Th} {i : Ins} (h : ∀ k : Int, 1 ≤ k → k ≤ 10 → i.op ≠ k) : locT x i = x := by
  have h1 := h 1 (by omega) (by omega)
  have h2 := h 2 (by omega) (by omega)
  have h3 := h 3 (by omega) (by omega)
  have h4 := h 4 (by omega) (by omega)
  have h5 := h 5 (by omega) (by omega)
  have h6 := h 6 (by omega) (by omega)
  have h7 := h 7 (by omega) (by omega)
  have h8 := h 8 (by omega) (by omega)
  have h9 := h 9 (by omega) (by omega)
  have h10 := h 10 (by omega) (by omega)
  unfold locT
  rw [if_neg h1, if_neg h2, if_neg h3, if_neg (by omega), if_neg h8, if_neg h9, if_neg h10]
theorem res24 (tmps : Array Value) (w : World) (g : Nat) (cs : Array Value) (u : Value) (hp : tmps[4]?.getD undef = .pointer (some ⟨g, 0, none⟩)) (hu : tmps[5]?.getD undef = u) (hg : Blk w g 32 cs) (hs : (Try.prog.info? 32).map (·.size) = some cs.size) :
    (results Try.f24 tmps).run Try.prog w = .ok (.tuple #[.agg cs, u]) w := by
  have hr : Try.f24.results = #[.cell 4 32, .tmp 5] := by kernel_rfl
  rw [results_cell_tmp hr]
  have h2 : tmps.getD 4 undef = .pointer (some ⟨g, 0, none⟩) := by simpa using hp
  have h3 : tmps.getD 5 undef = u := by simpa using hu
  rw [h2, h3]
  have hl := run_loadVar_row w g 32 32 cs (0, 0) _ hg Try.underlying32 rfl hs
  simp [asAddr, Result.andThen, hl]
set_option maxRecDepth 100000 in
set_option maxHeartbeats 4000000 in
theorem rlocal_any {w : World} {x : Th} {z s : List Int} {l : List Bg} (i : Ins) (h : Reads w x z l s) (h1 : x.se.n ≤ 1000) (h2 : x.bg.n ≤ 1000) (h3 : x.sn.n ≤ 1000) :
    Calls Try.prog 24 #[.agg x.cs.toArray, .agg i.cs.toArray] w fun e w' => ∃ A1 c1 A2 c2 A3 c3, e = .returned (.tuple #[.agg ((locT x i).put ⟨A1, x.se.n, c1⟩ ⟨A2, x.bg.n, c2⟩ ⟨A3, x.sn.n, c3⟩).cs.toArray, .bool (locB i)]) ∧ Own w.heap.size w' ((locT x i).put ⟨A1, x.se.n, c1⟩ ⟨A2, x.bg.n, c2⟩ ⟨A3, x.sn.n, c3⟩) z l s ∧ Below w.heap.size w w' := by
  obtain ⟨F, eF⟩ : ∃ F, locT x i = F := ⟨_, rfl⟩
  obtain ⟨B, eB⟩ : ∃ B, locB i = B := ⟨_, rfl⟩
  rw [eF, eB]
  have HF := Lib.hid (And.intro eF eB)
  clear eF eB
  obtain ⟨p1, f1⟩ : ∃ p, w.heap.size = p := ⟨_, rfl⟩
  obtain ⟨W1, ea1⟩ : ∃ W, w.alloc (.cells x.cs.toArray 32) = W := ⟨_, rfl⟩
  have ka1 : Below w.heap.size w W1 := by rw [← ea1]; exact (Below.refl _ w).alloc (Nat.le_refl _) _
  have b1 : Blk W1 p1 32 x.cs.toArray := by rw [← ea1]; exact blk_new w _ 32 _ f1
  have kk : Below w.heap.size w W1 := ka1
  have hp1 : w.heap.size ≤ p1 := Nat.le_of_eq f1
  clear ka1
  obtain ⟨p2, f2⟩ : ∃ p, W1.heap.size = p := ⟨_, rfl⟩
  obtain ⟨W2, ea2⟩ : ∃ W, W1.alloc (.cells i.cs.toArray 42) = W := ⟨_, rfl⟩
  have ka2 : Below W1.heap.size W1 W2 := by rw [← ea2]; exact (Below.refl _ W1).alloc (Nat.le_refl _) _
  have b2 : Blk W2 p2 42 i.cs.toArray := by rw [← ea2]; exact blk_new W1 _ 42 _ f2
  have q1_2 : p1 < p2 := by rw [← f2]; exact b1.lt
  replace b1 := b1.on ka2
  have kk0 := kk
  replace kk := kk.trans (ka2.mono kk.size)
  have hp2 : w.heap.size ≤ p2 := by rw [← f2]; exact kk0.size
  clear ka2 kk0
  obtain ⟨p3, f3⟩ : ∃ p, W2.heap.size = p := ⟨_, rfl⟩
  obtain ⟨W3, ea3⟩ : ∃ W, W2.alloc (.cells #[.int .i64 0, .int .i64 0, .int .i64 0, .int .i64 0, .int .i64 0, .int .i64 0, .int .i64 0, .int .i64 0, .int .i64 0, .int .i64 0, .int .i64 0, .int .i64 0, .int .i64 0, .int .i64 0, .int .i64 0, .int .i64 0, .int .i64 0, .int .i64 0, .slice none 0 0, .slice none 0 0, .slice none 0 0, .int .i64 0] 32) = W := ⟨_, rfl⟩
  have ka3 : Below W2.heap.size W2 W3 := by rw [← ea3]; exact (Below.refl _ W2).alloc (Nat.le_refl _) _
  have b3 : Blk W3 p3 32 #[.int .i64 0, .int .i64 0, .int .i64 0, .int .i64 0, .int .i64 0, .int .i64 0, .int .i64 0, .int .i64 0, .int .i64 0, .int .i64 0, .int .i64 0, .int .i64 0, .int .i64 0, .int .i64 0, .int .i64 0, .int .i64 0, .int .i64 0, .int .i64 0, .slice none 0 0, .slice none 0 0, .slice none 0 0, .int .i64 0] := by rw [← ea3]; exact blk_new W2 _ 32 _ f3
  have q1_3 : p1 < p3 := by rw [← f3]; exact b1.lt
  replace b1 := b1.on ka3
  have q2_3 : p2 < p3 := by rw [← f3]; exact b2.lt
  replace b2 := b2.on ka3
  have kk0 := kk
  replace kk := kk.trans (ka3.mono kk.size)
  have hp3 : w.heap.size ≤ p3 := by rw [← f3]; exact kk0.size
  clear ka3 kk0
  have q13 := q1_3
  have q23 := q2_3
  go_enter Try.func24, Try.ntmps24
  go_wp2_with fail
  clear f1
  go_cut [6, 7] (fun s6 s7 wx => ∃ P Q, s6 = .pointer (some ⟨P, 0, none⟩) ∧ s7 = .pointer (some ⟨Q, 0, none⟩) ∧ Below w.heap.size w wx ∧ Blk wx p1 32 x.cs.toArray ∧ Blk wx p2 42 i.cs.toArray ∧ Blk wx p3 32 #[.int .i64 0, .int .i64 0, .int .i64 0, .int .i64 0, .int .i64 0, .int .i64 0, .int .i64 0, .int .i64 0, .int .i64 0, .int .i64 0, .int .i64 0, .int .i64 0, .int .i64 0, .int .i64 0, .int .i64 0, .int .i64 0, .int .i64 0, .int .i64 0, .slice none 0 0, .slice none 0 0, .slice none 0 0, .int .i64 0] ∧ Blk wx P 25 (regI x i.a).cs.toArray ∧ Blk wx Q 25 (regI x i.b).cs.toArray)
  case first =>
    obtain ⟨wd, ed⟩ : ∃ W, W3.drew = W := ⟨_, rfl⟩
    have hd : Below W3.heap.size W3 wd := by rw [← ed]; exact (Below.refl _ _).drew
    replace b1 := b1.on hd
    replace b2 := b2.on hd
    replace b3 := b3.on hd
    replace kk := kk.trans (hd.mono kk.size)
    clear hd
    have hwd : w.heap.size ≤ wd.heap.size := kk.size
    have kS : Kept (fun g => False) wd wd := Kept.refl _ _
    have tS : ∀ W, Kept (fun g => False) wd W → W.cell? ⟨p2, 1, none⟩ = some (.int .i64 i.a) ∧ W.cell? ⟨p2, 2, none⟩ = some (.int .i64 i.b) := fun W hW => ⟨(b2.kept hW id).cell 1, (b2.kept hW id).cell 2⟩
    refine wp_region_noPanic ?_
    refine wp_region_held_drew (S := (fun W => Kept (fun g => False) wd W)) (by kernel_rfl) (by rw [ed]; exact kS) (fun hHeld => ?_)
    rw [ed] at hHeld ⊢
    refine wpAnyH_take (i := 0) (oi := ⟨some 10, _, _, _, _, _⟩) (v := .agg (List.toArray (x.cs))) rfl (by kernel_rfl) (by kernel_rfl) (by kernel_rfl) (fun _ _ _ h => h) (yieldsIf_load_mid (by rfl) 32 (.tmp 2) rfl p1 (0) rfl (x.cs) _ (fun W hW => range_part (b1.kept hW id) 0 x.cs rfl) Try.underlying32 rfl (sizeT _)) (by assumption) ?_
    try simp only [Act.put, List.setIfInBounds_toArray, List.set_cons_zero, List.set_cons_succ]
    refine wpAnyH_take (i := 1) (oi := ⟨some 11, _, _, _, _, _⟩) (v := ?_) rfl (by kernel_rfl) (by kernel_rfl) (by kernel_rfl) (fun _ _ _ h => h) (Or.inl ⟨by rfl, ?_⟩) (by assumption) ?_
    rotate_left 1
    · (intro W hSw; go_simp <;> with_reducible rfl)
    try simp only [Act.put, List.setIfInBounds_toArray, List.set_cons_zero, List.set_cons_succ]
    refine wpAnyH_take (i := 2) (oi := ⟨some 12, _, _, _, _, _⟩) (v := ?_) rfl (by kernel_rfl) (by kernel_rfl) (by kernel_rfl) (fun _ _ _ h => h) (Or.inl ⟨by rfl, ?_⟩) (by assumption) ?_
    rotate_left 1
    · (intro W hSw; obtain ⟨q0, q1⟩ := tS W hSw; go_simp <;> with_reducible rfl)
    try simp only [Act.put, List.setIfInBounds_toArray, List.set_cons_zero, List.set_cons_succ]
    refine wpAnyH_take (i := 4) (oi := ⟨some 14, _, _, _, _, _⟩) (v := .agg (List.toArray (x.cs))) rfl (by kernel_rfl) (by kernel_rfl) (by kernel_rfl) (fun _ _ _ h => h) (yieldsIf_load_mid (by rfl) 32 (.tmp 2) rfl p1 (0) rfl (x.cs) _ (fun W hW => range_part (b1.kept hW id) 0 x.cs rfl) Try.underlying32 rfl (sizeT _)) (by assumption) ?_
    try simp only [Act.put, List.setIfInBounds_toArray, List.set_cons_zero, List.set_cons_succ]
    refine wpAnyH_take (i := 5) (oi := ⟨some 15, _, _, _, _, _⟩) (v := ?_) rfl (by kernel_rfl) (by kernel_rfl) (by kernel_rfl) (fun _ _ _ h => h) (Or.inl ⟨by rfl, ?_⟩) (by assumption) ?_
    rotate_left 1
    · (intro W hSw; go_simp <;> with_reducible rfl)
    try simp only [Act.put, List.setIfInBounds_toArray, List.set_cons_zero, List.set_cons_succ]
    refine wpAnyH_take (i := 6) (oi := ⟨some 16, _, _, _, _, _⟩) (v := ?_) rfl (by kernel_rfl) (by kernel_rfl) (by kernel_rfl) (fun _ _ _ h => h) (Or.inl ⟨by rfl, ?_⟩) (by assumption) ?_
    rotate_left 1
    · (intro W hSw; obtain ⟨q0, q1⟩ := tS W hSw; go_simp <;> with_reducible rfl)
    try simp only [Act.put, List.setIfInBounds_toArray, List.set_cons_zero, List.set_cons_succ]
    refine wpAnyH_ready (rs := [3, 8, 9]) (by kernel_rfl) (by simp) ?_
    refine AllReadyH.cons (o := ⟨some 13, _, _, _, _, _⟩) rfl (fun K hK => ?_) (AllReadyH.cons (o := ⟨some 6, _, _, _, _, _⟩) rfl (fun K hK => ?_) (AllReadyH.cons (o := ⟨some 7, _, _, _, _, _⟩) rfl (fun K hK => ?_) AllReadyH.nil))
    · go_simp
      refine (rget_any x i.a wd).mono ?_
      rintro e w1 ⟨rfl, hb1⟩
      have b1_1 := b1.on hb1
      have b2_1 := b2.on hb1
      have b3_1 := b3.on hb1
      have kk_1 := kk.trans (hb1.mono kk.size)
      have S1 : (fun W => Kept (fun g => False) wd W) w1 := Kept.next kS (kept_below (fun _ => False) hb1) (fun _ h => h.elim)
      refine hK.out _ _ S1 (fun h1 => ?_)
      clear hHeld hK K
      try simp only [Act.put, List.setIfInBounds_toArray, List.set_cons_zero, List.set_cons_succ]
      refine wpAnyH_ready (rs := [7, 8, 9]) (by kernel_rfl) (by simp) ?_
      refine AllReadyH.cons (o := ⟨some 17, _, _, _, _, _⟩) rfl (fun K hK => ?_) (AllReadyH.cons (o := ⟨some 6, _, _, _, _, _⟩) rfl (fun K hK => ?_) (AllReadyH.cons (o := ⟨some 7, _, _, _, _, _⟩) rfl (fun K hK => ?_) AllReadyH.nil))
      · go_simp
        refine (rget_any x i.b w1).mono ?_
        rintro e w2 ⟨rfl, hb2⟩
        have b1_2 := b1_1.on hb2
        have b2_2 := b2_1.on hb2
        have b3_2 := b3_1.on hb2
        have kk_2 := kk_1.trans (hb2.mono kk_1.size)
        have S2 : (fun W => Kept (fun g => False) wd W) w2 := Kept.next S1 (kept_below (fun _ => False) hb2) (fun _ h => h.elim)
        refine hK.out _ _ S2 (fun h2 => ?_)
        clear h1 hK K
        try simp only [Act.put, List.setIfInBounds_toArray, List.set_cons_zero, List.set_cons_succ]
        refine wpAnyH_ready (rs := [8, 9]) (by kernel_rfl) (by simp) ?_
        refine AllReadyH.cons (o := ⟨some 6, _, _, _, _, _⟩) rfl (fun K hK => ?_) (AllReadyH.cons (o := ⟨some 7, _, _, _, _, _⟩) rfl (fun K hK => ?_) AllReadyH.nil)
        · go_simp
          obtain ⟨w3, ew3⟩ : ∃ zz, zz = w2.alloc (.cells #[.int .i64 0, .int .i64 0, .int .i64 0] 25) := ⟨_, rfl⟩
          have hb3 : Below w2.heap.size w2 w3 := by rw [ew3]; exact (Below.refl _ _).alloc (Nat.le_refl _) _
          rw [← ew3]
          have pa3 : Blk w3 w2.heap.size 25 #[.int .i64 0, .int .i64 0, .int .i64 0] := by rw [ew3]; exact heap_alloc_new _ _
          have hP3 : wd.heap.size ≤ w2.heap.size := Kept.size S2
          have b1_3 := b1_2.on hb3
          have b2_3 := b2_2.on hb3
          have b3_3 := b3_2.on hb3
          have kk_3 := kk_2.trans (hb3.mono kk_2.size)
          have S3 : (fun W => Kept (fun g => False) wd W) w3 := Kept.next S2 (kept_below (fun _ => False) hb3) (fun _ h => h.elim)
          refine hK.out _ _ S3 (fun h3 => ?_)
          clear h2 hK K ew3
          try simp only [Act.put, List.setIfInBounds_toArray, List.set_cons_zero, List.set_cons_succ]
          refine wpAnyH_ready (rs := [9]) (by kernel_rfl) (by simp) ?_
          refine AllReadyH.cons (o := ⟨some 7, _, _, _, _, _⟩) rfl (fun K hK => ?_) AllReadyH.nil
          go_simp
          obtain ⟨w4, ew4⟩ : ∃ zz, zz = w3.alloc (.cells #[.int .i64 0, .int .i64 0, .int .i64 0] 25) := ⟨_, rfl⟩
          have hb4 : Below w3.heap.size w3 w4 := by rw [ew4]; exact (Below.refl _ _).alloc (Nat.le_refl _) _
          rw [← ew4]
          have pb4 : Blk w4 w3.heap.size 25 #[.int .i64 0, .int .i64 0, .int .i64 0] := by rw [ew4]; exact heap_alloc_new _ _
          have hP4 : wd.heap.size ≤ w3.heap.size := Kept.size S3
          have hne4 : w2.heap.size ≠ w3.heap.size := Nat.ne_of_lt pa3.lt
          have b1_4 := b1_3.on hb4
          have b2_4 := b2_3.on hb4
          have b3_4 := b3_3.on hb4
          have kk_4 := kk_3.trans (hb4.mono kk_3.size)
          have pa_4 := pa3.on hb4
          have S4 : (fun W => Kept (fun g => False) wd W) w4 := Kept.next S3 (kept_below (fun _ => False) hb4) (fun _ h => h.elim)
          refine hK.out _ _ S4 (fun h4 => ?_)
          clear h3 hK K ew4
          try simp only [Act.put, List.setIfInBounds_toArray, List.set_cons_zero, List.set_cons_succ]
          refine wpAnyH_ready (rs := [10]) (by kernel_rfl) (by simp) ?_
          refine AllReadyH.cons (o := ⟨none, _, _, _, _, _⟩) rfl (fun K hK => ?_) AllReadyH.nil
          rw [if_pos (by rfl)]
          refine wp_store_row 25 (.tmp 6) (.tmp 13) rfl (w2.heap.size) (regI x i.a).cs.toArray rfl rfl 25 #[.int .i64 0, .int .i64 0, .int .i64 0] pa_4 size25 rfl (Wd.onea _) ?_
          refine hK.out _ _ (Kept.next S4 (kept_row _ (w2.heap.size) _) (fun g h => .inr (by rw [h]; exact hP3))) (fun h5 => ?_)
          clear h4 hK K
          have S5 : Kept (fun g => False) wd (w4.setRow (w2.heap.size) (regI x i.a).cs.toArray) := Kept.next S4 (kept_row _ (w2.heap.size) _) (fun g h => .inr (by rw [h]; exact hP3))
          have pa_5 : Blk (w4.setRow (w2.heap.size) (regI x i.a).cs.toArray) (w2.heap.size) 25 (regI x i.a).cs.toArray := row_named pa_4 rfl
          have pb_5 := row_far (W := (w4.setRow (w2.heap.size) (regI x i.a).cs.toArray)) pb4 rfl hne4.symm
          have b1_5 := row_far (W := (w4.setRow (w2.heap.size) (regI x i.a).cs.toArray)) b1_4 rfl (by have := b1_4.ne pa_4 (by decide); exact this)
          have b2_5 := row_far (W := (w4.setRow (w2.heap.size) (regI x i.a).cs.toArray)) b2_4 rfl (by have := b2_4.ne pa_4 (by decide); exact this)
          have b3_5 := row_far (W := (w4.setRow (w2.heap.size) (regI x i.a).cs.toArray)) b3_4 rfl (by have := b3_4.ne pa_4 (by decide); exact this)
          have kk_5 := kk_4.trans (row_below (W := (w4.setRow (w2.heap.size) (regI x i.a).cs.toArray)) rfl (Nat.le_trans hwd hP3) kk_4.size)
          try simp only [Act.put]
          refine wpAnyH_ready (rs := [11]) (by kernel_rfl) (by simp) ?_
          refine AllReadyH.cons (o := ⟨none, _, _, _, _, _⟩) rfl (fun K hK => ?_) AllReadyH.nil
          rw [if_pos (by rfl)]
          refine wp_store_row 25 (.tmp 7) (.tmp 17) rfl (w3.heap.size) (regI x i.b).cs.toArray rfl rfl 25 #[.int .i64 0, .int .i64 0, .int .i64 0] pb_5 size25 rfl (Wd.onea _) ?_
          refine hK.out _ _ (Kept.next S5 (kept_row _ (w3.heap.size) _) (fun g h => .inr (by rw [h]; exact hP4))) (fun h6 => ?_)
          clear h5 hK K
          have S6 : Kept (fun g => False) wd ((w4.setRow (w2.heap.size) (regI x i.a).cs.toArray).setRow (w3.heap.size) (regI x i.b).cs.toArray) := Kept.next S5 (kept_row _ (w3.heap.size) _) (fun g h => .inr (by rw [h]; exact hP4))
          have pb_6 : Blk ((w4.setRow (w2.heap.size) (regI x i.a).cs.toArray).setRow (w3.heap.size) (regI x i.b).cs.toArray) (w3.heap.size) 25 (regI x i.b).cs.toArray := row_named pb_5 rfl
          have pa_6 := row_far (W := ((w4.setRow (w2.heap.size) (regI x i.a).cs.toArray).setRow (w3.heap.size) (regI x i.b).cs.toArray)) pa_5 rfl hne4
          have b1_6 := row_far (W := ((w4.setRow (w2.heap.size) (regI x i.a).cs.toArray).setRow (w3.heap.size) (regI x i.b).cs.toArray)) b1_5 rfl (by have := b1_5.ne pb_5 (by decide); exact this)
          have b2_6 := row_far (W := ((w4.setRow (w2.heap.size) (regI x i.a).cs.toArray).setRow (w3.heap.size) (regI x i.b).cs.toArray)) b2_5 rfl (by have := b2_5.ne pb_5 (by decide); exact this)
          have b3_6 := row_far (W := ((w4.setRow (w2.heap.size) (regI x i.a).cs.toArray).setRow (w3.heap.size) (regI x i.b).cs.toArray)) b3_5 rfl (by have := b3_5.ne pb_5 (by decide); exact this)
          have kk_6 := kk_5.trans (row_below (W := ((w4.setRow (w2.heap.size) (regI x i.a).cs.toArray).setRow (w3.heap.size) (regI x i.b).cs.toArray)) rfl (Nat.le_trans hwd hP4) kk_5.size)
          try simp only [Act.put]
          refine wpAnyH_done (by kernel_rfl) ?_ _
          refine NoPanic.normal ?_
          go_wp2_with fail
          go_meet
          exact ⟨_, _, rfl, rfl, kk_6, b1_6, b2_6, b3_6, pa_6, pb_6⟩
        · go_simp
          obtain ⟨w7, ew7⟩ : ∃ zz, zz = w2.alloc (.cells #[.int .i64 0, .int .i64 0, .int .i64 0] 25) := ⟨_, rfl⟩
          have hb7 : Below w2.heap.size w2 w7 := by rw [ew7]; exact (Below.refl _ _).alloc (Nat.le_refl _) _
          rw [← ew7]
          have pb7 : Blk w7 w2.heap.size 25 #[.int .i64 0, .int .i64 0, .int .i64 0] := by rw [ew7]; exact heap_alloc_new _ _
          have hP7 : wd.heap.size ≤ w2.heap.size := Kept.size S2
          have b1_7 := b1_2.on hb7
          have b2_7 := b2_2.on hb7
          have b3_7 := b3_2.on hb7
          have kk_7 := kk_2.trans (hb7.mono kk_2.size)
          have S7 : (fun W => Kept (fun g => False) wd W) w7 := Kept.next S2 (kept_below (fun _ => False) hb7) (fun _ h => h.elim)
          refine hK.out _ _ S7 (fun h7 => ?_)
          clear h2 hK K ew7
          try simp only [Act.put, List.setIfInBounds_toArray, List.set_cons_zero, List.set_cons_succ]
          refine wpAnyH_ready (rs := [8]) (by kernel_rfl) (by simp) ?_
          refine AllReadyH.cons (o := ⟨some 6, _, _, _, _, _⟩) rfl (fun K hK => ?_) AllReadyH.nil
          go_simp
          obtain ⟨w8, ew8⟩ : ∃ zz, zz = w7.alloc (.cells #[.int .i64 0, .int .i64 0, .int .i64 0] 25) := ⟨_, rfl⟩
          have hb8 : Below w7.heap.size w7 w8 := by rw [ew8]; exact (Below.refl _ _).alloc (Nat.le_refl _) _
          rw [← ew8]
          have pa8 : Blk w8 w7.heap.size 25 #[.int .i64 0, .int .i64 0, .int .i64 0] := by rw [ew8]; exact heap_alloc_new _ _
          have hP8 : wd.heap.size ≤ w7.heap.size := Kept.size S7
          have hne8 : w2.heap.size ≠ w7.heap.size := Nat.ne_of_lt pb7.lt
          have b1_8 := b1_7.on hb8
          have b2_8 := b2_7.on hb8
          have b3_8 := b3_7.on hb8
          have kk_8 := kk_7.trans (hb8.mono kk_7.size)
          have pb_8 := pb7.on hb8
          have S8 : (fun W => Kept (fun g => False) wd W) w8 := Kept.next S7 (kept_below (fun _ => False) hb8) (fun _ h => h.elim)
          refine hK.out _ _ S8 (fun h8 => ?_)
          clear h7 hK K ew8
          try simp only [Act.put, List.setIfInBounds_toArray, List.set_cons_zero, List.set_cons_succ]
          refine wpAnyH_ready (rs := [10]) (by kernel_rfl) (by simp) ?_
          refine AllReadyH.cons (o := ⟨none, _, _, _, _, _⟩) rfl (fun K hK => ?_) AllReadyH.nil
          rw [if_pos (by rfl)]
          refine wp_store_row 25 (.tmp 6) (.tmp 13) rfl (w7.heap.size) (regI x i.a).cs.toArray rfl rfl 25 #[.int .i64 0, .int .i64 0, .int .i64 0] pa8 size25 rfl (Wd.onea _) ?_
          refine hK.out _ _ (Kept.next S8 (kept_row _ (w7.heap.size) _) (fun g h => .inr (by rw [h]; exact hP8))) (fun h9 => ?_)
          clear h8 hK K
          have S9 : Kept (fun g => False) wd (w8.setRow (w7.heap.size) (regI x i.a).cs.toArray) := Kept.next S8 (kept_row _ (w7.heap.size) _) (fun g h => .inr (by rw [h]; exact hP8))
          have pa_9 : Blk (w8.setRow (w7.heap.size) (regI x i.a).cs.toArray) (w7.heap.size) 25 (regI x i.a).cs.toArray := row_named pa8 rfl
          have pb_9 := row_far (W := (w8.setRow (w7.heap.size) (regI x i.a).cs.toArray)) pb_8 rfl hne8.symm.symm
          have b1_9 := row_far (W := (w8.setRow (w7.heap.size) (regI x i.a).cs.toArray)) b1_8 rfl (by have := b1_8.ne pa8 (by decide); exact this)
          have b2_9 := row_far (W := (w8.setRow (w7.heap.size) (regI x i.a).cs.toArray)) b2_8 rfl (by have := b2_8.ne pa8 (by decide); exact this)
          have b3_9 := row_far (W := (w8.setRow (w7.heap.size) (regI x i.a).cs.toArray)) b3_8 rfl (by have := b3_8.ne pa8 (by decide); exact this)
          have kk_9 := kk_8.trans (row_below (W := (w8.setRow (w7.heap.size) (regI x i.a).cs.toArray)) rfl (Nat.le_trans hwd hP8) kk_8.size)
          try simp only [Act.put]
          refine wpAnyH_ready (rs := [11]) (by kernel_rfl) (by simp) ?_
          refine AllReadyH.cons (o := ⟨none, _, _, _, _, _⟩) rfl (fun K hK => ?_) AllReadyH.nil
          rw [if_pos (by rfl)]
          refine wp_store_row 25 (.tmp 7) (.tmp 17) rfl (w2.heap.size) (regI x i.b).cs.toArray rfl rfl 25 #[.int .i64 0, .int .i64 0, .int .i64 0] pb_9 size25 rfl (Wd.onea _) ?_
          refine hK.out _ _ (Kept.next S9 (kept_row _ (w2.heap.size) _) (fun g h => .inr (by rw [h]; exact hP7))) (fun h10 => ?_)
          clear h9 hK K
          have S10 : Kept (fun g => False) wd ((w8.setRow (w7.heap.size) (regI x i.a).cs.toArray).setRow (w2.heap.size) (regI x i.b).cs.toArray) := Kept.next S9 (kept_row _ (w2.heap.size) _) (fun g h => .inr (by rw [h]; exact hP7))
          have pb_10 : Blk ((w8.setRow (w7.heap.size) (regI x i.a).cs.toArray).setRow (w2.heap.size) (regI x i.b).cs.toArray) (w2.heap.size) 25 (regI x i.b).cs.toArray := row_named pb_9 rfl
          have pa_10 := row_far (W := ((w8.setRow (w7.heap.size) (regI x i.a).cs.toArray).setRow (w2.heap.size) (regI x i.b).cs.toArray)) pa_9 rfl hne8.symm
          have b1_10 := row_far (W := ((w8.setRow (w7.heap.size) (regI x i.a).cs.toArray).setRow (w2.heap.size) (regI x i.b).cs.toArray)) b1_9 rfl (by have := b1_9.ne pb_9 (by decide); exact this)
          have b2_10 := row_far (W := ((w8.setRow (w7.heap.size) (regI x i.a).cs.toArray).setRow (w2.heap.size) (regI x i.b).cs.toArray)) b2_9 rfl (by have := b2_9.ne pb_9 (by decide); exact this)
          have b3_10 := row_far (W := ((w8.setRow (w7.heap.size) (regI x i.a).cs.toArray).setRow (w2.heap.size) (regI x i.b).cs.toArray)) b3_9 rfl (by have := b3_9.ne pb_9 (by decide); exact this)
          have kk_10 := kk_9.trans (row_below (W := ((w8.setRow (w7.heap.size) (regI x i.a).cs.toArray).setRow (w2.heap.size) (regI x i.b).cs.toArray)) rfl (Nat.le_trans hwd hP7) kk_9.size)
          try simp only [Act.put]
          refine wpAnyH_done (by kernel_rfl) ?_ _
          refine NoPanic.normal ?_
          go_wp2_with fail
          go_meet
          exact ⟨_, _, rfl, rfl, kk_10, b1_10, b2_10, b3_10, pa_10, pb_10⟩
      · go_simp
        obtain ⟨w11, ew11⟩ : ∃ zz, zz = w1.alloc (.cells #[.int .i64 0, .int .i64 0, .int .i64 0] 25) := ⟨_, rfl⟩
        have hb11 : Below w1.heap.size w1 w11 := by rw [ew11]; exact (Below.refl _ _).alloc (Nat.le_refl _) _
        rw [← ew11]
        have pa11 : Blk w11 w1.heap.size 25 #[.int .i64 0, .int .i64 0, .int .i64 0] := by rw [ew11]; exact heap_alloc_new _ _
        have hP11 : wd.heap.size ≤ w1.heap.size := Kept.size S1
        have b1_11 := b1_1.on hb11
        have b2_11 := b2_1.on hb11
        have b3_11 := b3_1.on hb11
        have kk_11 := kk_1.trans (hb11.mono kk_1.size)
        have S11 : (fun W => Kept (fun g => False) wd W) w11 := Kept.next S1 (kept_below (fun _ => False) hb11) (fun _ h => h.elim)
        refine hK.out _ _ S11 (fun h11 => ?_)
        clear h1 hK K ew11
        try simp only [Act.put, List.setIfInBounds_toArray, List.set_cons_zero, List.set_cons_succ]
        refine wpAnyH_ready (rs := [7, 9]) (by kernel_rfl) (by simp) ?_
        refine AllReadyH.cons (o := ⟨some 17, _, _, _, _, _⟩) rfl (fun K hK => ?_) (AllReadyH.cons (o := ⟨some 7, _, _, _, _, _⟩) rfl (fun K hK => ?_) AllReadyH.nil)
        · go_simp
          refine (rget_any x i.b w11).mono ?_
          rintro e w12 ⟨rfl, hb12⟩
          have b1_12 := b1_11.on hb12
          have b2_12 := b2_11.on hb12
          have b3_12 := b3_11.on hb12
          have kk_12 := kk_11.trans (hb12.mono kk_11.size)
          have pa_12 := pa11.on hb12
          have S12 : (fun W => Kept (fun g => False) wd W) w12 := Kept.next S11 (kept_below (fun _ => False) hb12) (fun _ h => h.elim)
          refine hK.out _ _ S12 (fun h12 => ?_)
          clear h11 hK K
          try simp only [Act.put, List.setIfInBounds_toArray, List.set_cons_zero, List.set_cons_succ]
          refine wpAnyH_ready (rs := [9]) (by kernel_rfl) (by simp) ?_
          refine AllReadyH.cons (o := ⟨some 7, _, _, _, _, _⟩) rfl (fun K hK => ?_) AllReadyH.nil
          go_simp
          obtain ⟨w13, ew13⟩ : ∃ zz, zz = w12.alloc (.cells #[.int .i64 0, .int .i64 0, .int .i64 0] 25) := ⟨_, rfl⟩
          have hb13 : Below w12.heap.size w12 w13 := by rw [ew13]; exact (Below.refl _ _).alloc (Nat.le_refl _) _
          rw [← ew13]
          have pb13 : Blk w13 w12.heap.size 25 #[.int .i64 0, .int .i64 0, .int .i64 0] := by rw [ew13]; exact heap_alloc_new _ _
          have hP13 : wd.heap.size ≤ w12.heap.size := Kept.size S12
          have hne13 : w1.heap.size ≠ w12.heap.size := Nat.ne_of_lt pa_12.lt
          have b1_13 := b1_12.on hb13
          have b2_13 := b2_12.on hb13
          have b3_13 := b3_12.on hb13
          have kk_13 := kk_12.trans (hb13.mono kk_12.size)
          have pa_13 := pa_12.on hb13
          have S13 : (fun W => Kept (fun g => False) wd W) w13 := Kept.next S12 (kept_below (fun _ => False) hb13) (fun _ h => h.elim)
          refine hK.out _ _ S13 (fun h13 => ?_)
          clear h12 hK K ew13
          try simp only [Act.put, List.setIfInBounds_toArray, List.set_cons_zero, List.set_cons_succ]
          refine wpAnyH_ready (rs := [10]) (by kernel_rfl) (by simp) ?_
          refine AllReadyH.cons (o := ⟨none, _, _, _, _, _⟩) rfl (fun K hK => ?_) AllReadyH.nil
          rw [if_pos (by rfl)]
          refine wp_store_row 25 (.tmp 6) (.tmp 13) rfl (w1.heap.size) (regI x i.a).cs.toArray rfl rfl 25 #[.int .i64 0, .int .i64 0, .int .i64 0] pa_13 size25 rfl (Wd.onea _) ?_
          refine hK.out _ _ (Kept.next S13 (kept_row _ (w1.heap.size) _) (fun g h => .inr (by rw [h]; exact hP11))) (fun h14 => ?_)
          clear h13 hK K
          have S14 : Kept (fun g => False) wd (w13.setRow (w1.heap.size) (regI x i.a).cs.toArray) := Kept.next S13 (kept_row _ (w1.heap.size) _) (fun g h => .inr (by rw [h]; exact hP11))
          have pa_14 : Blk (w13.setRow (w1.heap.size) (regI x i.a).cs.toArray) (w1.heap.size) 25 (regI x i.a).cs.toArray := row_named pa_13 rfl
          have pb_14 := row_far (W := (w13.setRow (w1.heap.size) (regI x i.a).cs.toArray)) pb13 rfl hne13.symm
          have b1_14 := row_far (W := (w13.setRow (w1.heap.size) (regI x i.a).cs.toArray)) b1_13 rfl (by have := b1_13.ne pa_13 (by decide); exact this)
          have b2_14 := row_far (W := (w13.setRow (w1.heap.size) (regI x i.a).cs.toArray)) b2_13 rfl (by have := b2_13.ne pa_13 (by decide); exact this)
          have b3_14 := row_far (W := (w13.setRow (w1.heap.size) (regI x i.a).cs.toArray)) b3_13 rfl (by have := b3_13.ne pa_13 (by decide); exact this)
          have kk_14 := kk_13.trans (row_below (W := (w13.setRow (w1.heap.size) (regI x i.a).cs.toArray)) rfl (Nat.le_trans hwd hP11) kk_13.size)
          try simp only [Act.put]
          refine wpAnyH_ready (rs := [11]) (by kernel_rfl) (by simp) ?_
          refine AllReadyH.cons (o := ⟨none, _, _, _, _, _⟩) rfl (fun K hK => ?_) AllReadyH.nil
          rw [if_pos (by rfl)]
          refine wp_store_row 25 (.tmp 7) (.tmp 17) rfl (w12.heap.size) (regI x i.b).cs.toArray rfl rfl 25 #[.int .i64 0, .int .i64 0, .int .i64 0] pb_14 size25 rfl (Wd.onea _) ?_
          refine hK.out _ _ (Kept.next S14 (kept_row _ (w12.heap.size) _) (fun g h => .inr (by rw [h]; exact hP13))) (fun h15 => ?_)
          clear h14 hK K
          have S15 : Kept (fun g => False) wd ((w13.setRow (w1.heap.size) (regI x i.a).cs.toArray).setRow (w12.heap.size) (regI x i.b).cs.toArray) := Kept.next S14 (kept_row _ (w12.heap.size) _) (fun g h => .inr (by rw [h]; exact hP13))
          have pb_15 : Blk ((w13.setRow (w1.heap.size) (regI x i.a).cs.toArray).setRow (w12.heap.size) (regI x i.b).cs.toArray) (w12.heap.size) 25 (regI x i.b).cs.toArray := row_named pb_14 rfl
          have pa_15 := row_far (W := ((w13.setRow (w1.heap.size) (regI x i.a).cs.toArray).setRow (w12.heap.size) (regI x i.b).cs.toArray)) pa_14 rfl hne13
          have b1_15 := row_far (W := ((w13.setRow (w1.heap.size) (regI x i.a).cs.toArray).setRow (w12.heap.size) (regI x i.b).cs.toArray)) b1_14 rfl (by have := b1_14.ne pb_14 (by decide); exact this)
          have b2_15 := row_far (W := ((w13.setRow (w1.heap.size) (regI x i.a).cs.toArray).setRow (w12.heap.size) (regI x i.b).cs.toArray)) b2_14 rfl (by have := b2_14.ne pb_14 (by decide); exact this)
          have b3_15 := row_far (W := ((w13.setRow (w1.heap.size) (regI x i.a).cs.toArray).setRow (w12.heap.size) (regI x i.b).cs.toArray)) b3_14 rfl (by have := b3_14.ne pb_14 (by decide); exact this)
          have kk_15 := kk_14.trans (row_below (W := ((w13.setRow (w1.heap.size) (regI x i.a).cs.toArray).setRow (w12.heap.size) (regI x i.b).cs.toArray)) rfl (Nat.le_trans hwd hP13) kk_14.size)
          try simp only [Act.put]
          refine wpAnyH_done (by kernel_rfl) ?_ _
          refine NoPanic.normal ?_
          go_wp2_with fail
          go_meet
          exact ⟨_, _, rfl, rfl, kk_15, b1_15, b2_15, b3_15, pa_15, pb_15⟩
        · go_simp
          obtain ⟨w16, ew16⟩ : ∃ zz, zz = w11.alloc (.cells #[.int .i64 0, .int .i64 0, .int .i64 0] 25) := ⟨_, rfl⟩
          have hb16 : Below w11.heap.size w11 w16 := by rw [ew16]; exact (Below.refl _ _).alloc (Nat.le_refl _) _
          rw [← ew16]
          have pb16 : Blk w16 w11.heap.size 25 #[.int .i64 0, .int .i64 0, .int .i64 0] := by rw [ew16]; exact heap_alloc_new _ _
          have hP16 : wd.heap.size ≤ w11.heap.size := Kept.size S11
          have hne16 : w1.heap.size ≠ w11.heap.size := Nat.ne_of_lt pa11.lt
          have b1_16 := b1_11.on hb16
          have b2_16 := b2_11.on hb16
          have b3_16 := b3_11.on hb16
          have kk_16 := kk_11.trans (hb16.mono kk_11.size)
          have pa_16 := pa11.on hb16
          have S16 : (fun W => Kept (fun g => False) wd W) w16 := Kept.next S11 (kept_below (fun _ => False) hb16) (fun _ h => h.elim)
          refine hK.out _ _ S16 (fun h16 => ?_)
          clear h11 hK K ew16
          try simp only [Act.put, List.setIfInBounds_toArray, List.set_cons_zero, List.set_cons_succ]
          refine wpAnyH_ready (rs := [7]) (by kernel_rfl) (by simp) ?_
          refine AllReadyH.cons (o := ⟨some 17, _, _, _, _, _⟩) rfl (fun K hK => ?_) AllReadyH.nil
          go_simp
          refine (rget_any x i.b w16).mono ?_
          rintro e w17 ⟨rfl, hb17⟩
          have b1_17 := b1_16.on hb17
          have b2_17 := b2_16.on hb17
          have b3_17 := b3_16.on hb17
          have kk_17 := kk_16.trans (hb17.mono kk_16.size)
          have pa_17 := pa_16.on hb17
          have pb_17 := pb16.on hb17
          have S17 : (fun W => Kept (fun g => False) wd W) w17 := Kept.next S16 (kept_below (fun _ => False) hb17) (fun _ h => h.elim)
          refine hK.out _ _ S17 (fun h17 => ?_)
          clear h16 hK K
          try simp only [Act.put, List.setIfInBounds_toArray, List.set_cons_zero, List.set_cons_succ]
          refine wpAnyH_ready (rs := [10]) (by kernel_rfl) (by simp) ?_
          refine AllReadyH.cons (o := ⟨none, _, _, _, _, _⟩) rfl (fun K hK => ?_) AllReadyH.nil
          rw [if_pos (by rfl)]
          refine wp_store_row 25 (.tmp 6) (.tmp 13) rfl (w1.heap.size) (regI x i.a).cs.toArray rfl rfl 25 #[.int .i64 0, .int .i64 0, .int .i64 0] pa_17 size25 rfl (Wd.onea _) ?_
          refine hK.out _ _ (Kept.next S17 (kept_row _ (w1.heap.size) _) (fun g h => .inr (by rw [h]; exact hP11))) (fun h18 => ?_)
          clear h17 hK K
          have S18 : Kept (fun g => False) wd (w17.setRow (w1.heap.size) (regI x i.a).cs.toArray) := Kept.next S17 (kept_row _ (w1.heap.size) _) (fun g h => .inr (by rw [h]; exact hP11))
          have pa_18 : Blk (w17.setRow (w1.heap.size) (regI x i.a).cs.toArray) (w1.heap.size) 25 (regI x i.a).cs.toArray := row_named pa_17 rfl
          have pb_18 := row_far (W := (w17.setRow (w1.heap.size) (regI x i.a).cs.toArray)) pb_17 rfl hne16.symm
          have b1_18 := row_far (W := (w17.setRow (w1.heap.size) (regI x i.a).cs.toArray)) b1_17 rfl (by have := b1_17.ne pa_17 (by decide); exact this)
          have b2_18 := row_far (W := (w17.setRow (w1.heap.size) (regI x i.a).cs.toArray)) b2_17 rfl (by have := b2_17.ne pa_17 (by decide); exact this)
          have b3_18 := row_far (W := (w17.setRow (w1.heap.size) (regI x i.a).cs.toArray)) b3_17 rfl (by have := b3_17.ne pa_17 (by decide); exact this)
          have kk_18 := kk_17.trans (row_below (W := (w17.setRow (w1.heap.size) (regI x i.a).cs.toArray)) rfl (Nat.le_trans hwd hP11) kk_17.size)
          try simp only [Act.put]
          refine wpAnyH_ready (rs := [11]) (by kernel_rfl) (by simp) ?_
          refine AllReadyH.cons (o := ⟨none, _, _, _, _, _⟩) rfl (fun K hK => ?_) AllReadyH.nil
          rw [if_pos (by rfl)]
          refine wp_store_row 25 (.tmp 7) (.tmp 17) rfl (w11.heap.size) (regI x i.b).cs.toArray rfl rfl 25 #[.int .i64 0, .int .i64 0, .int .i64 0] pb_18 size25 rfl (Wd.onea _) ?_
          refine hK.out _ _ (Kept.next S18 (kept_row _ (w11.heap.size) _) (fun g h => .inr (by rw [h]; exact hP16))) (fun h19 => ?_)
          clear h18 hK K
          have S19 : Kept (fun g => False) wd ((w17.setRow (w1.heap.size) (regI x i.a).cs.toArray).setRow (w11.heap.size) (regI x i.b).cs.toArray) := Kept.next S18 (kept_row _ (w11.heap.size) _) (fun g h => .inr (by rw [h]; exact hP16))
          have pb_19 : Blk ((w17.setRow (w1.heap.size) (regI x i.a).cs.toArray).setRow (w11.heap.size) (regI x i.b).cs.toArray) (w11.heap.size) 25 (regI x i.b).cs.toArray := row_named pb_18 rfl
          have pa_19 := row_far (W := ((w17.setRow (w1.heap.size) (regI x i.a).cs.toArray).setRow (w11.heap.size) (regI x i.b).cs.toArray)) pa_18 rfl hne16
          have b1_19 := row_far (W := ((w17.setRow (w1.heap.size) (regI x i.a).cs.toArray).setRow (w11.heap.size) (regI x i.b).cs.toArray)) b1_18 rfl (by have := b1_18.ne pb_18 (by decide); exact this)
          have b2_19 := row_far (W := ((w17.setRow (w1.heap.size) (regI x i.a).cs.toArray).setRow (w11.heap.size) (regI x i.b).cs.toArray)) b2_18 rfl (by have := b2_18.ne pb_18 (by decide); exact this)
          have b3_19 := row_far (W := ((w17.setRow (w1.heap.size) (regI x i.a).cs.toArray).setRow (w11.heap.size) (regI x i.b).cs.toArray)) b3_18 rfl (by have := b3_18.ne pb_18 (by decide); exact this)
          have kk_19 := kk_18.trans (row_below (W := ((w17.setRow (w1.heap.size) (regI x i.a).cs.toArray).setRow (w11.heap.size) (regI x i.b).cs.toArray)) rfl (Nat.le_trans hwd hP16) kk_18.size)
          try simp only [Act.put]
          refine wpAnyH_done (by kernel_rfl) ?_ _
          refine NoPanic.normal ?_
          go_wp2_with fail
          go_meet
          exact ⟨_, _, rfl, rfl, kk_19, b1_19, b2_19, b3_19, pa_19, pb_19⟩
      · go_simp
        obtain ⟨w20, ew20⟩ : ∃ zz, zz = w1.alloc (.cells #[.int .i64 0, .int .i64 0, .int .i64 0] 25) := ⟨_, rfl⟩
        have hb20 : Below w1.heap.size w1 w20 := by rw [ew20]; exact (Below.refl _ _).alloc (Nat.le_refl _) _
        rw [← ew20]
        have pb20 : Blk w20 w1.heap.size 25 #[.int .i64 0, .int .i64 0, .int .i64 0] := by rw [ew20]; exact heap_alloc_new _ _
        have hP20 : wd.heap.size ≤ w1.heap.size := Kept.size S1
        have b1_20 := b1_1.on hb20
        have b2_20 := b2_1.on hb20
        have b3_20 := b3_1.on hb20
        have kk_20 := kk_1.trans (hb20.mono kk_1.size)
        have S20 : (fun W => Kept (fun g => False) wd W) w20 := Kept.next S1 (kept_below (fun _ => False) hb20) (fun _ h => h.elim)
        refine hK.out _ _ S20 (fun h20 => ?_)
        clear h1 hK K ew20
        try simp only [Act.put, List.setIfInBounds_toArray, List.set_cons_zero, List.set_cons_succ]
        refine wpAnyH_ready (rs := [7, 8]) (by kernel_rfl) (by simp) ?_
        refine AllReadyH.cons (o := ⟨some 17, _, _, _, _, _⟩) rfl (fun K hK => ?_) (AllReadyH.cons (o := ⟨some 6, _, _, _, _, _⟩) rfl (fun K hK => ?_) AllReadyH.nil)
        · go_simp
          refine (rget_any x i.b w20).mono ?_
          rintro e w21 ⟨rfl, hb21⟩
          have b1_21 := b1_20.on hb21
          have b2_21 := b2_20.on hb21
          have b3_21 := b3_20.on hb21
          have kk_21 := kk_20.trans (hb21.mono kk_20.size)
          have pb_21 := pb20.on hb21
          have S21 : (fun W => Kept (fun g => False) wd W) w21 := Kept.next S20 (kept_below (fun _ => False) hb21) (fun _ h => h.elim)
          refine hK.out _ _ S21 (fun h21 => ?_)
          clear h20 hK K
          try simp only [Act.put, List.setIfInBounds_toArray, List.set_cons_zero, List.set_cons_succ]
          refine wpAnyH_ready (rs := [8]) (by kernel_rfl) (by simp) ?_
          refine AllReadyH.cons (o := ⟨some 6, _, _, _, _, _⟩) rfl (fun K hK => ?_) AllReadyH.nil
          go_simp
          obtain ⟨w22, ew22⟩ : ∃ zz, zz = w21.alloc (.cells #[.int .i64 0, .int .i64 0, .int .i64 0] 25) := ⟨_, rfl⟩
          have hb22 : Below w21.heap.size w21 w22 := by rw [ew22]; exact (Below.refl _ _).alloc (Nat.le_refl _) _
          rw [← ew22]
          have pa22 : Blk w22 w21.heap.size 25 #[.int .i64 0, .int .i64 0, .int .i64 0] := by rw [ew22]; exact heap_alloc_new _ _
          have hP22 : wd.heap.size ≤ w21.heap.size := Kept.size S21
          have hne22 : w1.heap.size ≠ w21.heap.size := Nat.ne_of_lt pb_21.lt
          have b1_22 := b1_21.on hb22
          have b2_22 := b2_21.on hb22
          have b3_22 := b3_21.on hb22
          have kk_22 := kk_21.trans (hb22.mono kk_21.size)
          have pb_22 := pb_21.on hb22
          have S22 : (fun W => Kept (fun g => False) wd W) w22 := Kept.next S21 (kept_below (fun _ => False) hb22) (fun _ h => h.elim)
          refine hK.out _ _ S22 (fun h22 => ?_)
          clear h21 hK K ew22
          try simp only [Act.put, List.setIfInBounds_toArray, List.set_cons_zero, List.set_cons_succ]
          refine wpAnyH_ready (rs := [10]) (by kernel_rfl) (by simp) ?_
          refine AllReadyH.cons (o := ⟨none, _, _, _, _, _⟩) rfl (fun K hK => ?_) AllReadyH.nil
          rw [if_pos (by rfl)]
          refine wp_store_row 25 (.tmp 6) (.tmp 13) rfl (w21.heap.size) (regI x i.a).cs.toArray rfl rfl 25 #[.int .i64 0, .int .i64 0, .int .i64 0] pa22 size25 rfl (Wd.onea _) ?_
          refine hK.out _ _ (Kept.next S22 (kept_row _ (w21.heap.size) _) (fun g h => .inr (by rw [h]; exact hP22))) (fun h23 => ?_)
          clear h22 hK K
          have S23 : Kept (fun g => False) wd (w22.setRow (w21.heap.size) (regI x i.a).cs.toArray) := Kept.next S22 (kept_row _ (w21.heap.size) _) (fun g h => .inr (by rw [h]; exact hP22))
          have pa_23 : Blk (w22.setRow (w21.heap.size) (regI x i.a).cs.toArray) (w21.heap.size) 25 (regI x i.a).cs.toArray := row_named pa22 rfl
          have pb_23 := row_far (W := (w22.setRow (w21.heap.size) (regI x i.a).cs.toArray)) pb_22 rfl hne22.symm.symm
          have b1_23 := row_far (W := (w22.setRow (w21.heap.size) (regI x i.a).cs.toArray)) b1_22 rfl (by have := b1_22.ne pa22 (by decide); exact this)
          have b2_23 := row_far (W := (w22.setRow (w21.heap.size) (regI x i.a).cs.toArray)) b2_22 rfl (by have := b2_22.ne pa22 (by decide); exact this)
          have b3_23 := row_far (W := (w22.setRow (w21.heap.size) (regI x i.a).cs.toArray)) b3_22 rfl (by have := b3_22.ne pa22 (by decide); exact this)
          have kk_23 := kk_22.trans (row_below (W := (w22.setRow (w21.heap.size) (regI x i.a).cs.toArray)) rfl (Nat.le_trans hwd hP22) kk_22.size)
          try simp only [Act.put]
          refine wpAnyH_ready (rs := [11]) (by kernel_rfl) (by simp) ?_
          refine AllReadyH.cons (o := ⟨none, _, _, _, _, _⟩) rfl (fun K hK => ?_) AllReadyH.nil
          rw [if_pos (by rfl)]
          refine wp_store_row 25 (.tmp 7) (.tmp 17) rfl (w1.heap.size) (regI x i.b).cs.toArray rfl rfl 25 #[.int .i64 0, .int .i64 0, .int .i64 0] pb_23 size25 rfl (Wd.onea _) ?_
          refine hK.out _ _ (Kept.next S23 (kept_row _ (w1.heap.size) _) (fun g h => .inr (by rw [h]; exact hP20))) (fun h24 => ?_)
          clear h23 hK K
          have S24 : Kept (fun g => False) wd ((w22.setRow (w21.heap.size) (regI x i.a).cs.toArray).setRow (w1.heap.size) (regI x i.b).cs.toArray) := Kept.next S23 (kept_row _ (w1.heap.size) _) (fun g h => .inr (by rw [h]; exact hP20))
          have pb_24 : Blk ((w22.setRow (w21.heap.size) (regI x i.a).cs.toArray).setRow (w1.heap.size) (regI x i.b).cs.toArray) (w1.heap.size) 25 (regI x i.b).cs.toArray := row_named pb_23 rfl
          have pa_24 := row_far (W := ((w22.setRow (w21.heap.size) (regI x i.a).cs.toArray).setRow (w1.heap.size) (regI x i.b).cs.toArray)) pa_23 rfl hne22.symm
          have b1_24 := row_far (W := ((w22.setRow (w21.heap.size) (regI x i.a).cs.toArray).setRow (w1.heap.size) (regI x i.b).cs.toArray)) b1_23 rfl (by have := b1_23.ne pb_23 (by decide); exact this)
          have b2_24 := row_far (W := ((w22.setRow (w21.heap.size) (regI x i.a).cs.toArray).setRow (w1.heap.size) (regI x i.b).cs.toArray)) b2_23 rfl (by have := b2_23.ne pb_23 (by decide); exact this)
          have b3_24 := row_far (W := ((w22.setRow (w21.heap.size) (regI x i.a).cs.toArray).setRow (w1.heap.size) (regI x i.b).cs.toArray)) b3_23 rfl (by have := b3_23.ne pb_23 (by decide); exact this)
          have kk_24 := kk_23.trans (row_below (W := ((w22.setRow (w21.heap.size) (regI x i.a).cs.toArray).setRow (w1.heap.size) (regI x i.b).cs.toArray)) rfl (Nat.le_trans hwd hP20) kk_23.size)
          try simp only [Act.put]
          refine wpAnyH_done (by kernel_rfl) ?_ _
          refine NoPanic.normal ?_
          go_wp2_with fail
          go_meet
          exact ⟨_, _, rfl, rfl, kk_24, b1_24, b2_24, b3_24, pa_24, pb_24⟩
        · go_simp
          obtain ⟨w25, ew25⟩ : ∃ zz, zz = w20.alloc (.cells #[.int .i64 0, .int .i64 0, .int .i64 0] 25) := ⟨_, rfl⟩
          have hb25 : Below w20.heap.size w20 w25 := by rw [ew25]; exact (Below.refl _ _).alloc (Nat.le_refl _) _
          rw [← ew25]
          have pa25 : Blk w25 w20.heap.size 25 #[.int .i64 0, .int .i64 0, .int .i64 0] := by rw [ew25]; exact heap_alloc_new _ _
          have hP25 : wd.heap.size ≤ w20.heap.size := Kept.size S20
          have hne25 : w1.heap.size ≠ w20.heap.size := Nat.ne_of_lt pb20.lt
          have b1_25 := b1_20.on hb25
          have b2_25 := b2_20.on hb25
          have b3_25 := b3_20.on hb25
          have kk_25 := kk_20.trans (hb25.mono kk_20.size)
          have pb_25 := pb20.on hb25
          have S25 : (fun W => Kept (fun g => False) wd W) w25 := Kept.next S20 (kept_below (fun _ => False) hb25) (fun _ h => h.elim)
          refine hK.out _ _ S25 (fun h25 => ?_)
          clear h20 hK K ew25
          try simp only [Act.put, List.setIfInBounds_toArray, List.set_cons_zero, List.set_cons_succ]
          refine wpAnyH_ready (rs := [7]) (by kernel_rfl) (by simp) ?_
          refine AllReadyH.cons (o := ⟨some 17, _, _, _, _, _⟩) rfl (fun K hK => ?_) AllReadyH.nil
          go_simp
          refine (rget_any x i.b w25).mono ?_
          rintro e w26 ⟨rfl, hb26⟩
          have b1_26 := b1_25.on hb26
          have b2_26 := b2_25.on hb26
          have b3_26 := b3_25.on hb26
          have kk_26 := kk_25.trans (hb26.mono kk_25.size)
          have pb_26 := pb_25.on hb26
          have pa_26 := pa25.on hb26
          have S26 : (fun W => Kept (fun g => False) wd W) w26 := Kept.next S25 (kept_below (fun _ => False) hb26) (fun _ h => h.elim)
          refine hK.out _ _ S26 (fun h26 => ?_)
          clear h25 hK K
          try simp only [Act.put, List.setIfInBounds_toArray, List.set_cons_zero, List.set_cons_succ]
          refine wpAnyH_ready (rs := [10]) (by kernel_rfl) (by simp) ?_
          refine AllReadyH.cons (o := ⟨none, _, _, _, _, _⟩) rfl (fun K hK => ?_) AllReadyH.nil
          rw [if_pos (by rfl)]
          refine wp_store_row 25 (.tmp 6) (.tmp 13) rfl (w20.heap.size) (regI x i.a).cs.toArray rfl rfl 25 #[.int .i64 0, .int .i64 0, .int .i64 0] pa_26 size25 rfl (Wd.onea _) ?_
          refine hK.out _ _ (Kept.next S26 (kept_row _ (w20.heap.size) _) (fun g h => .inr (by rw [h]; exact hP25))) (fun h27 => ?_)
          clear h26 hK K
          have S27 : Kept (fun g => False) wd (w26.setRow (w20.heap.size) (regI x i.a).cs.toArray) := Kept.next S26 (kept_row _ (w20.heap.size) _) (fun g h => .inr (by rw [h]; exact hP25))
          have pa_27 : Blk (w26.setRow (w20.heap.size) (regI x i.a).cs.toArray) (w20.heap.size) 25 (regI x i.a).cs.toArray := row_named pa_26 rfl
          have pb_27 := row_far (W := (w26.setRow (w20.heap.size) (regI x i.a).cs.toArray)) pb_26 rfl hne25.symm.symm
          have b1_27 := row_far (W := (w26.setRow (w20.heap.size) (regI x i.a).cs.toArray)) b1_26 rfl (by have := b1_26.ne pa_26 (by decide); exact this)
          have b2_27 := row_far (W := (w26.setRow (w20.heap.size) (regI x i.a).cs.toArray)) b2_26 rfl (by have := b2_26.ne pa_26 (by decide); exact this)
          have b3_27 := row_far (W := (w26.setRow (w20.heap.size) (regI x i.a).cs.toArray)) b3_26 rfl (by have := b3_26.ne pa_26 (by decide); exact this)
          have kk_27 := kk_26.trans (row_below (W := (w26.setRow (w20.heap.size) (regI x i.a).cs.toArray)) rfl (Nat.le_trans hwd hP25) kk_26.size)
          try simp only [Act.put]
          refine wpAnyH_ready (rs := [11]) (by kernel_rfl) (by simp) ?_
          refine AllReadyH.cons (o := ⟨none, _, _, _, _, _⟩) rfl (fun K hK => ?_) AllReadyH.nil
          rw [if_pos (by rfl)]
          refine wp_store_row 25 (.tmp 7) (.tmp 17) rfl (w1.heap.size) (regI x i.b).cs.toArray rfl rfl 25 #[.int .i64 0, .int .i64 0, .int .i64 0] pb_27 size25 rfl (Wd.onea _) ?_
          refine hK.out _ _ (Kept.next S27 (kept_row _ (w1.heap.size) _) (fun g h => .inr (by rw [h]; exact hP20))) (fun h28 => ?_)
          clear h27 hK K
          have S28 : Kept (fun g => False) wd ((w26.setRow (w20.heap.size) (regI x i.a).cs.toArray).setRow (w1.heap.size) (regI x i.b).cs.toArray) := Kept.next S27 (kept_row _ (w1.heap.size) _) (fun g h => .inr (by rw [h]; exact hP20))
          have pb_28 : Blk ((w26.setRow (w20.heap.size) (regI x i.a).cs.toArray).setRow (w1.heap.size) (regI x i.b).cs.toArray) (w1.heap.size) 25 (regI x i.b).cs.toArray := row_named pb_27 rfl
          have pa_28 := row_far (W := ((w26.setRow (w20.heap.size) (regI x i.a).cs.toArray).setRow (w1.heap.size) (regI x i.b).cs.toArray)) pa_27 rfl hne25.symm
          have b1_28 := row_far (W := ((w26.setRow (w20.heap.size) (regI x i.a).cs.toArray).setRow (w1.heap.size) (regI x i.b).cs.toArray)) b1_27 rfl (by have := b1_27.ne pb_27 (by decide); exact this)
          have b2_28 := row_far (W := ((w26.setRow (w20.heap.size) (regI x i.a).cs.toArray).setRow (w1.heap.size) (regI x i.b).cs.toArray)) b2_27 rfl (by have := b2_27.ne pb_27 (by decide); exact this)
          have b3_28 := row_far (W := ((w26.setRow (w20.heap.size) (regI x i.a).cs.toArray).setRow (w1.heap.size) (regI x i.b).cs.toArray)) b3_27 rfl (by have := b3_27.ne pb_27 (by decide); exact this)
          have kk_28 := kk_27.trans (row_below (W := ((w26.setRow (w20.heap.size) (regI x i.a).cs.toArray).setRow (w1.heap.size) (regI x i.b).cs.toArray)) rfl (Nat.le_trans hwd hP20) kk_27.size)
          try simp only [Act.put]
          refine wpAnyH_done (by kernel_rfl) ?_ _
          refine NoPanic.normal ?_
          go_wp2_with fail
          go_meet
          exact ⟨_, _, rfl, rfl, kk_28, b1_28, b2_28, b3_28, pa_28, pb_28⟩
    · go_simp
      obtain ⟨w29, ew29⟩ : ∃ zz, zz = wd.alloc (.cells #[.int .i64 0, .int .i64 0, .int .i64 0] 25) := ⟨_, rfl⟩
      have hb29 : Below wd.heap.size wd w29 := by rw [ew29]; exact (Below.refl _ _).alloc (Nat.le_refl _) _
      rw [← ew29]
      have pa29 : Blk w29 wd.heap.size 25 #[.int .i64 0, .int .i64 0, .int .i64 0] := by rw [ew29]; exact heap_alloc_new _ _
      have hP29 : wd.heap.size ≤ wd.heap.size := Kept.size kS
      have b1_29 := b1.on hb29
      have b2_29 := b2.on hb29
      have b3_29 := b3.on hb29
      have kk_29 := kk.trans (hb29.mono kk.size)
      have S29 : (fun W => Kept (fun g => False) wd W) w29 := Kept.next kS (kept_below (fun _ => False) hb29) (fun _ h => h.elim)
      refine hK.out _ _ S29 (fun h29 => ?_)
      clear hHeld hK K ew29
      try simp only [Act.put, List.setIfInBounds_toArray, List.set_cons_zero, List.set_cons_succ]
      refine wpAnyH_ready (rs := [3, 9]) (by kernel_rfl) (by simp) ?_
      refine AllReadyH.cons (o := ⟨some 13, _, _, _, _, _⟩) rfl (fun K hK => ?_) (AllReadyH.cons (o := ⟨some 7, _, _, _, _, _⟩) rfl (fun K hK => ?_) AllReadyH.nil)
      · go_simp
        refine (rget_any x i.a w29).mono ?_
        rintro e w30 ⟨rfl, hb30⟩
        have b1_30 := b1_29.on hb30
        have b2_30 := b2_29.on hb30
        have b3_30 := b3_29.on hb30
        have kk_30 := kk_29.trans (hb30.mono kk_29.size)
        have pa_30 := pa29.on hb30
        have S30 : (fun W => Kept (fun g => False) wd W) w30 := Kept.next S29 (kept_below (fun _ => False) hb30) (fun _ h => h.elim)
        refine hK.out _ _ S30 (fun h30 => ?_)
        clear h29 hK K
        try simp only [Act.put, List.setIfInBounds_toArray, List.set_cons_zero, List.set_cons_succ]
        refine wpAnyH_ready (rs := [7, 9]) (by kernel_rfl) (by simp) ?_
        refine AllReadyH.cons (o := ⟨some 17, _, _, _, _, _⟩) rfl (fun K hK => ?_) (AllReadyH.cons (o := ⟨some 7, _, _, _, _, _⟩) rfl (fun K hK => ?_) AllReadyH.nil)
        · go_simp
          refine (rget_any x i.b w30).mono ?_
          rintro e w31 ⟨rfl, hb31⟩
          have b1_31 := b1_30.on hb31
          have b2_31 := b2_30.on hb31
          have b3_31 := b3_30.on hb31
          have kk_31 := kk_30.trans (hb31.mono kk_30.size)
          have pa_31 := pa_30.on hb31
          have S31 : (fun W => Kept (fun g => False) wd W) w31 := Kept.next S30 (kept_below (fun _ => False) hb31) (fun _ h => h.elim)
          refine hK.out _ _ S31 (fun h31 => ?_)
          clear h30 hK K
          try simp only [Act.put, List.setIfInBounds_toArray, List.set_cons_zero, List.set_cons_succ]
          refine wpAnyH_ready (rs := [9]) (by kernel_rfl) (by simp) ?_
          refine AllReadyH.cons (o := ⟨some 7, _, _, _, _, _⟩) rfl (fun K hK => ?_) AllReadyH.nil
          go_simp
          obtain ⟨w32, ew32⟩ : ∃ zz, zz = w31.alloc (.cells #[.int .i64 0, .int .i64 0, .int .i64 0] 25) := ⟨_, rfl⟩
          have hb32 : Below w31.heap.size w31 w32 := by rw [ew32]; exact (Below.refl _ _).alloc (Nat.le_refl _) _
          rw [← ew32]
          have pb32 : Blk w32 w31.heap.size 25 #[.int .i64 0, .int .i64 0, .int .i64 0] := by rw [ew32]; exact heap_alloc_new _ _
          have hP32 : wd.heap.size ≤ w31.heap.size := Kept.size S31
          have hne32 : wd.heap.size ≠ w31.heap.size := Nat.ne_of_lt pa_31.lt
          have b1_32 := b1_31.on hb32
          have b2_32 := b2_31.on hb32
          have b3_32 := b3_31.on hb32
          have kk_32 := kk_31.trans (hb32.mono kk_31.size)
          have pa_32 := pa_31.on hb32
          have S32 : (fun W => Kept (fun g => False) wd W) w32 := Kept.next S31 (kept_below (fun _ => False) hb32) (fun _ h => h.elim)
          refine hK.out _ _ S32 (fun h32 => ?_)
          clear h31 hK K ew32
          try simp only [Act.put, List.setIfInBounds_toArray, List.set_cons_zero, List.set_cons_succ]
          refine wpAnyH_ready (rs := [10]) (by kernel_rfl) (by simp) ?_
          refine AllReadyH.cons (o := ⟨none, _, _, _, _, _⟩) rfl (fun K hK => ?_) AllReadyH.nil
          rw [if_pos (by rfl)]
          refine wp_store_row 25 (.tmp 6) (.tmp 13) rfl (wd.heap.size) (regI x i.a).cs.toArray rfl rfl 25 #[.int .i64 0, .int .i64 0, .int .i64 0] pa_32 size25 rfl (Wd.onea _) ?_
          refine hK.out _ _ (Kept.next S32 (kept_row _ (wd.heap.size) _) (fun g h => .inr (by rw [h]; exact hP29))) (fun h33 => ?_)
          clear h32 hK K
          have S33 : Kept (fun g => False) wd (w32.setRow (wd.heap.size) (regI x i.a).cs.toArray) := Kept.next S32 (kept_row _ (wd.heap.size) _) (fun g h => .inr (by rw [h]; exact hP29))
          have pa_33 : Blk (w32.setRow (wd.heap.size) (regI x i.a).cs.toArray) (wd.heap.size) 25 (regI x i.a).cs.toArray := row_named pa_32 rfl
          have pb_33 := row_far (W := (w32.setRow (wd.heap.size) (regI x i.a).cs.toArray)) pb32 rfl hne32.symm
          have b1_33 := row_far (W := (w32.setRow (wd.heap.size) (regI x i.a).cs.toArray)) b1_32 rfl (by have := b1_32.ne pa_32 (by decide); exact this)
          have b2_33 := row_far (W := (w32.setRow (wd.heap.size) (regI x i.a).cs.toArray)) b2_32 rfl (by have := b2_32.ne pa_32 (by decide); exact this)
          have b3_33 := row_far (W := (w32.setRow (wd.heap.size) (regI x i.a).cs.toArray)) b3_32 rfl (by have := b3_32.ne pa_32 (by decide); exact this)
          have kk_33 := kk_32.trans (row_below (W := (w32.setRow (wd.heap.size) (regI x i.a).cs.toArray)) rfl (Nat.le_trans hwd hP29) kk_32.size)
          try simp only [Act.put]
          refine wpAnyH_ready (rs := [11]) (by kernel_rfl) (by simp) ?_
          refine AllReadyH.cons (o := ⟨none, _, _, _, _, _⟩) rfl (fun K hK => ?_) AllReadyH.nil
          rw [if_pos (by rfl)]
          refine wp_store_row 25 (.tmp 7) (.tmp 17) rfl (w31.heap.size) (regI x i.b).cs.toArray rfl rfl 25 #[.int .i64 0, .int .i64 0, .int .i64 0] pb_33 size25 rfl (Wd.onea _) ?_
          refine hK.out _ _ (Kept.next S33 (kept_row _ (w31.heap.size) _) (fun g h => .inr (by rw [h]; exact hP32))) (fun h34 => ?_)
          clear h33 hK K
          have S34 : Kept (fun g => False) wd ((w32.setRow (wd.heap.size) (regI x i.a).cs.toArray).setRow (w31.heap.size) (regI x i.b).cs.toArray) := Kept.next S33 (kept_row _ (w31.heap.size) _) (fun g h => .inr (by rw [h]; exact hP32))
          have pb_34 : Blk ((w32.setRow (wd.heap.size) (regI x i.a).cs.toArray).setRow (w31.heap.size) (regI x i.b).cs.toArray) (w31.heap.size) 25 (regI x i.b).cs.toArray := row_named pb_33 rfl
          have pa_34 := row_far (W := ((w32.setRow (wd.heap.size) (regI x i.a).cs.toArray).setRow (w31.heap.size) (regI x i.b).cs.toArray)) pa_33 rfl hne32
          have b1_34 := row_far (W := ((w32.setRow (wd.heap.size) (regI x i.a).cs.toArray).setRow (w31.heap.size) (regI x i.b).cs.toArray)) b1_33 rfl (by have := b1_33.ne pb_33 (by decide); exact this)
          have b2_34 := row_far (W := ((w32.setRow (wd.heap.size) (regI x i.a).cs.toArray).setRow (w31.heap.size) (regI x i.b).cs.toArray)) b2_33 rfl (by have := b2_33.ne pb_33 (by decide); exact this)
          have b3_34 := row_far (W := ((w32.setRow (wd.heap.size) (regI x i.a).cs.toArray).setRow (w31.heap.size) (regI x i.b).cs.toArray)) b3_33 rfl (by have := b3_33.ne pb_33 (by decide); exact this)
          have kk_34 := kk_33.trans (row_below (W := ((w32.setRow (wd.heap.size) (regI x i.a).cs.toArray).setRow (w31.heap.size) (regI x i.b).cs.toArray)) rfl (Nat.le_trans hwd hP32) kk_33.size)
          try simp only [Act.put]
          refine wpAnyH_done (by kernel_rfl) ?_ _
          refine NoPanic.normal ?_
          go_wp2_with fail
          go_meet
          exact ⟨_, _, rfl, rfl, kk_34, b1_34, b2_34, b3_34, pa_34, pb_34⟩
        · go_simp
          obtain ⟨w35, ew35⟩ : ∃ zz, zz = w30.alloc (.cells #[.int .i64 0, .int .i64 0, .int .i64 0] 25) := ⟨_, rfl⟩
          have hb35 : Below w30.heap.size w30 w35 := by rw [ew35]; exact (Below.refl _ _).alloc (Nat.le_refl _) _
          rw [← ew35]
          have pb35 : Blk w35 w30.heap.size 25 #[.int .i64 0, .int .i64 0, .int .i64 0] := by rw [ew35]; exact heap_alloc_new _ _
          have hP35 : wd.heap.size ≤ w30.heap.size := Kept.size S30
          have hne35 : wd.heap.size ≠ w30.heap.size := Nat.ne_of_lt pa_30.lt
          have b1_35 := b1_30.on hb35
          have b2_35 := b2_30.on hb35
          have b3_35 := b3_30.on hb35
          have kk_35 := kk_30.trans (hb35.mono kk_30.size)
          have pa_35 := pa_30.on hb35
          have S35 : (fun W => Kept (fun g => False) wd W) w35 := Kept.next S30 (kept_below (fun _ => False) hb35) (fun _ h => h.elim)
          refine hK.out _ _ S35 (fun h35 => ?_)
          clear h30 hK K ew35
          try simp only [Act.put, List.setIfInBounds_toArray, List.set_cons_zero, List.set_cons_succ]
          refine wpAnyH_ready (rs := [7]) (by kernel_rfl) (by simp) ?_
          refine AllReadyH.cons (o := ⟨some 17, _, _, _, _, _⟩) rfl (fun K hK => ?_) AllReadyH.nil
          go_simp
          refine (rget_any x i.b w35).mono ?_
          rintro e w36 ⟨rfl, hb36⟩
          have b1_36 := b1_35.on hb36
          have b2_36 := b2_35.on hb36
          have b3_36 := b3_35.on hb36
          have kk_36 := kk_35.trans (hb36.mono kk_35.size)
          have pa_36 := pa_35.on hb36
          have pb_36 := pb35.on hb36
          have S36 : (fun W => Kept (fun g => False) wd W) w36 := Kept.next S35 (kept_below (fun _ => False) hb36) (fun _ h => h.elim)
          refine hK.out _ _ S36 (fun h36 => ?_)
          clear h35 hK K
          try simp only [Act.put, List.setIfInBounds_toArray, List.set_cons_zero, List.set_cons_succ]
          refine wpAnyH_ready (rs := [10]) (by kernel_rfl) (by simp) ?_
          refine AllReadyH.cons (o := ⟨none, _, _, _, _, _⟩) rfl (fun K hK => ?_) AllReadyH.nil
          rw [if_pos (by rfl)]
          refine wp_store_row 25 (.tmp 6) (.tmp 13) rfl (wd.heap.size) (regI x i.a).cs.toArray rfl rfl 25 #[.int .i64 0, .int .i64 0, .int .i64 0] pa_36 size25 rfl (Wd.onea _) ?_
          refine hK.out _ _ (Kept.next S36 (kept_row _ (wd.heap.size) _) (fun g h => .inr (by rw [h]; exact hP29))) (fun h37 => ?_)
          clear h36 hK K
          have S37 : Kept (fun g => False) wd (w36.setRow (wd.heap.size) (regI x i.a).cs.toArray) := Kept.next S36 (kept_row _ (wd.heap.size) _) (fun g h => .inr (by rw [h]; exact hP29))
          have pa_37 : Blk (w36.setRow (wd.heap.size) (regI x i.a).cs.toArray) (wd.heap.size) 25 (regI x i.a).cs.toArray := row_named pa_36 rfl
          have pb_37 := row_far (W := (w36.setRow (wd.heap.size) (regI x i.a).cs.toArray)) pb_36 rfl hne35.symm
          have b1_37 := row_far (W := (w36.setRow (wd.heap.size) (regI x i.a).cs.toArray)) b1_36 rfl (by have := b1_36.ne pa_36 (by decide); exact this)
          have b2_37 := row_far (W := (w36.setRow (wd.heap.size) (regI x i.a).cs.toArray)) b2_36 rfl (by have := b2_36.ne pa_36 (by decide); exact this)
          have b3_37 := row_far (W := (w36.setRow (wd.heap.size) (regI x i.a).cs.toArray)) b3_36 rfl (by have := b3_36.ne pa_36 (by decide); exact this)
          have kk_37 := kk_36.trans (row_below (W := (w36.setRow (wd.heap.size) (regI x i.a).cs.toArray)) rfl (Nat.le_trans hwd hP29) kk_36.size)
          try simp only [Act.put]
          refine wpAnyH_ready (rs := [11]) (by kernel_rfl) (by simp) ?_
          refine AllReadyH.cons (o := ⟨none, _, _, _, _, _⟩) rfl (fun K hK => ?_) AllReadyH.nil
          rw [if_pos (by rfl)]
          refine wp_store_row 25 (.tmp 7) (.tmp 17) rfl (w30.heap.size) (regI x i.b).cs.toArray rfl rfl 25 #[.int .i64 0, .int .i64 0, .int .i64 0] pb_37 size25 rfl (Wd.onea _) ?_
          refine hK.out _ _ (Kept.next S37 (kept_row _ (w30.heap.size) _) (fun g h => .inr (by rw [h]; exact hP35))) (fun h38 => ?_)
          clear h37 hK K
          have S38 : Kept (fun g => False) wd ((w36.setRow (wd.heap.size) (regI x i.a).cs.toArray).setRow (w30.heap.size) (regI x i.b).cs.toArray) := Kept.next S37 (kept_row _ (w30.heap.size) _) (fun g h => .inr (by rw [h]; exact hP35))
          have pb_38 : Blk ((w36.setRow (wd.heap.size) (regI x i.a).cs.toArray).setRow (w30.heap.size) (regI x i.b).cs.toArray) (w30.heap.size) 25 (regI x i.b).cs.toArray := row_named pb_37 rfl
          have pa_38 := row_far (W := ((w36.setRow (wd.heap.size) (regI x i.a).cs.toArray).setRow (w30.heap.size) (regI x i.b).cs.toArray)) pa_37 rfl hne35
          have b1_38 := row_far (W := ((w36.setRow (wd.heap.size) (regI x i.a).cs.toArray).setRow (w30.heap.size) (regI x i.b).cs.toArray)) b1_37 rfl (by have := b1_37.ne pb_37 (by decide); exact this)
          have b2_38 := row_far (W := ((w36.setRow (wd.heap.size) (regI x i.a).cs.toArray).setRow (w30.heap.size) (regI x i.b).cs.toArray)) b2_37 rfl (by have := b2_37.ne pb_37 (by decide); exact this)
          have b3_38 := row_far (W := ((w36.setRow (wd.heap.size) (regI x i.a).cs.toArray).setRow (w30.heap.size) (regI x i.b).cs.toArray)) b3_37 rfl (by have := b3_37.ne pb_37 (by decide); exact this)
          have kk_38 := kk_37.trans (row_below (W := ((w36.setRow (wd.heap.size) (regI x i.a).cs.toArray).setRow (w30.heap.size) (regI x i.b).cs.toArray)) rfl (Nat.le_trans hwd hP35) kk_37.size)
          try simp only [Act.put]
          refine wpAnyH_done (by kernel_rfl) ?_ _
          refine NoPanic.normal ?_
          go_wp2_with fail
          go_meet
          exact ⟨_, _, rfl, rfl, kk_38, b1_38, b2_38, b3_38, pa_38, pb_38⟩
      · go_simp
        obtain ⟨w39, ew39⟩ : ∃ zz, zz = w29.alloc (.cells #[.int .i64 0, .int .i64 0, .int .i64 0] 25) := ⟨_, rfl⟩
        have hb39 : Below w29.heap.size w29 w39 := by rw [ew39]; exact (Below.refl _ _).alloc (Nat.le_refl _) _
        rw [← ew39]
        have pb39 : Blk w39 w29.heap.size 25 #[.int .i64 0, .int .i64 0, .int .i64 0] := by rw [ew39]; exact heap_alloc_new _ _
        have hP39 : wd.heap.size ≤ w29.heap.size := Kept.size S29
        have hne39 : wd.heap.size ≠ w29.heap.size := Nat.ne_of_lt pa29.lt
        have b1_39 := b1_29.on hb39
        have b2_39 := b2_29.on hb39
        have b3_39 := b3_29.on hb39
        have kk_39 := kk_29.trans (hb39.mono kk_29.size)
        have pa_39 := pa29.on hb39
        have S39 : (fun W => Kept (fun g => False) wd W) w39 := Kept.next S29 (kept_below (fun _ => False) hb39) (fun _ h => h.elim)
        refine hK.out _ _ S39 (fun h39 => ?_)
        clear h29 hK K ew39
        try simp only [Act.put, List.setIfInBounds_toArray, List.set_cons_zero, List.set_cons_succ]
        refine wpAnyH_ready (rs := [3]) (by kernel_rfl) (by simp) ?_
        refine AllReadyH.cons (o := ⟨some 13, _, _, _, _, _⟩) rfl (fun K hK => ?_) AllReadyH.nil
        go_simp
        refine (rget_any x i.a w39).mono ?_
        rintro e w40 ⟨rfl, hb40⟩
        have b1_40 := b1_39.on hb40
        have b2_40 := b2_39.on hb40
        have b3_40 := b3_39.on hb40
        have kk_40 := kk_39.trans (hb40.mono kk_39.size)
        have pa_40 := pa_39.on hb40
        have pb_40 := pb39.on hb40
        have S40 : (fun W => Kept (fun g => False) wd W) w40 := Kept.next S39 (kept_below (fun _ => False) hb40) (fun _ h => h.elim)
        refine hK.out _ _ S40 (fun h40 => ?_)
        clear h39 hK K
        try simp only [Act.put, List.setIfInBounds_toArray, List.set_cons_zero, List.set_cons_succ]
        refine wpAnyH_ready (rs := [7]) (by kernel_rfl) (by simp) ?_
        refine AllReadyH.cons (o := ⟨some 17, _, _, _, _, _⟩) rfl (fun K hK => ?_) AllReadyH.nil
        go_simp
        refine (rget_any x i.b w40).mono ?_
        rintro e w41 ⟨rfl, hb41⟩
        have b1_41 := b1_40.on hb41
        have b2_41 := b2_40.on hb41
        have b3_41 := b3_40.on hb41
        have kk_41 := kk_40.trans (hb41.mono kk_40.size)
        have pa_41 := pa_40.on hb41
        have pb_41 := pb_40.on hb41
        have S41 : (fun W => Kept (fun g => False) wd W) w41 := Kept.next S40 (kept_below (fun _ => False) hb41) (fun _ h => h.elim)
        refine hK.out _ _ S41 (fun h41 => ?_)
        clear h40 hK K
        try simp only [Act.put, List.setIfInBounds_toArray, List.set_cons_zero, List.set_cons_succ]
        refine wpAnyH_ready (rs := [10]) (by kernel_rfl) (by simp) ?_
        refine AllReadyH.cons (o := ⟨none, _, _, _, _, _⟩) rfl (fun K hK => ?_) AllReadyH.nil
        rw [if_pos (by rfl)]
        refine wp_store_row 25 (.tmp 6) (.tmp 13) rfl (wd.heap.size) (regI x i.a).cs.toArray rfl rfl 25 #[.int .i64 0, .int .i64 0, .int .i64 0] pa_41 size25 rfl (Wd.onea _) ?_
        refine hK.out _ _ (Kept.next S41 (kept_row _ (wd.heap.size) _) (fun g h => .inr (by rw [h]; exact hP29))) (fun h42 => ?_)
        clear h41 hK K
        have S42 : Kept (fun g => False) wd (w41.setRow (wd.heap.size) (regI x i.a).cs.toArray) := Kept.next S41 (kept_row _ (wd.heap.size) _) (fun g h => .inr (by rw [h]; exact hP29))
        have pa_42 : Blk (w41.setRow (wd.heap.size) (regI x i.a).cs.toArray) (wd.heap.size) 25 (regI x i.a).cs.toArray := row_named pa_41 rfl
        have pb_42 := row_far (W := (w41.setRow (wd.heap.size) (regI x i.a).cs.toArray)) pb_41 rfl hne39.symm
        have b1_42 := row_far (W := (w41.setRow (wd.heap.size) (regI x i.a).cs.toArray)) b1_41 rfl (by have := b1_41.ne pa_41 (by decide); exact this)
        have b2_42 := row_far (W := (w41.setRow (wd.heap.size) (regI x i.a).cs.toArray)) b2_41 rfl (by have := b2_41.ne pa_41 (by decide); exact this)
        have b3_42 := row_far (W := (w41.setRow (wd.heap.size) (regI x i.a).cs.toArray)) b3_41 rfl (by have := b3_41.ne pa_41 (by decide); exact this)
        have kk_42 := kk_41.trans (row_below (W := (w41.setRow (wd.heap.size) (regI x i.a).cs.toArray)) rfl (Nat.le_trans hwd hP29) kk_41.size)
        try simp only [Act.put]
        refine wpAnyH_ready (rs := [11]) (by kernel_rfl) (by simp) ?_
        refine AllReadyH.cons (o := ⟨none, _, _, _, _, _⟩) rfl (fun K hK => ?_) AllReadyH.nil
        rw [if_pos (by rfl)]
        refine wp_store_row 25 (.tmp 7) (.tmp 17) rfl (w29.heap.size) (regI x i.b).cs.toArray rfl rfl 25 #[.int .i64 0, .int .i64 0, .int .i64 0] pb_42 size25 rfl (Wd.onea _) ?_
        refine hK.out _ _ (Kept.next S42 (kept_row _ (w29.heap.size) _) (fun g h => .inr (by rw [h]; exact hP39))) (fun h43 => ?_)
        clear h42 hK K
        have S43 : Kept (fun g => False) wd ((w41.setRow (wd.heap.size) (regI x i.a).cs.toArray).setRow (w29.heap.size) (regI x i.b).cs.toArray) := Kept.next S42 (kept_row _ (w29.heap.size) _) (fun g h => .inr (by rw [h]; exact hP39))
        have pb_43 : Blk ((w41.setRow (wd.heap.size) (regI x i.a).cs.toArray).setRow (w29.heap.size) (regI x i.b).cs.toArray) (w29.heap.size) 25 (regI x i.b).cs.toArray := row_named pb_42 rfl
        have pa_43 := row_far (W := ((w41.setRow (wd.heap.size) (regI x i.a).cs.toArray).setRow (w29.heap.size) (regI x i.b).cs.toArray)) pa_42 rfl hne39
        have b1_43 := row_far (W := ((w41.setRow (wd.heap.size) (regI x i.a).cs.toArray).setRow (w29.heap.size) (regI x i.b).cs.toArray)) b1_42 rfl (by have := b1_42.ne pb_42 (by decide); exact this)
        have b2_43 := row_far (W := ((w41.setRow (wd.heap.size) (regI x i.a).cs.toArray).setRow (w29.heap.size) (regI x i.b).cs.toArray)) b2_42 rfl (by have := b2_42.ne pb_42 (by decide); exact this)
        have b3_43 := row_far (W := ((w41.setRow (wd.heap.size) (regI x i.a).cs.toArray).setRow (w29.heap.size) (regI x i.b).cs.toArray)) b3_42 rfl (by have := b3_42.ne pb_42 (by decide); exact this)
        have kk_43 := kk_42.trans (row_below (W := ((w41.setRow (wd.heap.size) (regI x i.a).cs.toArray).setRow (w29.heap.size) (regI x i.b).cs.toArray)) rfl (Nat.le_trans hwd hP39) kk_42.size)
        try simp only [Act.put]
        refine wpAnyH_done (by kernel_rfl) ?_ _
        refine NoPanic.normal ?_
        go_wp2_with fail
        go_meet
        exact ⟨_, _, rfl, rfl, kk_43, b1_43, b2_43, b3_43, pa_43, pb_43⟩
    · go_simp
      obtain ⟨w44, ew44⟩ : ∃ zz, zz = wd.alloc (.cells #[.int .i64 0, .int .i64 0, .int .i64 0] 25) := ⟨_, rfl⟩
      have hb44 : Below wd.heap.size wd w44 := by rw [ew44]; exact (Below.refl _ _).alloc (Nat.le_refl _) _
      rw [← ew44]
      have pb44 : Blk w44 wd.heap.size 25 #[.int .i64 0, .int .i64 0, .int .i64 0] := by rw [ew44]; exact heap_alloc_new _ _
      have hP44 : wd.heap.size ≤ wd.heap.size := Kept.size kS
      have b1_44 := b1.on hb44
      have b2_44 := b2.on hb44
      have b3_44 := b3.on hb44
      have kk_44 := kk.trans (hb44.mono kk.size)
      have S44 : (fun W => Kept (fun g => False) wd W) w44 := Kept.next kS (kept_below (fun _ => False) hb44) (fun _ h => h.elim)
      refine hK.out _ _ S44 (fun h44 => ?_)
      clear hHeld hK K ew44
      try simp only [Act.put, List.setIfInBounds_toArray, List.set_cons_zero, List.set_cons_succ]
      refine wpAnyH_ready (rs := [3, 8]) (by kernel_rfl) (by simp) ?_
      refine AllReadyH.cons (o := ⟨some 13, _, _, _, _, _⟩) rfl (fun K hK => ?_) (AllReadyH.cons (o := ⟨some 6, _, _, _, _, _⟩) rfl (fun K hK => ?_) AllReadyH.nil)
      · go_simp
        refine (rget_any x i.a w44).mono ?_
        rintro e w45 ⟨rfl, hb45⟩
        have b1_45 := b1_44.on hb45
        have b2_45 := b2_44.on hb45
        have b3_45 := b3_44.on hb45
        have kk_45 := kk_44.trans (hb45.mono kk_44.size)
        have pb_45 := pb44.on hb45
        have S45 : (fun W => Kept (fun g => False) wd W) w45 := Kept.next S44 (kept_below (fun _ => False) hb45) (fun _ h => h.elim)
        refine hK.out _ _ S45 (fun h45 => ?_)
        clear h44 hK K
        try simp only [Act.put, List.setIfInBounds_toArray, List.set_cons_zero, List.set_cons_succ]
        refine wpAnyH_ready (rs := [7, 8]) (by kernel_rfl) (by simp) ?_
        refine AllReadyH.cons (o := ⟨some 17, _, _, _, _, _⟩) rfl (fun K hK => ?_) (AllReadyH.cons (o := ⟨some 6, _, _, _, _, _⟩) rfl (fun K hK => ?_) AllReadyH.nil)
        · go_simp
          refine (rget_any x i.b w45).mono ?_
          rintro e w46 ⟨rfl, hb46⟩
          have b1_46 := b1_45.on hb46
          have b2_46 := b2_45.on hb46
          have b3_46 := b3_45.on hb46
          have kk_46 := kk_45.trans (hb46.mono kk_45.size)
          have pb_46 := pb_45.on hb46
          have S46 : (fun W => Kept (fun g => False) wd W) w46 := Kept.next S45 (kept_below (fun _ => False) hb46) (fun _ h => h.elim)
          refine hK.out _ _ S46 (fun h46 => ?_)
          clear h45 hK K
          try simp only [Act.put, List.setIfInBounds_toArray, List.set_cons_zero, List.set_cons_succ]
          refine wpAnyH_ready (rs := [8]) (by kernel_rfl) (by simp) ?_
          refine AllReadyH.cons (o := ⟨some 6, _, _, _, _, _⟩) rfl (fun K hK => ?_) AllReadyH.nil
          go_simp
          obtain ⟨w47, ew47⟩ : ∃ zz, zz = w46.alloc (.cells #[.int .i64 0, .int .i64 0, .int .i64 0] 25) := ⟨_, rfl⟩
          have hb47 : Below w46.heap.size w46 w47 := by rw [ew47]; exact (Below.refl _ _).alloc (Nat.le_refl _) _
          rw [← ew47]
          have pa47 : Blk w47 w46.heap.size 25 #[.int .i64 0, .int .i64 0, .int .i64 0] := by rw [ew47]; exact heap_alloc_new _ _
          have hP47 : wd.heap.size ≤ w46.heap.size := Kept.size S46
          have hne47 : wd.heap.size ≠ w46.heap.size := Nat.ne_of_lt pb_46.lt
          have b1_47 := b1_46.on hb47
          have b2_47 := b2_46.on hb47
          have b3_47 := b3_46.on hb47
          have kk_47 := kk_46.trans (hb47.mono kk_46.size)
          have pb_47 := pb_46.on hb47
          have S47 : (fun W => Kept (fun g => False) wd W) w47 := Kept.next S46 (kept_below (fun _ => False) hb47) (fun _ h => h.elim)
          refine hK.out _ _ S47 (fun h47 => ?_)
          clear h46 hK K ew47
          try simp only [Act.put, List.setIfInBounds_toArray, List.set_cons_zero, List.set_cons_succ]
          refine wpAnyH_ready (rs := [10]) (by kernel_rfl) (by simp) ?_
          refine AllReadyH.cons (o := ⟨none, _, _, _, _, _⟩) rfl (fun K hK => ?_) AllReadyH.nil
          rw [if_pos (by rfl)]
          refine wp_store_row 25 (.tmp 6) (.tmp 13) rfl (w46.heap.size) (regI x i.a).cs.toArray rfl rfl 25 #[.int .i64 0, .int .i64 0, .int .i64 0] pa47 size25 rfl (Wd.onea _) ?_
          refine hK.out _ _ (Kept.next S47 (kept_row _ (w46.heap.size) _) (fun g h => .inr (by rw [h]; exact hP47))) (fun h48 => ?_)
          clear h47 hK K
          have S48 : Kept (fun g => False) wd (w47.setRow (w46.heap.size) (regI x i.a).cs.toArray) := Kept.next S47 (kept_row _ (w46.heap.size) _) (fun g h => .inr (by rw [h]; exact hP47))
          have pa_48 : Blk (w47.setRow (w46.heap.size) (regI x i.a).cs.toArray) (w46.heap.size) 25 (regI x i.a).cs.toArray := row_named pa47 rfl
          have pb_48 := row_far (W := (w47.setRow (w46.heap.size) (regI x i.a).cs.toArray)) pb_47 rfl hne47.symm.symm
          have b1_48 := row_far (W := (w47.setRow (w46.heap.size) (regI x i.a).cs.toArray)) b1_47 rfl (by have := b1_47.ne pa47 (by decide); exact this)
          have b2_48 := row_far (W := (w47.setRow (w46.heap.size) (regI x i.a).cs.toArray)) b2_47 rfl (by have := b2_47.ne pa47 (by decide); exact this)
          have b3_48 := row_far (W := (w47.setRow (w46.heap.size) (regI x i.a).cs.toArray)) b3_47 rfl (by have := b3_47.ne pa47 (by decide); exact this)
          have kk_48 := kk_47.trans (row_below (W := (w47.setRow (w46.heap.size) (regI x i.a).cs.toArray)) rfl (Nat.le_trans hwd hP47) kk_47.size)
          try simp only [Act.put]
          refine wpAnyH_ready (rs := [11]) (by kernel_rfl) (by simp) ?_
          refine AllReadyH.cons (o := ⟨none, _, _, _, _, _⟩) rfl (fun K hK => ?_) AllReadyH.nil
          rw [if_pos (by rfl)]
          refine wp_store_row 25 (.tmp 7) (.tmp 17) rfl (wd.heap.size) (regI x i.b).cs.toArray rfl rfl 25 #[.int .i64 0, .int .i64 0, .int .i64 0] pb_48 size25 rfl (Wd.onea _) ?_
          refine hK.out _ _ (Kept.next S48 (kept_row _ (wd.heap.size) _) (fun g h => .inr (by rw [h]; exact hP44))) (fun h49 => ?_)
          clear h48 hK K
          have S49 : Kept (fun g => False) wd ((w47.setRow (w46.heap.size) (regI x i.a).cs.toArray).setRow (wd.heap.size) (regI x i.b).cs.toArray) := Kept.next S48 (kept_row _ (wd.heap.size) _) (fun g h => .inr (by rw [h]; exact hP44))
          have pb_49 : Blk ((w47.setRow (w46.heap.size) (regI x i.a).cs.toArray).setRow (wd.heap.size) (regI x i.b).cs.toArray) (wd.heap.size) 25 (regI x i.b).cs.toArray := row_named pb_48 rfl
          have pa_49 := row_far (W := ((w47.setRow (w46.heap.size) (regI x i.a).cs.toArray).setRow (wd.heap.size) (regI x i.b).cs.toArray)) pa_48 rfl hne47.symm
          have b1_49 := row_far (W := ((w47.setRow (w46.heap.size) (regI x i.a).cs.toArray).setRow (wd.heap.size) (regI x i.b).cs.toArray)) b1_48 rfl (by have := b1_48.ne pb_48 (by decide); exact this)
          have b2_49 := row_far (W := ((w47.setRow (w46.heap.size) (regI x i.a).cs.toArray).setRow (wd.heap.size) (regI x i.b).cs.toArray)) b2_48 rfl (by have := b2_48.ne pb_48 (by decide); exact this)
          have b3_49 := row_far (W := ((w47.setRow (w46.heap.size) (regI x i.a).cs.toArray).setRow (wd.heap.size) (regI x i.b).cs.toArray)) b3_48 rfl (by have := b3_48.ne pb_48 (by decide); exact this)
          have kk_49 := kk_48.trans (row_below (W := ((w47.setRow (w46.heap.size) (regI x i.a).cs.toArray).setRow (wd.heap.size) (regI x i.b).cs.toArray)) rfl (Nat.le_trans hwd hP44) kk_48.size)
          try simp only [Act.put]
          refine wpAnyH_done (by kernel_rfl) ?_ _
          refine NoPanic.normal ?_
          go_wp2_with fail
          go_meet
          exact ⟨_, _, rfl, rfl, kk_49, b1_49, b2_49, b3_49, pa_49, pb_49⟩
        · go_simp
          obtain ⟨w50, ew50⟩ : ∃ zz, zz = w45.alloc (.cells #[.int .i64 0, .int .i64 0, .int .i64 0] 25) := ⟨_, rfl⟩
          have hb50 : Below w45.heap.size w45 w50 := by rw [ew50]; exact (Below.refl _ _).alloc (Nat.le_refl _) _
          rw [← ew50]
          have pa50 : Blk w50 w45.heap.size 25 #[.int .i64 0, .int .i64 0, .int .i64 0] := by rw [ew50]; exact heap_alloc_new _ _
          have hP50 : wd.heap.size ≤ w45.heap.size := Kept.size S45
          have hne50 : wd.heap.size ≠ w45.heap.size := Nat.ne_of_lt pb_45.lt
          have b1_50 := b1_45.on hb50
          have b2_50 := b2_45.on hb50
          have b3_50 := b3_45.on hb50
          have kk_50 := kk_45.trans (hb50.mono kk_45.size)
          have pb_50 := pb_45.on hb50
          have S50 : (fun W => Kept (fun g => False) wd W) w50 := Kept.next S45 (kept_below (fun _ => False) hb50) (fun _ h => h.elim)
          refine hK.out _ _ S50 (fun h50 => ?_)
          clear h45 hK K ew50
          try simp only [Act.put, List.setIfInBounds_toArray, List.set_cons_zero, List.set_cons_succ]
          refine wpAnyH_ready (rs := [7]) (by kernel_rfl) (by simp) ?_
          refine AllReadyH.cons (o := ⟨some 17, _, _, _, _, _⟩) rfl (fun K hK => ?_) AllReadyH.nil
          go_simp
          refine (rget_any x i.b w50).mono ?_
          rintro e w51 ⟨rfl, hb51⟩
          have b1_51 := b1_50.on hb51
          have b2_51 := b2_50.on hb51
          have b3_51 := b3_50.on hb51
          have kk_51 := kk_50.trans (hb51.mono kk_50.size)
          have pb_51 := pb_50.on hb51
          have pa_51 := pa50.on hb51
          have S51 : (fun W => Kept (fun g => False) wd W) w51 := Kept.next S50 (kept_below (fun _ => False) hb51) (fun _ h => h.elim)
          refine hK.out _ _ S51 (fun h51 => ?_)
          clear h50 hK K
          try simp only [Act.put, List.setIfInBounds_toArray, List.set_cons_zero, List.set_cons_succ]
          refine wpAnyH_ready (rs := [10]) (by kernel_rfl) (by simp) ?_
          refine AllReadyH.cons (o := ⟨none, _, _, _, _, _⟩) rfl (fun K hK => ?_) AllReadyH.nil
          rw [if_pos (by rfl)]
          refine wp_store_row 25 (.tmp 6) (.tmp 13) rfl (w45.heap.size) (regI x i.a).cs.toArray rfl rfl 25 #[.int .i64 0, .int .i64 0, .int .i64 0] pa_51 size25 rfl (Wd.onea _) ?_
          refine hK.out _ _ (Kept.next S51 (kept_row _ (w45.heap.size) _) (fun g h => .inr (by rw [h]; exact hP50))) (fun h52 => ?_)
          clear h51 hK K
          have S52 : Kept (fun g => False) wd (w51.setRow (w45.heap.size) (regI x i.a).cs.toArray) := Kept.next S51 (kept_row _ (w45.heap.size) _) (fun g h => .inr (by rw [h]; exact hP50))
          have pa_52 : Blk (w51.setRow (w45.heap.size) (regI x i.a).cs.toArray) (w45.heap.size) 25 (regI x i.a).cs.toArray := row_named pa_51 rfl
          have pb_52 := row_far (W := (w51.setRow (w45.heap.size) (regI x i.a).cs.toArray)) pb_51 rfl hne50.symm.symm
          have b1_52 := row_far (W := (w51.setRow (w45.heap.size) (regI x i.a).cs.toArray)) b1_51 rfl (by have := b1_51.ne pa_51 (by decide); exact this)
          have b2_52 := row_far (W := (w51.setRow (w45.heap.size) (regI x i.a).cs.toArray)) b2_51 rfl (by have := b2_51.ne pa_51 (by decide); exact this)
          have b3_52 := row_far (W := (w51.setRow (w45.heap.size) (regI x i.a).cs.toArray)) b3_51 rfl (by have := b3_51.ne pa_51 (by decide); exact this)
          have kk_52 := kk_51.trans (row_below (W := (w51.setRow (w45.heap.size) (regI x i.a).cs.toArray)) rfl (Nat.le_trans hwd hP50) kk_51.size)
          try simp only [Act.put]
          refine wpAnyH_ready (rs := [11]) (by kernel_rfl) (by simp) ?_
          refine AllReadyH.cons (o := ⟨none, _, _, _, _, _⟩) rfl (fun K hK => ?_) AllReadyH.nil
          rw [if_pos (by rfl)]
          refine wp_store_row 25 (.tmp 7) (.tmp 17) rfl (wd.heap.size) (regI x i.b).cs.toArray rfl rfl 25 #[.int .i64 0, .int .i64 0, .int .i64 0] pb_52 size25 rfl (Wd.onea _) ?_
          refine hK.out _ _ (Kept.next S52 (kept_row _ (wd.heap.size) _) (fun g h => .inr (by rw [h]; exact hP44))) (fun h53 => ?_)
          clear h52 hK K
          have S53 : Kept (fun g => False) wd ((w51.setRow (w45.heap.size) (regI x i.a).cs.toArray).setRow (wd.heap.size) (regI x i.b).cs.toArray) := Kept.next S52 (kept_row _ (wd.heap.size) _) (fun g h => .inr (by rw [h]; exact hP44))
          have pb_53 : Blk ((w51.setRow (w45.heap.size) (regI x i.a).cs.toArray).setRow (wd.heap.size) (regI x i.b).cs.toArray) (wd.heap.size) 25 (regI x i.b).cs.toArray := row_named pb_52 rfl
          have pa_53 := row_far (W := ((w51.setRow (w45.heap.size) (regI x i.a).cs.toArray).setRow (wd.heap.size) (regI x i.b).cs.toArray)) pa_52 rfl hne50.symm
          have b1_53 := row_far (W := ((w51.setRow (w45.heap.size) (regI x i.a).cs.toArray).setRow (wd.heap.size) (regI x i.b).cs.toArray)) b1_52 rfl (by have := b1_52.ne pb_52 (by decide); exact this)
          have b2_53 := row_far (W := ((w51.setRow (w45.heap.size) (regI x i.a).cs.toArray).setRow (wd.heap.size) (regI x i.b).cs.toArray)) b2_52 rfl (by have := b2_52.ne pb_52 (by decide); exact this)
          have b3_53 := row_far (W := ((w51.setRow (w45.heap.size) (regI x i.a).cs.toArray).setRow (wd.heap.size) (regI x i.b).cs.toArray)) b3_52 rfl (by have := b3_52.ne pb_52 (by decide); exact this)
          have kk_53 := kk_52.trans (row_below (W := ((w51.setRow (w45.heap.size) (regI x i.a).cs.toArray).setRow (wd.heap.size) (regI x i.b).cs.toArray)) rfl (Nat.le_trans hwd hP44) kk_52.size)
          try simp only [Act.put]
          refine wpAnyH_done (by kernel_rfl) ?_ _
          refine NoPanic.normal ?_
          go_wp2_with fail
          go_meet
          exact ⟨_, _, rfl, rfl, kk_53, b1_53, b2_53, b3_53, pa_53, pb_53⟩
      · go_simp
        obtain ⟨w54, ew54⟩ : ∃ zz, zz = w44.alloc (.cells #[.int .i64 0, .int .i64 0, .int .i64 0] 25) := ⟨_, rfl⟩
        have hb54 : Below w44.heap.size w44 w54 := by rw [ew54]; exact (Below.refl _ _).alloc (Nat.le_refl _) _
        rw [← ew54]
        have pa54 : Blk w54 w44.heap.size 25 #[.int .i64 0, .int .i64 0, .int .i64 0] := by rw [ew54]; exact heap_alloc_new _ _
        have hP54 : wd.heap.size ≤ w44.heap.size := Kept.size S44
        have hne54 : wd.heap.size ≠ w44.heap.size := Nat.ne_of_lt pb44.lt
        have b1_54 := b1_44.on hb54
        have b2_54 := b2_44.on hb54
        have b3_54 := b3_44.on hb54
        have kk_54 := kk_44.trans (hb54.mono kk_44.size)
        have pb_54 := pb44.on hb54
        have S54 : (fun W => Kept (fun g => False) wd W) w54 := Kept.next S44 (kept_below (fun _ => False) hb54) (fun _ h => h.elim)
        refine hK.out _ _ S54 (fun h54 => ?_)
        clear h44 hK K ew54
        try simp only [Act.put, List.setIfInBounds_toArray, List.set_cons_zero, List.set_cons_succ]
        refine wpAnyH_ready (rs := [3]) (by kernel_rfl) (by simp) ?_
        refine AllReadyH.cons (o := ⟨some 13, _, _, _, _, _⟩) rfl (fun K hK => ?_) AllReadyH.nil
        go_simp
        refine (rget_any x i.a w54).mono ?_
        rintro e w55 ⟨rfl, hb55⟩
        have b1_55 := b1_54.on hb55
        have b2_55 := b2_54.on hb55
        have b3_55 := b3_54.on hb55
        have kk_55 := kk_54.trans (hb55.mono kk_54.size)
        have pb_55 := pb_54.on hb55
        have pa_55 := pa54.on hb55
        have S55 : (fun W => Kept (fun g => False) wd W) w55 := Kept.next S54 (kept_below (fun _ => False) hb55) (fun _ h => h.elim)
        refine hK.out _ _ S55 (fun h55 => ?_)
        clear h54 hK K
        try simp only [Act.put, List.setIfInBounds_toArray, List.set_cons_zero, List.set_cons_succ]
        refine wpAnyH_ready (rs := [7]) (by kernel_rfl) (by simp) ?_
        refine AllReadyH.cons (o := ⟨some 17, _, _, _, _, _⟩) rfl (fun K hK => ?_) AllReadyH.nil
        go_simp
        refine (rget_any x i.b w55).mono ?_
        rintro e w56 ⟨rfl, hb56⟩
        have b1_56 := b1_55.on hb56
        have b2_56 := b2_55.on hb56
        have b3_56 := b3_55.on hb56
        have kk_56 := kk_55.trans (hb56.mono kk_55.size)
        have pb_56 := pb_55.on hb56
        have pa_56 := pa_55.on hb56
        have S56 : (fun W => Kept (fun g => False) wd W) w56 := Kept.next S55 (kept_below (fun _ => False) hb56) (fun _ h => h.elim)
        refine hK.out _ _ S56 (fun h56 => ?_)
        clear h55 hK K
        try simp only [Act.put, List.setIfInBounds_toArray, List.set_cons_zero, List.set_cons_succ]
        refine wpAnyH_ready (rs := [10]) (by kernel_rfl) (by simp) ?_
        refine AllReadyH.cons (o := ⟨none, _, _, _, _, _⟩) rfl (fun K hK => ?_) AllReadyH.nil
        rw [if_pos (by rfl)]
        refine wp_store_row 25 (.tmp 6) (.tmp 13) rfl (w44.heap.size) (regI x i.a).cs.toArray rfl rfl 25 #[.int .i64 0, .int .i64 0, .int .i64 0] pa_56 size25 rfl (Wd.onea _) ?_
        refine hK.out _ _ (Kept.next S56 (kept_row _ (w44.heap.size) _) (fun g h => .inr (by rw [h]; exact hP54))) (fun h57 => ?_)
        clear h56 hK K
        have S57 : Kept (fun g => False) wd (w56.setRow (w44.heap.size) (regI x i.a).cs.toArray) := Kept.next S56 (kept_row _ (w44.heap.size) _) (fun g h => .inr (by rw [h]; exact hP54))
        have pa_57 : Blk (w56.setRow (w44.heap.size) (regI x i.a).cs.toArray) (w44.heap.size) 25 (regI x i.a).cs.toArray := row_named pa_56 rfl
        have pb_57 := row_far (W := (w56.setRow (w44.heap.size) (regI x i.a).cs.toArray)) pb_56 rfl hne54.symm.symm
        have b1_57 := row_far (W := (w56.setRow (w44.heap.size) (regI x i.a).cs.toArray)) b1_56 rfl (by have := b1_56.ne pa_56 (by decide); exact this)
        have b2_57 := row_far (W := (w56.setRow (w44.heap.size) (regI x i.a).cs.toArray)) b2_56 rfl (by have := b2_56.ne pa_56 (by decide); exact this)
        have b3_57 := row_far (W := (w56.setRow (w44.heap.size) (regI x i.a).cs.toArray)) b3_56 rfl (by have := b3_56.ne pa_56 (by decide); exact this)
        have kk_57 := kk_56.trans (row_below (W := (w56.setRow (w44.heap.size) (regI x i.a).cs.toArray)) rfl (Nat.le_trans hwd hP54) kk_56.size)
        try simp only [Act.put]
        refine wpAnyH_ready (rs := [11]) (by kernel_rfl) (by simp) ?_
        refine AllReadyH.cons (o := ⟨none, _, _, _, _, _⟩) rfl (fun K hK => ?_) AllReadyH.nil
        rw [if_pos (by rfl)]
        refine wp_store_row 25 (.tmp 7) (.tmp 17) rfl (wd.heap.size) (regI x i.b).cs.toArray rfl rfl 25 #[.int .i64 0, .int .i64 0, .int .i64 0] pb_57 size25 rfl (Wd.onea _) ?_
        refine hK.out _ _ (Kept.next S57 (kept_row _ (wd.heap.size) _) (fun g h => .inr (by rw [h]; exact hP44))) (fun h58 => ?_)
        clear h57 hK K
        have S58 : Kept (fun g => False) wd ((w56.setRow (w44.heap.size) (regI x i.a).cs.toArray).setRow (wd.heap.size) (regI x i.b).cs.toArray) := Kept.next S57 (kept_row _ (wd.heap.size) _) (fun g h => .inr (by rw [h]; exact hP44))
        have pb_58 : Blk ((w56.setRow (w44.heap.size) (regI x i.a).cs.toArray).setRow (wd.heap.size) (regI x i.b).cs.toArray) (wd.heap.size) 25 (regI x i.b).cs.toArray := row_named pb_57 rfl
        have pa_58 := row_far (W := ((w56.setRow (w44.heap.size) (regI x i.a).cs.toArray).setRow (wd.heap.size) (regI x i.b).cs.toArray)) pa_57 rfl hne54.symm
        have b1_58 := row_far (W := ((w56.setRow (w44.heap.size) (regI x i.a).cs.toArray).setRow (wd.heap.size) (regI x i.b).cs.toArray)) b1_57 rfl (by have := b1_57.ne pb_57 (by decide); exact this)
        have b2_58 := row_far (W := ((w56.setRow (w44.heap.size) (regI x i.a).cs.toArray).setRow (wd.heap.size) (regI x i.b).cs.toArray)) b2_57 rfl (by have := b2_57.ne pb_57 (by decide); exact this)
        have b3_58 := row_far (W := ((w56.setRow (w44.heap.size) (regI x i.a).cs.toArray).setRow (wd.heap.size) (regI x i.b).cs.toArray)) b3_57 rfl (by have := b3_57.ne pb_57 (by decide); exact this)
        have kk_58 := kk_57.trans (row_below (W := ((w56.setRow (w44.heap.size) (regI x i.a).cs.toArray).setRow (wd.heap.size) (regI x i.b).cs.toArray)) rfl (Nat.le_trans hwd hP44) kk_57.size)
        try simp only [Act.put]
        refine wpAnyH_done (by kernel_rfl) ?_ _
        refine NoPanic.normal ?_
        go_wp2_with fail
        go_meet
        exact ⟨_, _, rfl, rfl, kk_58, b1_58, b2_58, b3_58, pa_58, pb_58⟩
  case rest =>
    clear kk b1 b2 b3
    obtain ⟨p4, p5, rfl, rfl, kk, b1, b2, b3, b4, b5⟩ := hcut
    have h41 : p4 ≠ p1 := b4.ne b1 (by decide)
    have h43 : p4 ≠ p3 := b4.ne b3 (by decide)
    have h51 : p5 ≠ p1 := b5.ne b1 (by decide)
    have h53 : p5 ≠ p3 := b5.ne b3 (by decide)
    by_cases e1 : i.op = 1
    · obtain rfl : ({ x with st := 1 } : Th) = F := (locT_1 e1).symm.trans HF.out.1
      obtain rfl : true = B := (locB_of e1 (by omega) (by omega)).symm.trans HF.out.2
      have t1 : (i.op == 1) = true := by rw [e1]; rfl
      clear HF e1
      have c40_2_0 : wc.cell? ⟨p2, 0, none⟩ = some (.int .i64 i.op) := b2.cell 0
      have fr40_1_2 := b1.free 2
      have c40_1_2 : wc.cell? ⟨p1, 2, none⟩ = some (.int .i64 x.st) := b1.cell 2
      obtain ⟨W41, es41⟩ : ∃ W, wc.setCell ⟨p1, 2, none⟩ (.int .i64 1) = W := ⟨_, rfl⟩
      replace b2 := set_far b2 es41 (by omega)
      replace b3 := set_far b3 es41 (by omega)
      replace b4 := set_far b4 es41 (by omega)
      replace b5 := set_far b5 es41 (by omega)
      replace b1 : Blk W41 p1 32 ({ x with st := 1 } : Th).cs.toArray := set_named b1 es41 rfl
      replace kk := kk.trans (set_below es41 hp1 kk.size)
      have d2 := copyV (V := ({ x with st := 1 } : Th)) (y := ({ x with st := 1 } : Th)) (n1 := x.se.n) (n2 := x.bg.n) (n3 := x.sn.n) ⟨(h.on kk).se, (h.on kk).bg, (h.on kk).sn⟩ rfl rfl rfl (fun _ _ _ => rfl) h1 h2 h3
      go_wp2_with (first | ((with_reducible refine at_load 32 (.tmp 2) ?_); refine wpList_load_row rfl 32 (.tmp 2) rfl p1 rfl 32 (({ x with st := 1 } : Th)).cs.toArray (0, 0) _ b1 Try.underlying32 rfl (sizeT _) ?_))
      refine (d2).mono ?_
      rintro e W42 ⟨A1, c1, A2, c2, A3, c3, rfl, ow, k2⟩
      replace ow := ow.mono kk.size
      clear c40_2_0 fr40_1_2 c40_1_2
      replace b1 := b1.on k2
      replace b2 := b2.on k2
      replace b3 := b3.on k2
      replace b4 := b4.on k2
      replace b5 := b5.on k2
      replace kk := kk.trans (k2.mono kk.size)
      clear k2
      clear d2
      obtain ⟨W43, es43⟩ : ∃ W, W42.setRow p3 ((({ x with st := 1 } : Th)).put ⟨A1, x.se.n, c1⟩ ⟨A2, x.bg.n, c2⟩ ⟨A3, x.sn.n, c3⟩).cs.toArray = W := ⟨_, rfl⟩
      have bo3 := b3
      replace b1 := row_far b1 es43 (by omega)
      replace b2 := row_far b2 es43 (by omega)
      replace b4 := row_far b4 es43 (by omega)
      replace b5 := row_far b5 es43 (by omega)
      replace b3 : Blk W43 p3 32 ((({ x with st := 1 } : Th)).put ⟨A1, x.se.n, c1⟩ ⟨A2, x.bg.n, c2⟩ ⟨A3, x.sn.n, c3⟩).cs.toArray := row_named b3 es43
      replace kk := kk.trans (row_below es43 hp3 kk.size)
      replace ow := ow.off bo3 (by decide) (by decide) es43 rfl rfl rfl
      go_wp2_with (((with_reducible refine at_store 32 (.tmp 4) (.tmp 100) ?_); refine wpList_store_row rfl 32 (.tmp 4) (.tmp 100) rfl p3 ((({ x with st := 1 } : Th)).put ⟨A1, x.se.n, c1⟩ ⟨A2, x.bg.n, c2⟩ ⟨A3, x.sn.n, c3⟩).cs.toArray rfl rfl 32 #[.int .i64 0, .int .i64 0, .int .i64 0, .int .i64 0, .int .i64 0, .int .i64 0, .int .i64 0, .int .i64 0, .int .i64 0, .int .i64 0, .int .i64 0, .int .i64 0, .int .i64 0, .int .i64 0, .int .i64 0, .int .i64 0, .int .i64 0, .int .i64 0, .slice none 0 0, .slice none 0 0, .slice none 0 0, .int .i64 0] bo3 (sizeT _) rfl (Th.onea _) ?_; rw [es43]))
      refine bodyPost_ret (res24 _ _ p3 ((({ x with st := 1 } : Th)).put ⟨A1, x.se.n, c1⟩ ⟨A2, x.bg.n, c2⟩ ⟨A3, x.sn.n, c3⟩).cs.toArray (.bool true) rfl rfl b3 (sizeT _)) rfl ?_
      exact ⟨A1, c1, A2, c2, A3, c3, rfl, ⟨ow.se, ow.bg, ow.sn⟩, kk⟩
    by_cases e2 : i.op = 2
    · obtain rfl : setI x i.a ⟨i.n, 0, 0⟩ = F := (locT_2 e2).symm.trans HF.out.1
      obtain rfl : true = B := (locB_of e2 (by omega) (by omega)).symm.trans HF.out.2
      have t1 : (i.op == 1) = false := by rw [e2]; rfl
      have t2 : (i.op == 2) = true := by rw [e2]; rfl
      clear HF e1 e2
      have c40_2_0 : wc.cell? ⟨p2, 0, none⟩ = some (.int .i64 i.op) := b2.cell 0
      have c40_2_4 : wc.cell? ⟨p2, 4, none⟩ = some (.int .i64 i.n) := b2.cell 4
      have d1 := rset_any i.a ⟨i.n, 0, 0⟩ (h.on kk) h1 h2 h3
      have c40_2_1 : wc.cell? ⟨p2, 1, none⟩ = some (.int .i64 i.a) := b2.cell 1
      go_wp2_with (first | ((with_reducible refine at_load 32 (.tmp 2) ?_); refine wpList_load_row rfl 32 (.tmp 2) rfl p1 rfl 32 x.cs.toArray (0, 0) _ b1 Try.underlying32 rfl (sizeT _) ?_))
      refine (d1).mono ?_
      rintro e W41 ⟨D1, m1, D2, m2, D3, m3, rfl, oq, k1⟩
      clear c40_2_0 c40_2_4 c40_2_1
      replace b1 := b1.on k1
      replace b2 := b2.on k1
      replace b3 := b3.on k1
      replace b4 := b4.on k1
      replace b5 := b5.on k1
      replace kk := kk.trans (k1.mono kk.size)
      clear k1
      clear d1
      obtain ⟨W42, es42⟩ : ∃ W, W41.setRow p1 ((setI x i.a ⟨i.n, 0, 0⟩).put ⟨D1, x.se.n, m1⟩ ⟨D2, x.bg.n, m2⟩ ⟨D3, x.sn.n, m3⟩).cs.toArray = W := ⟨_, rfl⟩
      have bo1 := b1
      replace b2 := row_far b2 es42 (by omega)
      replace b3 := row_far b3 es42 (by omega)
      replace b4 := row_far b4 es42 (by omega)
      replace b5 := row_far b5 es42 (by omega)
      replace b1 : Blk W42 p1 32 ((setI x i.a ⟨i.n, 0, 0⟩).put ⟨D1, x.se.n, m1⟩ ⟨D2, x.bg.n, m2⟩ ⟨D3, x.sn.n, m3⟩).cs.toArray := row_named b1 es42
      replace kk := kk.trans (row_below es42 hp1 kk.size)
      replace oq := oq.off bo1 (by decide) (by decide) es42 rfl rfl rfl
      have bo1_ := bo1
      have d2 := copyV (V := (setI x i.a ⟨i.n, 0, 0⟩).put ⟨D1, x.se.n, m1⟩ ⟨D2, x.bg.n, m2⟩ ⟨D3, x.sn.n, m3⟩) (y := setI x i.a ⟨i.n, 0, 0⟩) (n1 := x.se.n) (n2 := x.bg.n) (n3 := x.sn.n) oq.reads rfl rfl rfl (fun _ _ _ => rfl) h1 h2 h3
      go_wp2_with (first | ((with_reducible refine at_store 32 (.tmp 2) (.tmp 33) ?_); refine wpList_store_row rfl 32 (.tmp 2) (.tmp 33) rfl p1 ((setI x i.a ⟨i.n, 0, 0⟩).put ⟨D1, x.se.n, m1⟩ ⟨D2, x.bg.n, m2⟩ ⟨D3, x.sn.n, m3⟩).cs.toArray rfl rfl 32 x.cs.toArray bo1_ (sizeT _) rfl (Th.onea _) ?_; rw [es42]) | ((with_reducible refine at_load 32 (.tmp 2) ?_); refine wpList_load_row rfl 32 (.tmp 2) rfl p1 rfl 32 ((setI x i.a ⟨i.n, 0, 0⟩).put ⟨D1, x.se.n, m1⟩ ⟨D2, x.bg.n, m2⟩ ⟨D3, x.sn.n, m3⟩).cs.toArray (0, 0) _ b1 Try.underlying32 rfl (sizeT _) ?_))
      refine (d2).mono ?_
      rintro e W43 ⟨A1, c1, A2, c2, A3, c3, rfl, ow, k2⟩
      replace ow := ow.mono kk.size
      replace b1 := b1.on k2
      replace b2 := b2.on k2
      replace b3 := b3.on k2
      replace b4 := b4.on k2
      replace b5 := b5.on k2
      replace kk := kk.trans (k2.mono kk.size)
      clear k2
      clear d2
      obtain ⟨W44, es44⟩ : ∃ W, W43.setRow p3 ((setI x i.a ⟨i.n, 0, 0⟩).put ⟨A1, x.se.n, c1⟩ ⟨A2, x.bg.n, c2⟩ ⟨A3, x.sn.n, c3⟩).cs.toArray = W := ⟨_, rfl⟩
      have bo3 := b3
      replace b1 := row_far b1 es44 (by omega)
      replace b2 := row_far b2 es44 (by omega)
      replace b4 := row_far b4 es44 (by omega)
      replace b5 := row_far b5 es44 (by omega)
      replace b3 : Blk W44 p3 32 ((setI x i.a ⟨i.n, 0, 0⟩).put ⟨A1, x.se.n, c1⟩ ⟨A2, x.bg.n, c2⟩ ⟨A3, x.sn.n, c3⟩).cs.toArray := row_named b3 es44
      replace kk := kk.trans (row_below es44 hp3 kk.size)
      replace ow := ow.off bo3 (by decide) (by decide) es44 rfl rfl rfl
      go_wp2_with (((with_reducible refine at_store 32 (.tmp 4) (.tmp 100) ?_); refine wpList_store_row rfl 32 (.tmp 4) (.tmp 100) rfl p3 ((setI x i.a ⟨i.n, 0, 0⟩).put ⟨A1, x.se.n, c1⟩ ⟨A2, x.bg.n, c2⟩ ⟨A3, x.sn.n, c3⟩).cs.toArray rfl rfl 32 #[.int .i64 0, .int .i64 0, .int .i64 0, .int .i64 0, .int .i64 0, .int .i64 0, .int .i64 0, .int .i64 0, .int .i64 0, .int .i64 0, .int .i64 0, .int .i64 0, .int .i64 0, .int .i64 0, .int .i64 0, .int .i64 0, .int .i64 0, .int .i64 0, .slice none 0 0, .slice none 0 0, .slice none 0 0, .int .i64 0] bo3 (sizeT _) rfl (Th.onea _) ?_; rw [es44]))
      refine bodyPost_ret (res24 _ _ p3 ((setI x i.a ⟨i.n, 0, 0⟩).put ⟨A1, x.se.n, c1⟩ ⟨A2, x.bg.n, c2⟩ ⟨A3, x.sn.n, c3⟩).cs.toArray (.bool true) rfl rfl b3 (sizeT _)) rfl ?_
      exact ⟨A1, c1, A2, c2, A3, c3, rfl, ⟨ow.se, ow.bg, ow.sn⟩, kk⟩
    by_cases e3 : i.op = 3
    · obtain rfl : setI x i.a (regI x i.b) = F := (locT_3 e3).symm.trans HF.out.1
      obtain rfl : true = B := (locB_of e3 (by omega) (by omega)).symm.trans HF.out.2
      have t1 : (i.op == 1) = false := by rw [e3]; rfl
      have t2 : (i.op == 2) = false := by rw [e3]; rfl
      have t3 : (i.op == 3) = true := by rw [e3]; rfl
      clear HF e1 e2 e3
      have c40_2_0 : wc.cell? ⟨p2, 0, none⟩ = some (.int .i64 i.op) := b2.cell 0
      have d1 := rset_any i.a (regI x i.b) (h.on kk) h1 h2 h3
      have c40_2_1 : wc.cell? ⟨p2, 1, none⟩ = some (.int .i64 i.a) := b2.cell 1
      go_wp2_with (first | ((with_reducible refine at_load 25 (.tmp 7) ?_); refine wpList_load_row rfl 25 (.tmp 7) rfl p5 rfl 25 (regI x i.b).cs.toArray (0, 0) _ b5 Try.underlying25 rfl size25 ?_) | ((with_reducible refine at_load 32 (.tmp 2) ?_); refine wpList_load_row rfl 32 (.tmp 2) rfl p1 rfl 32 x.cs.toArray (0, 0) _ b1 Try.underlying32 rfl (sizeT _) ?_))
      refine (d1).mono ?_
      rintro e W41 ⟨D1, m1, D2, m2, D3, m3, rfl, oq, k1⟩
      clear c40_2_0 c40_2_1
      replace b1 := b1.on k1
      replace b2 := b2.on k1
      replace b3 := b3.on k1
      replace b4 := b4.on k1
      replace b5 := b5.on k1
      replace kk := kk.trans (k1.mono kk.size)
      clear k1
      clear d1
      obtain ⟨W42, es42⟩ : ∃ W, W41.setRow p1 ((setI x i.a (regI x i.b)).put ⟨D1, x.se.n, m1⟩ ⟨D2, x.bg.n, m2⟩ ⟨D3, x.sn.n, m3⟩).cs.toArray = W := ⟨_, rfl⟩
      have bo1 := b1
      replace b2 := row_far b2 es42 (by omega)
      replace b3 := row_far b3 es42 (by omega)
      replace b4 := row_far b4 es42 (by omega)
      replace b5 := row_far b5 es42 (by omega)
      replace b1 : Blk W42 p1 32 ((setI x i.a (regI x i.b)).put ⟨D1, x.se.n, m1⟩ ⟨D2, x.bg.n, m2⟩ ⟨D3, x.sn.n, m3⟩).cs.toArray := row_named b1 es42
      replace kk := kk.trans (row_below es42 hp1 kk.size)
      replace oq := oq.off bo1 (by decide) (by decide) es42 rfl rfl rfl
      have bo1_ := bo1
      have d2 := copyV (V := (setI x i.a (regI x i.b)).put ⟨D1, x.se.n, m1⟩ ⟨D2, x.bg.n, m2⟩ ⟨D3, x.sn.n, m3⟩) (y := setI x i.a (regI x i.b)) (n1 := x.se.n) (n2 := x.bg.n) (n3 := x.sn.n) oq.reads rfl rfl rfl (fun _ _ _ => rfl) h1 h2 h3
      go_wp2_with (first | ((with_reducible refine at_store 32 (.tmp 2) (.tmp 40) ?_); refine wpList_store_row rfl 32 (.tmp 2) (.tmp 40) rfl p1 ((setI x i.a (regI x i.b)).put ⟨D1, x.se.n, m1⟩ ⟨D2, x.bg.n, m2⟩ ⟨D3, x.sn.n, m3⟩).cs.toArray rfl rfl 32 x.cs.toArray bo1_ (sizeT _) rfl (Th.onea _) ?_; rw [es42]) | ((with_reducible refine at_load 32 (.tmp 2) ?_); refine wpList_load_row rfl 32 (.tmp 2) rfl p1 rfl 32 ((setI x i.a (regI x i.b)).put ⟨D1, x.se.n, m1⟩ ⟨D2, x.bg.n, m2⟩ ⟨D3, x.sn.n, m3⟩).cs.toArray (0, 0) _ b1 Try.underlying32 rfl (sizeT _) ?_))
      refine (d2).mono ?_
      rintro e W43 ⟨A1, c1, A2, c2, A3, c3, rfl, ow, k2⟩
      replace ow := ow.mono kk.size
      replace b1 := b1.on k2
      replace b2 := b2.on k2
      replace b3 := b3.on k2
      replace b4 := b4.on k2
      replace b5 := b5.on k2
      replace kk := kk.trans (k2.mono kk.size)
      clear k2
      clear d2
      obtain ⟨W44, es44⟩ : ∃ W, W43.setRow p3 ((setI x i.a (regI x i.b)).put ⟨A1, x.se.n, c1⟩ ⟨A2, x.bg.n, c2⟩ ⟨A3, x.sn.n, c3⟩).cs.toArray = W := ⟨_, rfl⟩
      have bo3 := b3
      replace b1 := row_far b1 es44 (by omega)
      replace b2 := row_far b2 es44 (by omega)
      replace b4 := row_far b4 es44 (by omega)
      replace b5 := row_far b5 es44 (by omega)
      replace b3 : Blk W44 p3 32 ((setI x i.a (regI x i.b)).put ⟨A1, x.se.n, c1⟩ ⟨A2, x.bg.n, c2⟩ ⟨A3, x.sn.n, c3⟩).cs.toArray := row_named b3 es44
      replace kk := kk.trans (row_below es44 hp3 kk.size)
      replace ow := ow.off bo3 (by decide) (by decide) es44 rfl rfl rfl
      go_wp2_with (((with_reducible refine at_store 32 (.tmp 4) (.tmp 100) ?_); refine wpList_store_row rfl 32 (.tmp 4) (.tmp 100) rfl p3 ((setI x i.a (regI x i.b)).put ⟨A1, x.se.n, c1⟩ ⟨A2, x.bg.n, c2⟩ ⟨A3, x.sn.n, c3⟩).cs.toArray rfl rfl 32 #[.int .i64 0, .int .i64 0, .int .i64 0, .int .i64 0, .int .i64 0, .int .i64 0, .int .i64 0, .int .i64 0, .int .i64 0, .int .i64 0, .int .i64 0, .int .i64 0, .int .i64 0, .int .i64 0, .int .i64 0, .int .i64 0, .int .i64 0, .int .i64 0, .slice none 0 0, .slice none 0 0, .slice none 0 0, .int .i64 0] bo3 (sizeT _) rfl (Th.onea _) ?_; rw [es44]))
      refine bodyPost_ret (res24 _ _ p3 ((setI x i.a (regI x i.b)).put ⟨A1, x.se.n, c1⟩ ⟨A2, x.bg.n, c2⟩ ⟨A3, x.sn.n, c3⟩).cs.toArray (.bool true) rfl rfl b3 (sizeT _)) rfl ?_
      exact ⟨A1, c1, A2, c2, A3, c3, rfl, ⟨ow.se, ow.bg, ow.sn⟩, kk⟩
    by_cases e4 : i.op = 4
    · have HV := Lib.hid ((locT_4 e4).symm.trans HF.out.1)
      obtain rfl : true = B := (locB_of e4 (by omega) (by omega)).symm.trans HF.out.2
      have t1 : (i.op == 1) = false := by rw [e4]; rfl
      have t2 : (i.op == 2) = false := by rw [e4]; rfl
      have t3 : (i.op == 3) = false := by rw [e4]; rfl
      have t4 : (i.op == 4) = true := by rw [e4]; rfl
      have hr : i.op = 4 ∨ i.op = 5 ∨ i.op = 6 ∨ i.op = 7 := by omega
      clear HF e1 e2 e3 e4
      have c40_2_0 : wc.cell? ⟨p2, 0, none⟩ = some (.int .i64 i.op) := b2.cell 0
      go_wp2_with fail
      clear c40_2_0
      go_cut [8, 9] (fun s8 s9 wx => s8 = .int .i64 (ariZ i.op (regI x i.b).n (regI x i.c).n) ∧ s9 = .bool (!ariN i.op (regI x i.c).n) ∧ Below w.heap.size w wx ∧ Blk wx p1 32 x.cs.toArray ∧ Blk wx p2 42 i.cs.toArray ∧ Blk wx p3 32 #[.int .i64 0, .int .i64 0, .int .i64 0, .int .i64 0, .int .i64 0, .int .i64 0, .int .i64 0, .int .i64 0, .int .i64 0, .int .i64 0, .int .i64 0, .int .i64 0, .int .i64 0, .int .i64 0, .int .i64 0, .int .i64 0, .int .i64 0, .int .i64 0, .slice none 0 0, .slice none 0 0, .slice none 0 0, .int .i64 0])
      case first =>
        have fl := field25 (regI x i.c)
        obtain ⟨wd, ed⟩ : ∃ W, wc.drew = W := ⟨_, rfl⟩
        have hd : Below wc.heap.size wc wd := by rw [← ed]; exact (Below.refl _ _).drew
        replace b1 := b1.on hd
        replace b2 := b2.on hd
        replace b3 := b3.on hd
        replace b5 := b5.on hd
        replace kk := kk.trans (hd.mono kk.size)
        clear hd
        have kS : Kept (fun g => False) wd wd := Kept.refl _ _
        have tS : ∀ W, Kept (fun g => False) wd W → W.cell? ⟨p2, 0, none⟩ = some (.int .i64 i.op) ∧ W.cell? ⟨p5, 0, none⟩ = some (.int .i64 (regI x i.b).n) ∧ W.cell? ⟨p2, 3, none⟩ = some (.int .i64 i.c) := fun W hW => ⟨(b2.kept hW id).cell 0, (b5.kept hW id).cell 0, (b2.kept hW id).cell 3⟩
        refine wp_region_noPanic ?_
        refine wp_region_held_drew (S := (fun W => Kept (fun g => False) wd W)) (by kernel_rfl) (by rw [ed]; exact kS) (fun hHeld => ?_)
        rw [ed] at hHeld ⊢
        refine wpAnyH_take (i := 0) (oi := ⟨some 47, _, _, _, _, _⟩) (v := ?_) rfl (by kernel_rfl) (by kernel_rfl) (by kernel_rfl) (fun _ _ _ h => h) (Or.inl ⟨by rfl, ?_⟩) (by assumption) ?_
        rotate_left 1
        · (intro W hSw; go_simp <;> with_reducible rfl)
        try simp only [Act.put, List.setIfInBounds_toArray, List.set_cons_zero, List.set_cons_succ]
        refine wpAnyH_take (i := 1) (oi := ⟨some 48, _, _, _, _, _⟩) (v := ?_) rfl (by kernel_rfl) (by kernel_rfl) (by kernel_rfl) (fun _ _ _ h => h) (Or.inl ⟨by rfl, ?_⟩) (by assumption) ?_
        rotate_left 1
        · (intro W hSw; obtain ⟨q0, q1, q2⟩ := tS W hSw; go_simp <;> with_reducible rfl)
        try simp only [Act.put, List.setIfInBounds_toArray, List.set_cons_zero, List.set_cons_succ]
        refine wpAnyH_take (i := 2) (oi := ⟨some 49, _, _, _, _, _⟩) (v := ?_) rfl (by kernel_rfl) (by kernel_rfl) (by kernel_rfl) (fun _ _ _ h => h) (Or.inl ⟨by rfl, ?_⟩) (by assumption) ?_
        rotate_left 1
        · (intro W hSw; go_simp <;> with_reducible rfl)
        try simp only [Act.put, List.setIfInBounds_toArray, List.set_cons_zero, List.set_cons_succ]
        refine wpAnyH_take (i := 3) (oi := ⟨some 50, _, _, _, _, _⟩) (v := ?_) rfl (by kernel_rfl) (by kernel_rfl) (by kernel_rfl) (fun _ _ _ h => h) (Or.inl ⟨by rfl, ?_⟩) (by assumption) ?_
        rotate_left 1
        · (intro W hSw; obtain ⟨q0, q1, q2⟩ := tS W hSw; go_simp <;> with_reducible rfl)
        try simp only [Act.put, List.setIfInBounds_toArray, List.set_cons_zero, List.set_cons_succ]
        refine wpAnyH_take (i := 4) (oi := ⟨some 51, _, _, _, _, _⟩) (v := .agg (List.toArray (x.cs))) rfl (by kernel_rfl) (by kernel_rfl) (by kernel_rfl) (fun _ _ _ h => h) (yieldsIf_load_mid (by rfl) 32 (.tmp 2) rfl p1 (0) rfl (x.cs) _ (fun W hW => range_part (b1.kept hW id) 0 x.cs rfl) Try.underlying32 rfl (sizeT _)) (by assumption) ?_
        try simp only [Act.put, List.setIfInBounds_toArray, List.set_cons_zero, List.set_cons_succ]
        refine wpAnyH_take (i := 5) (oi := ⟨some 52, _, _, _, _, _⟩) (v := ?_) rfl (by kernel_rfl) (by kernel_rfl) (by kernel_rfl) (fun _ _ _ h => h) (Or.inl ⟨by rfl, ?_⟩) (by assumption) ?_
        rotate_left 1
        · (intro W hSw; go_simp <;> with_reducible rfl)
        try simp only [Act.put, List.setIfInBounds_toArray, List.set_cons_zero, List.set_cons_succ]
        refine wpAnyH_take (i := 6) (oi := ⟨some 53, _, _, _, _, _⟩) (v := ?_) rfl (by kernel_rfl) (by kernel_rfl) (by kernel_rfl) (fun _ _ _ h => h) (Or.inl ⟨by rfl, ?_⟩) (by assumption) ?_
        rotate_left 1
        · (intro W hSw; obtain ⟨q0, q1, q2⟩ := tS W hSw; go_simp <;> with_reducible rfl)
        try simp only [Act.put, List.setIfInBounds_toArray, List.set_cons_zero, List.set_cons_succ]
        refine wpAnyH_ready (rs := [7]) (by kernel_rfl) (by simp) ?_
        refine AllReadyH.cons (o := ⟨some 54, _, _, _, _, _⟩) rfl (fun K hK => ?_) AllReadyH.nil
        go_simp
        refine (rget_any x i.c wd).mono ?_
        rintro e w1 ⟨rfl, hb1⟩
        have b1_1 := b1.on hb1
        have b2_1 := b2.on hb1
        have b3_1 := b3.on hb1
        have b5_1 := b5.on hb1
        have kk_1 := kk.trans (hb1.mono kk.size)
        have S1 : (fun W => Kept (fun g => False) wd W) w1 := Kept.next kS (kept_below (fun _ => False) hb1) (fun _ h => h.elim)
        refine hK.out _ _ S1 (fun h1 => ?_)
        clear hHeld hK K
        try simp only [Act.put, List.setIfInBounds_toArray, List.set_cons_zero, List.set_cons_succ]
        refine wpAnyH_take (i := 8) (oi := ⟨some 55, _, _, _, _, _⟩) (v := ?_) rfl (by kernel_rfl) (by kernel_rfl) (by kernel_rfl) (fun _ _ _ h => h) (Or.inl ⟨by rfl, ?_⟩) (by assumption) ?_
        rotate_left 1
        · (intro W hSw; go_simp <;> with_reducible rfl)
        try simp only [Act.put, List.setIfInBounds_toArray, List.set_cons_zero, List.set_cons_succ]
        refine wpAnyH_ready (rs := [9]) (by kernel_rfl) (by simp) ?_
        refine AllReadyH.cons (o := ⟨some 56, _, _, _, _, _⟩) rfl (fun K hK => ?_) AllReadyH.nil
        go_simp
        refine (rarith_any i.op (regI x i.b).n (regI x i.c).n hr w1).mono ?_
        rintro e w2 ⟨rfl, hw2⟩
        have hb2 : Below w1.heap.size w1 w2 := by rw [← hw2]; exact Below.refl _ _
        have b1_2 := b1_1.on hb2
        have b2_2 := b2_1.on hb2
        have b3_2 := b3_1.on hb2
        have b5_2 := b5_1.on hb2
        have kk_2 := kk_1.trans (hb2.mono kk_1.size)
        have S2 : (fun W => Kept (fun g => False) wd W) w2 := Kept.next S1 (kept_below (fun _ => False) hb2) (fun _ h => h.elim)
        refine hK.out _ _ S2 (fun h2 => ?_)
        clear h1 hK K
        try simp only [Act.put, List.setIfInBounds_toArray, List.set_cons_zero, List.set_cons_succ]
        refine wpAnyH_take (i := 10) (oi := ⟨some 46, _, _, _, _, _⟩) (v := ?_) rfl (by kernel_rfl) (by kernel_rfl) (by kernel_rfl) (fun _ _ _ h => h) (Or.inl ⟨by rfl, ?_⟩) (by assumption) ?_
        rotate_left 1
        · (intro W hSw; go_simp <;> with_reducible rfl)
        try simp only [Act.put, List.setIfInBounds_toArray, List.set_cons_zero, List.set_cons_succ]
        refine wpAnyH_take (i := 11) (oi := ⟨some 57, _, _, _, _, _⟩) (v := ?_) rfl (by kernel_rfl) (by kernel_rfl) (by kernel_rfl) (fun _ _ _ h => h) (Or.inl ⟨by rfl, ?_⟩) (by assumption) ?_
        rotate_left 1
        · (intro W hSw; go_simp <;> with_reducible rfl)
        try simp only [Act.put, List.setIfInBounds_toArray, List.set_cons_zero, List.set_cons_succ]
        refine wpAnyH_take (i := 12) (oi := ⟨some 58, _, _, _, _, _⟩) (v := ?_) rfl (by kernel_rfl) (by kernel_rfl) (by kernel_rfl) (fun _ _ _ h => h) (Or.inl ⟨by rfl, ?_⟩) (by assumption) ?_
        rotate_left 1
        · (intro W hSw; go_simp <;> with_reducible rfl)
        try simp only [Act.put, List.setIfInBounds_toArray, List.set_cons_zero, List.set_cons_succ]
        refine wpAnyH_take (i := 13) (oi := ⟨some 8, _, _, _, _, _⟩) (v := ?_) rfl (by kernel_rfl) (by kernel_rfl) (by kernel_rfl) (fun _ _ _ h => h) (Or.inl ⟨by rfl, ?_⟩) (by assumption) ?_
        rotate_left 1
        · (intro W hSw; go_simp <;> with_reducible rfl)
        try simp only [Act.put, List.setIfInBounds_toArray, List.set_cons_zero, List.set_cons_succ]
        refine wpAnyH_take (i := 14) (oi := ⟨some 9, _, _, _, _, _⟩) (v := ?_) rfl (by kernel_rfl) (by kernel_rfl) (by kernel_rfl) (fun _ _ _ h => h) (Or.inl ⟨by rfl, ?_⟩) (by assumption) ?_
        rotate_left 1
        · (intro W hSw; go_simp <;> with_reducible rfl)
        try simp only [Act.put, List.setIfInBounds_toArray, List.set_cons_zero, List.set_cons_succ]
        refine wpAnyH_done (by kernel_rfl) ?_ _
        refine NoPanic.normal ?_
        go_wp2_with fail
        go_meet
        exact ⟨rfl, rfl, kk_2, b1_2, b2_2, b3_2⟩
      case rest =>
        clear kk b1 b2 b3 b4 b5
        obtain ⟨rfl, rfl, kk, b1, b2, b3⟩ := hcut
        cases hq : ariN i.op (regI x i.c).n with
        | false =>
          have eR : recT x i = setI x i.a ⟨ariZ i.op (regI x i.b).n (regI x i.c).n, 0, 0⟩ := by unfold recT; rw [hq]; rfl
          obtain rfl : setI x i.a ⟨ariZ i.op (regI x i.b).n (regI x i.c).n, 0, 0⟩ = F := eR.symm.trans HV.out
          clear hq HV eR
          have d1 := rset_any i.a ⟨ariZ i.op (regI x i.b).n (regI x i.c).n, 0, 0⟩ (h.on kk) h1 h2 h3
          have c40_2_1 : wc.cell? ⟨p2, 1, none⟩ = some (.int .i64 i.a) := b2.cell 1
          go_wp2_with (first | ((with_reducible refine at_load 32 (.tmp 2) ?_); refine wpList_load_row rfl 32 (.tmp 2) rfl p1 rfl 32 x.cs.toArray (0, 0) _ b1 Try.underlying32 rfl (sizeT _) ?_))
          refine (d1).mono ?_
          rintro e W41 ⟨D1, m1, D2, m2, D3, m3, rfl, oq, k1⟩
          clear c40_2_1
          replace b1 := b1.on k1
          replace b2 := b2.on k1
          replace b3 := b3.on k1
          replace kk := kk.trans (k1.mono kk.size)
          clear k1
          clear d1
          obtain ⟨W42, es42⟩ : ∃ W, W41.setRow p1 ((setI x i.a ⟨ariZ i.op (regI x i.b).n (regI x i.c).n, 0, 0⟩).put ⟨D1, x.se.n, m1⟩ ⟨D2, x.bg.n, m2⟩ ⟨D3, x.sn.n, m3⟩).cs.toArray = W := ⟨_, rfl⟩
          have bo1 := b1
          replace b2 := row_far b2 es42 (by omega)
          replace b3 := row_far b3 es42 (by omega)
          replace b1 : Blk W42 p1 32 ((setI x i.a ⟨ariZ i.op (regI x i.b).n (regI x i.c).n, 0, 0⟩).put ⟨D1, x.se.n, m1⟩ ⟨D2, x.bg.n, m2⟩ ⟨D3, x.sn.n, m3⟩).cs.toArray := row_named b1 es42
          replace kk := kk.trans (row_below es42 hp1 kk.size)
          replace oq := oq.off bo1 (by decide) (by decide) es42 rfl rfl rfl
          have bo1_ := bo1
          have d2 := copyV (V := (setI x i.a ⟨ariZ i.op (regI x i.b).n (regI x i.c).n, 0, 0⟩).put ⟨D1, x.se.n, m1⟩ ⟨D2, x.bg.n, m2⟩ ⟨D3, x.sn.n, m3⟩) (y := setI x i.a ⟨ariZ i.op (regI x i.b).n (regI x i.c).n, 0, 0⟩) (n1 := x.se.n) (n2 := x.bg.n) (n3 := x.sn.n) oq.reads rfl rfl rfl (fun _ _ _ => rfl) h1 h2 h3
          go_wp2_with (first | ((with_reducible refine at_store 32 (.tmp 2) (.tmp 65) ?_); refine wpList_store_row rfl 32 (.tmp 2) (.tmp 65) rfl p1 ((setI x i.a ⟨ariZ i.op (regI x i.b).n (regI x i.c).n, 0, 0⟩).put ⟨D1, x.se.n, m1⟩ ⟨D2, x.bg.n, m2⟩ ⟨D3, x.sn.n, m3⟩).cs.toArray rfl rfl 32 x.cs.toArray bo1_ (sizeT _) rfl (Th.onea _) ?_; rw [es42]) | ((with_reducible refine at_load 32 (.tmp 2) ?_); refine wpList_load_row rfl 32 (.tmp 2) rfl p1 rfl 32 ((setI x i.a ⟨ariZ i.op (regI x i.b).n (regI x i.c).n, 0, 0⟩).put ⟨D1, x.se.n, m1⟩ ⟨D2, x.bg.n, m2⟩ ⟨D3, x.sn.n, m3⟩).cs.toArray (0, 0) _ b1 Try.underlying32 rfl (sizeT _) ?_))
          refine (d2).mono ?_
          rintro e W43 ⟨A1, c1, A2, c2, A3, c3, rfl, ow, k2⟩
          replace ow := ow.mono kk.size
          replace b1 := b1.on k2
          replace b2 := b2.on k2
          replace b3 := b3.on k2
          replace kk := kk.trans (k2.mono kk.size)
          clear k2
          clear d2
          obtain ⟨W44, es44⟩ : ∃ W, W43.setRow p3 ((setI x i.a ⟨ariZ i.op (regI x i.b).n (regI x i.c).n, 0, 0⟩).put ⟨A1, x.se.n, c1⟩ ⟨A2, x.bg.n, c2⟩ ⟨A3, x.sn.n, c3⟩).cs.toArray = W := ⟨_, rfl⟩
          have bo3 := b3
          replace b1 := row_far b1 es44 (by omega)
          replace b2 := row_far b2 es44 (by omega)
          replace b3 : Blk W44 p3 32 ((setI x i.a ⟨ariZ i.op (regI x i.b).n (regI x i.c).n, 0, 0⟩).put ⟨A1, x.se.n, c1⟩ ⟨A2, x.bg.n, c2⟩ ⟨A3, x.sn.n, c3⟩).cs.toArray := row_named b3 es44
          replace kk := kk.trans (row_below es44 hp3 kk.size)
          replace ow := ow.off bo3 (by decide) (by decide) es44 rfl rfl rfl
          go_wp2_with (((with_reducible refine at_store 32 (.tmp 4) (.tmp 100) ?_); refine wpList_store_row rfl 32 (.tmp 4) (.tmp 100) rfl p3 ((setI x i.a ⟨ariZ i.op (regI x i.b).n (regI x i.c).n, 0, 0⟩).put ⟨A1, x.se.n, c1⟩ ⟨A2, x.bg.n, c2⟩ ⟨A3, x.sn.n, c3⟩).cs.toArray rfl rfl 32 #[.int .i64 0, .int .i64 0, .int .i64 0, .int .i64 0, .int .i64 0, .int .i64 0, .int .i64 0, .int .i64 0, .int .i64 0, .int .i64 0, .int .i64 0, .int .i64 0, .int .i64 0, .int .i64 0, .int .i64 0, .int .i64 0, .int .i64 0, .int .i64 0, .slice none 0 0, .slice none 0 0, .slice none 0 0, .int .i64 0] bo3 (sizeT _) rfl (Th.onea _) ?_; rw [es44]))
          refine bodyPost_ret (res24 _ _ p3 ((setI x i.a ⟨ariZ i.op (regI x i.b).n (regI x i.c).n, 0, 0⟩).put ⟨A1, x.se.n, c1⟩ ⟨A2, x.bg.n, c2⟩ ⟨A3, x.sn.n, c3⟩).cs.toArray (.bool true) rfl rfl b3 (sizeT _)) rfl ?_
          exact ⟨A1, c1, A2, c2, A3, c3, rfl, ⟨ow.se, ow.bg, ow.sn⟩, kk⟩
        | true =>
          have eR : recT x i = { x with st := 1 } := by unfold recT; rw [hq]; rfl
          obtain rfl : ({ x with st := 1 } : Th) = F := eR.symm.trans HV.out
          clear hq HV eR
          have fr100_1_2 := b1.free 2
          have c100_1_2 : wc.cell? ⟨p1, 2, none⟩ = some (.int .i64 x.st) := b1.cell 2
          obtain ⟨W101, es101⟩ : ∃ W, wc.setCell ⟨p1, 2, none⟩ (.int .i64 1) = W := ⟨_, rfl⟩
          replace b2 := set_far b2 es101 (by omega)
          replace b3 := set_far b3 es101 (by omega)
          replace b1 : Blk W101 p1 32 ({ x with st := 1 } : Th).cs.toArray := set_named b1 es101 rfl
          replace kk := kk.trans (set_below es101 hp1 kk.size)
          have d2 := copyV (V := ({ x with st := 1 } : Th)) (y := ({ x with st := 1 } : Th)) (n1 := x.se.n) (n2 := x.bg.n) (n3 := x.sn.n) ⟨(h.on kk).se, (h.on kk).bg, (h.on kk).sn⟩ rfl rfl rfl (fun _ _ _ => rfl) h1 h2 h3
          go_wp2_with (first | ((with_reducible refine at_load 32 (.tmp 2) ?_); refine wpList_load_row rfl 32 (.tmp 2) rfl p1 rfl 32 (({ x with st := 1 } : Th)).cs.toArray (0, 0) _ b1 Try.underlying32 rfl (sizeT _) ?_))
          refine (d2).mono ?_
          rintro e W102 ⟨A1, c1, A2, c2, A3, c3, rfl, ow, k2⟩
          replace ow := ow.mono kk.size
          clear fr100_1_2 c100_1_2
          replace b1 := b1.on k2
          replace b2 := b2.on k2
          replace b3 := b3.on k2
          replace kk := kk.trans (k2.mono kk.size)
          clear k2
          clear d2
          obtain ⟨W103, es103⟩ : ∃ W, W102.setRow p3 ((({ x with st := 1 } : Th)).put ⟨A1, x.se.n, c1⟩ ⟨A2, x.bg.n, c2⟩ ⟨A3, x.sn.n, c3⟩).cs.toArray = W := ⟨_, rfl⟩
          have bo3 := b3
          replace b1 := row_far b1 es103 (by omega)
          replace b2 := row_far b2 es103 (by omega)
          replace b3 : Blk W103 p3 32 ((({ x with st := 1 } : Th)).put ⟨A1, x.se.n, c1⟩ ⟨A2, x.bg.n, c2⟩ ⟨A3, x.sn.n, c3⟩).cs.toArray := row_named b3 es103
          replace kk := kk.trans (row_below es103 hp3 kk.size)
          replace ow := ow.off bo3 (by decide) (by decide) es103 rfl rfl rfl
          go_wp2_with (((with_reducible refine at_store 32 (.tmp 4) (.tmp 100) ?_); refine wpList_store_row rfl 32 (.tmp 4) (.tmp 100) rfl p3 ((({ x with st := 1 } : Th)).put ⟨A1, x.se.n, c1⟩ ⟨A2, x.bg.n, c2⟩ ⟨A3, x.sn.n, c3⟩).cs.toArray rfl rfl 32 #[.int .i64 0, .int .i64 0, .int .i64 0, .int .i64 0, .int .i64 0, .int .i64 0, .int .i64 0, .int .i64 0, .int .i64 0, .int .i64 0, .int .i64 0, .int .i64 0, .int .i64 0, .int .i64 0, .int .i64 0, .int .i64 0, .int .i64 0, .int .i64 0, .slice none 0 0, .slice none 0 0, .slice none 0 0, .int .i64 0] bo3 (sizeT _) rfl (Th.onea _) ?_; rw [es103]))
          refine bodyPost_ret (res24 _ _ p3 ((({ x with st := 1 } : Th)).put ⟨A1, x.se.n, c1⟩ ⟨A2, x.bg.n, c2⟩ ⟨A3, x.sn.n, c3⟩).cs.toArray (.bool true) rfl rfl b3 (sizeT _)) rfl ?_
          exact ⟨A1, c1, A2, c2, A3, c3, rfl, ⟨ow.se, ow.bg, ow.sn⟩, kk⟩
    by_cases e5 : i.op = 5
    · have HV := Lib.hid ((locT_5 e5).symm.trans HF.out.1)
      obtain rfl : true = B := (locB_of e5 (by omega) (by omega)).symm.trans HF.out.2
      have t1 : (i.op == 1) = false := by rw [e5]; rfl
      have t2 : (i.op == 2) = false := by rw [e5]; rfl
      have t3 : (i.op == 3) = false := by rw [e5]; rfl
      have t4 : (i.op == 4) = false := by rw [e5]; rfl
      have t5 : (i.op == 5) = true := by rw [e5]; rfl
      have hr : i.op = 4 ∨ i.op = 5 ∨ i.op = 6 ∨ i.op = 7 := by omega
      clear HF e1 e2 e3 e4 e5
      have c40_2_0 : wc.cell? ⟨p2, 0, none⟩ = some (.int .i64 i.op) := b2.cell 0
      go_wp2_with fail
      clear c40_2_0
      go_cut [8, 9] (fun s8 s9 wx => s8 = .int .i64 (ariZ i.op (regI x i.b).n (regI x i.c).n) ∧ s9 = .bool (!ariN i.op (regI x i.c).n) ∧ Below w.heap.size w wx ∧ Blk wx p1 32 x.cs.toArray ∧ Blk wx p2 42 i.cs.toArray ∧ Blk wx p3 32 #[.int .i64 0, .int .i64 0, .int .i64 0, .int .i64 0, .int .i64 0, .int .i64 0, .int .i64 0, .int .i64 0, .int .i64 0, .int .i64 0, .int .i64 0, .int .i64 0, .int .i64 0, .int .i64 0, .int .i64 0, .int .i64 0, .int .i64 0, .int .i64 0, .slice none 0 0, .slice none 0 0, .slice none 0 0, .int .i64 0])
      case first =>
        have fl := field25 (regI x i.c)
        obtain ⟨wd, ed⟩ : ∃ W, wc.drew = W := ⟨_, rfl⟩
        have hd : Below wc.heap.size wc wd := by rw [← ed]; exact (Below.refl _ _).drew
        replace b1 := b1.on hd
        replace b2 := b2.on hd
        replace b3 := b3.on hd
        replace b5 := b5.on hd
        replace kk := kk.trans (hd.mono kk.size)
        clear hd
        have kS : Kept (fun g => False) wd wd := Kept.refl _ _
        have tS : ∀ W, Kept (fun g => False) wd W → W.cell? ⟨p2, 0, none⟩ = some (.int .i64 i.op) ∧ W.cell? ⟨p5, 0, none⟩ = some (.int .i64 (regI x i.b).n) ∧ W.cell? ⟨p2, 3, none⟩ = some (.int .i64 i.c) := fun W hW => ⟨(b2.kept hW id).cell 0, (b5.kept hW id).cell 0, (b2.kept hW id).cell 3⟩
        refine wp_region_noPanic ?_
        refine wp_region_held_drew (S := (fun W => Kept (fun g => False) wd W)) (by kernel_rfl) (by rw [ed]; exact kS) (fun hHeld => ?_)
        rw [ed] at hHeld ⊢
        refine wpAnyH_take (i := 0) (oi := ⟨some 47, _, _, _, _, _⟩) (v := ?_) rfl (by kernel_rfl) (by kernel_rfl) (by kernel_rfl) (fun _ _ _ h => h) (Or.inl ⟨by rfl, ?_⟩) (by assumption) ?_
        rotate_left 1
        · (intro W hSw; go_simp <;> with_reducible rfl)
        try simp only [Act.put, List.setIfInBounds_toArray, List.set_cons_zero, List.set_cons_succ]
        refine wpAnyH_take (i := 1) (oi := ⟨some 48, _, _, _, _, _⟩) (v := ?_) rfl (by kernel_rfl) (by kernel_rfl) (by kernel_rfl) (fun _ _ _ h => h) (Or.inl ⟨by rfl, ?_⟩) (by assumption) ?_
        rotate_left 1
        · (intro W hSw; obtain ⟨q0, q1, q2⟩ := tS W hSw; go_simp <;> with_reducible rfl)
        try simp only [Act.put, List.setIfInBounds_toArray, List.set_cons_zero, List.set_cons_succ]
        refine wpAnyH_take (i := 2) (oi := ⟨some 49, _, _, _, _, _⟩) (v := ?_) rfl (by kernel_rfl) (by kernel_rfl) (by kernel_rfl) (fun _ _ _ h => h) (Or.inl ⟨by rfl, ?_⟩) (by assumption) ?_
        rotate_left 1
        · (intro W hSw; go_simp <;> with_reducible rfl)
        try simp only [Act.put, List.setIfInBounds_toArray, List.set_cons_zero, List.set_cons_succ]
        refine wpAnyH_take (i := 3) (oi := ⟨some 50, _, _, _, _, _⟩) (v := ?_) rfl (by kernel_rfl) (by kernel_rfl) (by kernel_rfl) (fun _ _ _ h => h) (Or.inl ⟨by rfl, ?_⟩) (by assumption) ?_
        rotate_left 1
        · (intro W hSw; obtain ⟨q0, q1, q2⟩ := tS W hSw; go_simp <;> with_reducible rfl)
        try simp only [Act.put, List.setIfInBounds_toArray, List.set_cons_zero, List.set_cons_succ]
        refine wpAnyH_take (i := 4) (oi := ⟨some 51, _, _, _, _, _⟩) (v := .agg (List.toArray (x.cs))) rfl (by kernel_rfl) (by kernel_rfl) (by kernel_rfl) (fun _ _ _ h => h) (yieldsIf_load_mid (by rfl) 32 (.tmp 2) rfl p1 (0) rfl (x.cs) _ (fun W hW => range_part (b1.kept hW id) 0 x.cs rfl) Try.underlying32 rfl (sizeT _)) (by assumption) ?_
        try simp only [Act.put, List.setIfInBounds_toArray, List.set_cons_zero, List.set_cons_succ]
        refine wpAnyH_take (i := 5) (oi := ⟨some 52, _, _, _, _, _⟩) (v := ?_) rfl (by kernel_rfl) (by kernel_rfl) (by kernel_rfl) (fun _ _ _ h => h) (Or.inl ⟨by rfl, ?_⟩) (by assumption) ?_
        rotate_left 1
        · (intro W hSw; go_simp <;> with_reducible rfl)
        try simp only [Act.put, List.setIfInBounds_toArray, List.set_cons_zero, List.set_cons_succ]
        refine wpAnyH_take (i := 6) (oi := ⟨some 53, _, _, _, _, _⟩) (v := ?_) rfl (by kernel_rfl) (by kernel_rfl) (by kernel_rfl) (fun _ _ _ h => h) (Or.inl ⟨by rfl, ?_⟩) (by assumption) ?_
        rotate_left 1
        · (intro W hSw; obtain ⟨q0, q1, q2⟩ := tS W hSw; go_simp <;> with_reducible rfl)
        try simp only [Act.put, List.setIfInBounds_toArray, List.set_cons_zero, List.set_cons_succ]
        refine wpAnyH_ready (rs := [7]) (by kernel_rfl) (by simp) ?_
        refine AllReadyH.cons (o := ⟨some 54, _, _, _, _, _⟩) rfl (fun K hK => ?_) AllReadyH.nil
        go_simp
        refine (rget_any x i.c wd).mono ?_
        rintro e w1 ⟨rfl, hb1⟩
        have b1_1 := b1.on hb1
        have b2_1 := b2.on hb1
        have b3_1 := b3.on hb1
        have b5_1 := b5.on hb1
        have kk_1 := kk.trans (hb1.mono kk.size)
        have S1 : (fun W => Kept (fun g => False) wd W) w1 := Kept.next kS (kept_below (fun _ => False) hb1) (fun _ h => h.elim)
        refine hK.out _ _ S1 (fun h1 => ?_)
        clear hHeld hK K
        try simp only [Act.put, List.setIfInBounds_toArray, List.set_cons_zero, List.set_cons_succ]
        refine wpAnyH_take (i := 8) (oi := ⟨some 55, _, _, _, _, _⟩) (v := ?_) rfl (by kernel_rfl) (by kernel_rfl) (by kernel_rfl) (fun _ _ _ h => h) (Or.inl ⟨by rfl, ?_⟩) (by assumption) ?_
        rotate_left 1
        · (intro W hSw; go_simp <;> with_reducible rfl)
        try simp only [Act.put, List.setIfInBounds_toArray, List.set_cons_zero, List.set_cons_succ]
        refine wpAnyH_ready (rs := [9]) (by kernel_rfl) (by simp) ?_
        refine AllReadyH.cons (o := ⟨some 56, _, _, _, _, _⟩) rfl (fun K hK => ?_) AllReadyH.nil
        go_simp
        refine (rarith_any i.op (regI x i.b).n (regI x i.c).n hr w1).mono ?_
        rintro e w2 ⟨rfl, hw2⟩
        have hb2 : Below w1.heap.size w1 w2 := by rw [← hw2]; exact Below.refl _ _
        have b1_2 := b1_1.on hb2
        have b2_2 := b2_1.on hb2
        have b3_2 := b3_1.on hb2
        have b5_2 := b5_1.on hb2
        have kk_2 := kk_1.trans (hb2.mono kk_1.size)
        have S2 : (fun W => Kept (fun g => False) wd W) w2 := Kept.next S1 (kept_below (fun _ => False) hb2) (fun _ h => h.elim)
        refine hK.out _ _ S2 (fun h2 => ?_)
        clear h1 hK K
        try simp only [Act.put, List.setIfInBounds_toArray, List.set_cons_zero, List.set_cons_succ]
        refine wpAnyH_take (i := 10) (oi := ⟨some 46, _, _, _, _, _⟩) (v := ?_) rfl (by kernel_rfl) (by kernel_rfl) (by kernel_rfl) (fun _ _ _ h => h) (Or.inl ⟨by rfl, ?_⟩) (by assumption) ?_
        rotate_left 1
        · (intro W hSw; go_simp <;> with_reducible rfl)
        try simp only [Act.put, List.setIfInBounds_toArray, List.set_cons_zero, List.set_cons_succ]
        refine wpAnyH_take (i := 11) (oi := ⟨some 57, _, _, _, _, _⟩) (v := ?_) rfl (by kernel_rfl) (by kernel_rfl) (by kernel_rfl) (fun _ _ _ h => h) (Or.inl ⟨by rfl, ?_⟩) (by assumption) ?_
        rotate_left 1
        · (intro W hSw; go_simp <;> with_reducible rfl)
        try simp only [Act.put, List.setIfInBounds_toArray, List.set_cons_zero, List.set_cons_succ]
        refine wpAnyH_take (i := 12) (oi := ⟨some 58, _, _, _, _, _⟩) (v := ?_) rfl (by kernel_rfl) (by kernel_rfl) (by kernel_rfl) (fun _ _ _ h => h) (Or.inl ⟨by rfl, ?_⟩) (by assumption) ?_
        rotate_left 1
        · (intro W hSw; go_simp <;> with_reducible rfl)
        try simp only [Act.put, List.setIfInBounds_toArray, List.set_cons_zero, List.set_cons_succ]
        refine wpAnyH_take (i := 13) (oi := ⟨some 8, _, _, _, _, _⟩) (v := ?_) rfl (by kernel_rfl) (by kernel_rfl) (by kernel_rfl) (fun _ _ _ h => h) (Or.inl ⟨by rfl, ?_⟩) (by assumption) ?_
        rotate_left 1
        · (intro W hSw; go_simp <;> with_reducible rfl)
        try simp only [Act.put, List.setIfInBounds_toArray, List.set_cons_zero, List.set_cons_succ]
        refine wpAnyH_take (i := 14) (oi := ⟨some 9, _, _, _, _, _⟩) (v := ?_) rfl (by kernel_rfl) (by kernel_rfl) (by kernel_rfl) (fun _ _ _ h => h) (Or.inl ⟨by rfl, ?_⟩) (by assumption) ?_
        rotate_left 1
        · (intro W hSw; go_simp <;> with_reducible rfl)
        try simp only [Act.put, List.setIfInBounds_toArray, List.set_cons_zero, List.set_cons_succ]
        refine wpAnyH_done (by kernel_rfl) ?_ _
        refine NoPanic.normal ?_
        go_wp2_with fail
        go_meet
        exact ⟨rfl, rfl, kk_2, b1_2, b2_2, b3_2⟩
      case rest =>
        clear kk b1 b2 b3 b4 b5
        obtain ⟨rfl, rfl, kk, b1, b2, b3⟩ := hcut
        cases hq : ariN i.op (regI x i.c).n with
        | false =>
          have eR : recT x i = setI x i.a ⟨ariZ i.op (regI x i.b).n (regI x i.c).n, 0, 0⟩ := by unfold recT; rw [hq]; rfl
          obtain rfl : setI x i.a ⟨ariZ i.op (regI x i.b).n (regI x i.c).n, 0, 0⟩ = F := eR.symm.trans HV.out
          clear hq HV eR
          have d1 := rset_any i.a ⟨ariZ i.op (regI x i.b).n (regI x i.c).n, 0, 0⟩ (h.on kk) h1 h2 h3
          have c40_2_1 : wc.cell? ⟨p2, 1, none⟩ = some (.int .i64 i.a) := b2.cell 1
          go_wp2_with (first | ((with_reducible refine at_load 32 (.tmp 2) ?_); refine wpList_load_row rfl 32 (.tmp 2) rfl p1 rfl 32 x.cs.toArray (0, 0) _ b1 Try.underlying32 rfl (sizeT _) ?_))
          refine (d1).mono ?_
          rintro e W41 ⟨D1, m1, D2, m2, D3, m3, rfl, oq, k1⟩
          clear c40_2_1
          replace b1 := b1.on k1
          replace b2 := b2.on k1
          replace b3 := b3.on k1
          replace kk := kk.trans (k1.mono kk.size)
          clear k1
          clear d1
          obtain ⟨W42, es42⟩ : ∃ W, W41.setRow p1 ((setI x i.a ⟨ariZ i.op (regI x i.b).n (regI x i.c).n, 0, 0⟩).put ⟨D1, x.se.n, m1⟩ ⟨D2, x.bg.n, m2⟩ ⟨D3, x.sn.n, m3⟩).cs.toArray = W := ⟨_, rfl⟩
          have bo1 := b1
          replace b2 := row_far b2 es42 (by omega)
          replace b3 := row_far b3 es42 (by omega)
          replace b1 : Blk W42 p1 32 ((setI x i.a ⟨ariZ i.op (regI x i.b).n (regI x i.c).n, 0, 0⟩).put ⟨D1, x.se.n, m1⟩ ⟨D2, x.bg.n, m2⟩ ⟨D3, x.sn.n, m3⟩).cs.toArray := row_named b1 es42
          replace kk := kk.trans (row_below es42 hp1 kk.size)
          replace oq := oq.off bo1 (by decide) (by decide) es42 rfl rfl rfl
          have bo1_ := bo1
          have d2 := copyV (V := (setI x i.a ⟨ariZ i.op (regI x i.b).n (regI x i.c).n, 0, 0⟩).put ⟨D1, x.se.n, m1⟩ ⟨D2, x.bg.n, m2⟩ ⟨D3, x.sn.n, m3⟩) (y := setI x i.a ⟨ariZ i.op (regI x i.b).n (regI x i.c).n, 0, 0⟩) (n1 := x.se.n) (n2 := x.bg.n) (n3 := x.sn.n) oq.reads rfl rfl rfl (fun _ _ _ => rfl) h1 h2 h3
          go_wp2_with (first | ((with_reducible refine at_store 32 (.tmp 2) (.tmp 65) ?_); refine wpList_store_row rfl 32 (.tmp 2) (.tmp 65) rfl p1 ((setI x i.a ⟨ariZ i.op (regI x i.b).n (regI x i.c).n, 0, 0⟩).put ⟨D1, x.se.n, m1⟩ ⟨D2, x.bg.n, m2⟩ ⟨D3, x.sn.n, m3⟩).cs.toArray rfl rfl 32 x.cs.toArray bo1_ (sizeT _) rfl (Th.onea _) ?_; rw [es42]) | ((with_reducible refine at_load 32 (.tmp 2) ?_); refine wpList_load_row rfl 32 (.tmp 2) rfl p1 rfl 32 ((setI x i.a ⟨ariZ i.op (regI x i.b).n (regI x i.c).n, 0, 0⟩).put ⟨D1, x.se.n, m1⟩ ⟨D2, x.bg.n, m2⟩ ⟨D3, x.sn.n, m3⟩).cs.toArray (0, 0) _ b1 Try.underlying32 rfl (sizeT _) ?_))
          refine (d2).mono ?_
          rintro e W43 ⟨A1, c1, A2, c2, A3, c3, rfl, ow, k2⟩
          replace ow := ow.mono kk.size
          replace b1 := b1.on k2
          replace b2 := b2.on k2
          replace b3 := b3.on k2
          replace kk := kk.trans (k2.mono kk.size)
          clear k2
          clear d2
          obtain ⟨W44, es44⟩ : ∃ W, W43.setRow p3 ((setI x i.a ⟨ariZ i.op (regI x i.b).n (regI x i.c).n, 0, 0⟩).put ⟨A1, x.se.n, c1⟩ ⟨A2, x.bg.n, c2⟩ ⟨A3, x.sn.n, c3⟩).cs.toArray = W := ⟨_, rfl⟩
          have bo3 := b3
          replace b1 := row_far b1 es44 (by omega)
          replace b2 := row_far b2 es44 (by omega)
          replace b3 : Blk W44 p3 32 ((setI x i.a ⟨ariZ i.op (regI x i.b).n (regI x i.c).n, 0, 0⟩).put ⟨A1, x.se.n, c1⟩ ⟨A2, x.bg.n, c2⟩ ⟨A3, x.sn.n, c3⟩).cs.toArray := row_named b3 es44
          replace kk := kk.trans (row_below es44 hp3 kk.size)
          replace ow := ow.off bo3 (by decide) (by decide) es44 rfl rfl rfl
          go_wp2_with (((with_reducible refine at_store 32 (.tmp 4) (.tmp 100) ?_); refine wpList_store_row rfl 32 (.tmp 4) (.tmp 100) rfl p3 ((setI x i.a ⟨ariZ i.op (regI x i.b).n (regI x i.c).n, 0, 0⟩).put ⟨A1, x.se.n, c1⟩ ⟨A2, x.bg.n, c2⟩ ⟨A3, x.sn.n, c3⟩).cs.toArray rfl rfl 32 #[.int .i64 0, .int .i64 0, .int .i64 0, .int .i64 0, .int .i64 0, .int .i64 0, .int .i64 0, .int .i64 0, .int .i64 0, .int .i64 0, .int .i64 0, .int .i64 0, .int .i64 0, .int .i64 0, .int .i64 0, .int .i64 0, .int .i64 0, .int .i64 0, .slice none 0 0, .slice none 0 0, .slice none 0 0, .int .i64 0] bo3 (sizeT _) rfl (Th.onea _) ?_; rw [es44]))
          refine bodyPost_ret (res24 _ _ p3 ((setI x i.a ⟨ariZ i.op (regI x i.b).n (regI x i.c).n, 0, 0⟩).put ⟨A1, x.se.n, c1⟩ ⟨A2, x.bg.n, c2⟩ ⟨A3, x.sn.n, c3⟩).cs.toArray (.bool true) rfl rfl b3 (sizeT _)) rfl ?_
          exact ⟨A1, c1, A2, c2, A3, c3, rfl, ⟨ow.se, ow.bg, ow.sn⟩, kk⟩
        | true =>
          have eR : recT x i = { x with st := 1 } := by unfold recT; rw [hq]; rfl
          obtain rfl : ({ x with st := 1 } : Th) = F := eR.symm.trans HV.out
          clear hq HV eR
          have fr100_1_2 := b1.free 2
          have c100_1_2 : wc.cell? ⟨p1, 2, none⟩ = some (.int .i64 x.st) := b1.cell 2
          obtain ⟨W101, es101⟩ : ∃ W, wc.setCell ⟨p1, 2, none⟩ (.int .i64 1) = W := ⟨_, rfl⟩
          replace b2 := set_far b2 es101 (by omega)
          replace b3 := set_far b3 es101 (by omega)
          replace b1 : Blk W101 p1 32 ({ x with st := 1 } : Th).cs.toArray := set_named b1 es101 rfl
          replace kk := kk.trans (set_below es101 hp1 kk.size)
          have d2 := copyV (V := ({ x with st := 1 } : Th)) (y := ({ x with st := 1 } : Th)) (n1 := x.se.n) (n2 := x.bg.n) (n3 := x.sn.n) ⟨(h.on kk).se, (h.on kk).bg, (h.on kk).sn⟩ rfl rfl rfl (fun _ _ _ => rfl) h1 h2 h3
          go_wp2_with (first | ((with_reducible refine at_load 32 (.tmp 2) ?_); refine wpList_load_row rfl 32 (.tmp 2) rfl p1 rfl 32 (({ x with st := 1 } : Th)).cs.toArray (0, 0) _ b1 Try.underlying32 rfl (sizeT _) ?_))
          refine (d2).mono ?_
          rintro e W102 ⟨A1, c1, A2, c2, A3, c3, rfl, ow, k2⟩
          replace ow := ow.mono kk.size
          clear fr100_1_2 c100_1_2
          replace b1 := b1.on k2
          replace b2 := b2.on k2
          replace b3 := b3.on k2
          replace kk := kk.trans (k2.mono kk.size)
          clear k2
          clear d2
          obtain ⟨W103, es103⟩ : ∃ W, W102.setRow p3 ((({ x with st := 1 } : Th)).put ⟨A1, x.se.n, c1⟩ ⟨A2, x.bg.n, c2⟩ ⟨A3, x.sn.n, c3⟩).cs.toArray = W := ⟨_, rfl⟩
          have bo3 := b3
          replace b1 := row_far b1 es103 (by omega)
          replace b2 := row_far b2 es103 (by omega)
          replace b3 : Blk W103 p3 32 ((({ x with st := 1 } : Th)).put ⟨A1, x.se.n, c1⟩ ⟨A2, x.bg.n, c2⟩ ⟨A3, x.sn.n, c3⟩).cs.toArray := row_named b3 es103
          replace kk := kk.trans (row_below es103 hp3 kk.size)
          replace ow := ow.off bo3 (by decide) (by decide) es103 rfl rfl rfl
          go_wp2_with (((with_reducible refine at_store 32 (.tmp 4) (.tmp 100) ?_); refine wpList_store_row rfl 32 (.tmp 4) (.tmp 100) rfl p3 ((({ x with st := 1 } : Th)).put ⟨A1, x.se.n, c1⟩ ⟨A2, x.bg.n, c2⟩ ⟨A3, x.sn.n, c3⟩).cs.toArray rfl rfl 32 #[.int .i64 0, .int .i64 0, .int .i64 0, .int .i64 0, .int .i64 0, .int .i64 0, .int .i64 0, .int .i64 0, .int .i64 0, .int .i64 0, .int .i64 0, .int .i64 0, .int .i64 0, .int .i64 0, .int .i64 0, .int .i64 0, .int .i64 0, .int .i64 0, .slice none 0 0, .slice none 0 0, .slice none 0 0, .int .i64 0] bo3 (sizeT _) rfl (Th.onea _) ?_; rw [es103]))
          refine bodyPost_ret (res24 _ _ p3 ((({ x with st := 1 } : Th)).put ⟨A1, x.se.n, c1⟩ ⟨A2, x.bg.n, c2⟩ ⟨A3, x.sn.n, c3⟩).cs.toArray (.bool true) rfl rfl b3 (sizeT _)) rfl ?_
          exact ⟨A1, c1, A2, c2, A3, c3, rfl, ⟨ow.se, ow.bg, ow.sn⟩, kk⟩
    by_cases e6 : i.op = 6
    · have HV := Lib.hid ((locT_6 e6).symm.trans HF.out.1)
      obtain rfl : true = B := (locB_of e6 (by omega) (by omega)).symm.trans HF.out.2
      have t1 : (i.op == 1) = false := by rw [e6]; rfl
      have t2 : (i.op == 2) = false := by rw [e6]; rfl
      have t3 : (i.op == 3) = false := by rw [e6]; rfl
      have t4 : (i.op == 4) = false := by rw [e6]; rfl
      have t5 : (i.op == 5) = false := by rw [e6]; rfl
      have t6 : (i.op == 6) = true := by rw [e6]; rfl
      have hr : i.op = 4 ∨ i.op = 5 ∨ i.op = 6 ∨ i.op = 7 := by omega
      clear HF e1 e2 e3 e4 e5 e6
      have c40_2_0 : wc.cell? ⟨p2, 0, none⟩ = some (.int .i64 i.op) := b2.cell 0
      go_wp2_with fail
      clear c40_2_0
      go_cut [8, 9] (fun s8 s9 wx => s8 = .int .i64 (ariZ i.op (regI x i.b).n (regI x i.c).n) ∧ s9 = .bool (!ariN i.op (regI x i.c).n) ∧ Below w.heap.size w wx ∧ Blk wx p1 32 x.cs.toArray ∧ Blk wx p2 42 i.cs.toArray ∧ Blk wx p3 32 #[.int .i64 0, .int .i64 0, .int .i64 0, .int .i64 0, .int .i64 0, .int .i64 0, .int .i64 0, .int .i64 0, .int .i64 0, .int .i64 0, .int .i64 0, .int .i64 0, .int .i64 0, .int .i64 0, .int .i64 0, .int .i64 0, .int .i64 0, .int .i64 0, .slice none 0 0, .slice none 0 0, .slice none 0 0, .int .i64 0])
      case first =>
        have fl := field25 (regI x i.c)
        obtain ⟨wd, ed⟩ : ∃ W, wc.drew = W := ⟨_, rfl⟩
        have hd : Below wc.heap.size wc wd := by rw [← ed]; exact (Below.refl _ _).drew
        replace b1 := b1.on hd
        replace b2 := b2.on hd
        replace b3 := b3.on hd
        replace b5 := b5.on hd
        replace kk := kk.trans (hd.mono kk.size)
        clear hd
        have kS : Kept (fun g => False) wd wd := Kept.refl _ _
        have tS : ∀ W, Kept (fun g => False) wd W → W.cell? ⟨p2, 0, none⟩ = some (.int .i64 i.op) ∧ W.cell? ⟨p5, 0, none⟩ = some (.int .i64 (regI x i.b).n) ∧ W.cell? ⟨p2, 3, none⟩ = some (.int .i64 i.c) := fun W hW => ⟨(b2.kept hW id).cell 0, (b5.kept hW id).cell 0, (b2.kept hW id).cell 3⟩
        refine wp_region_noPanic ?_
        refine wp_region_held_drew (S := (fun W => Kept (fun g => False) wd W)) (by kernel_rfl) (by rw [ed]; exact kS) (fun hHeld => ?_)
        rw [ed] at hHeld ⊢
        refine wpAnyH_take (i := 0) (oi := ⟨some 47, _, _, _, _, _⟩) (v := ?_) rfl (by kernel_rfl) (by kernel_rfl) (by kernel_rfl) (fun _ _ _ h => h) (Or.inl ⟨by rfl, ?_⟩) (by assumption) ?_
        rotate_left 1
        · (intro W hSw; go_simp <;> with_reducible rfl)
        try simp only [Act.put, List.setIfInBounds_toArray, List.set_cons_zero, List.set_cons_succ]
        refine wpAnyH_take (i := 1) (oi := ⟨some 48, _, _, _, _, _⟩) (v := ?_) rfl (by kernel_rfl) (by kernel_rfl) (by kernel_rfl) (fun _ _ _ h => h) (Or.inl ⟨by rfl, ?_⟩) (by assumption) ?_
        rotate_left 1
        · (intro W hSw; obtain ⟨q0, q1, q2⟩ := tS W hSw; go_simp <;> with_reducible rfl)
        try simp only [Act.put, List.setIfInBounds_toArray, List.set_cons_zero, List.set_cons_succ]
        refine wpAnyH_take (i := 2) (oi := ⟨some 49, _, _, _, _, _⟩) (v := ?_) rfl (by kernel_rfl) (by kernel_rfl) (by kernel_rfl) (fun _ _ _ h => h) (Or.inl ⟨by rfl, ?_⟩) (by assumption) ?_
        rotate_left 1
        · (intro W hSw; go_simp <;> with_reducible rfl)
        try simp only [Act.put, List.setIfInBounds_toArray, List.set_cons_zero, List.set_cons_succ]
        refine wpAnyH_take (i := 3) (oi := ⟨some 50, _, _, _, _, _⟩) (v := ?_) rfl (by kernel_rfl) (by kernel_rfl) (by kernel_rfl) (fun _ _ _ h => h) (Or.inl ⟨by rfl, ?_⟩) (by assumption) ?_
        rotate_left 1
        · (intro W hSw; obtain ⟨q0, q1, q2⟩ := tS W hSw; go_simp <;> with_reducible rfl)
        try simp only [Act.put, List.setIfInBounds_toArray, List.set_cons_zero, List.set_cons_succ]
        refine wpAnyH_take (i := 4) (oi := ⟨some 51, _, _, _, _, _⟩) (v := .agg (List.toArray (x.cs))) rfl (by kernel_rfl) (by kernel_rfl) (by kernel_rfl) (fun _ _ _ h => h) (yieldsIf_load_mid (by rfl) 32 (.tmp 2) rfl p1 (0) rfl (x.cs) _ (fun W hW => range_part (b1.kept hW id) 0 x.cs rfl) Try.underlying32 rfl (sizeT _)) (by assumption) ?_
        try simp only [Act.put, List.setIfInBounds_toArray, List.set_cons_zero, List.set_cons_succ]
        refine wpAnyH_take (i := 5) (oi := ⟨some 52, _, _, _, _, _⟩) (v := ?_) rfl (by kernel_rfl) (by kernel_rfl) (by kernel_rfl) (fun _ _ _ h => h) (Or.inl ⟨by rfl, ?_⟩) (by assumption) ?_
        rotate_left 1
        · (intro W hSw; go_simp <;> with_reducible rfl)
        try simp only [Act.put, List.setIfInBounds_toArray, List.set_cons_zero, List.set_cons_succ]
        refine wpAnyH_take (i := 6) (oi := ⟨some 53, _, _, _, _, _⟩) (v := ?_) rfl (by kernel_rfl) (by kernel_rfl) (by kernel_rfl) (fun _ _ _ h => h) (Or.inl ⟨by rfl, ?_⟩) (by assumption) ?_
        rotate_left 1
        · (intro W hSw; obtain ⟨q0, q1, q2⟩ := tS W hSw; go_simp <;> with_reducible rfl)
        try simp only [Act.put, List.setIfInBounds_toArray, List.set_cons_zero, List.set_cons_succ]
        refine wpAnyH_ready (rs := [7]) (by kernel_rfl) (by simp) ?_
        refine AllReadyH.cons (o := ⟨some 54, _, _, _, _, _⟩) rfl (fun K hK => ?_) AllReadyH.nil
        go_simp
        refine (rget_any x i.c wd).mono ?_
        rintro e w1 ⟨rfl, hb1⟩
        have b1_1 := b1.on hb1
        have b2_1 := b2.on hb1
        have b3_1 := b3.on hb1
        have b5_1 := b5.on hb1
        have kk_1 := kk.trans (hb1.mono kk.size)
        have S1 : (fun W => Kept (fun g => False) wd W) w1 := Kept.next kS (kept_below (fun _ => False) hb1) (fun _ h => h.elim)
        refine hK.out _ _ S1 (fun h1 => ?_)
        clear hHeld hK K
        try simp only [Act.put, List.setIfInBounds_toArray, List.set_cons_zero, List.set_cons_succ]
        refine wpAnyH_take (i := 8) (oi := ⟨some 55, _, _, _, _, _⟩) (v := ?_) rfl (by kernel_rfl) (by kernel_rfl) (by kernel_rfl) (fun _ _ _ h => h) (Or.inl ⟨by rfl, ?_⟩) (by assumption) ?_
        rotate_left 1
        · (intro W hSw; go_simp <;> with_reducible rfl)
        try simp only [Act.put, List.setIfInBounds_toArray, List.set_cons_zero, List.set_cons_succ]
        refine wpAnyH_ready (rs := [9]) (by kernel_rfl) (by simp) ?_
        refine AllReadyH.cons (o := ⟨some 56, _, _, _, _, _⟩) rfl (fun K hK => ?_) AllReadyH.nil
        go_simp
        refine (rarith_any i.op (regI x i.b).n (regI x i.c).n hr w1).mono ?_
        rintro e w2 ⟨rfl, hw2⟩
        have hb2 : Below w1.heap.size w1 w2 := by rw [← hw2]; exact Below.refl _ _
        have b1_2 := b1_1.on hb2
        have b2_2 := b2_1.on hb2
        have b3_2 := b3_1.on hb2
        have b5_2 := b5_1.on hb2
        have kk_2 := kk_1.trans (hb2.mono kk_1.size)
        have S2 : (fun W => Kept (fun g => False) wd W) w2 := Kept.next S1 (kept_below (fun _ => False) hb2) (fun _ h => h.elim)
        refine hK.out _ _ S2 (fun h2 => ?_)
        clear h1 hK K
        try simp only [Act.put, List.setIfInBounds_toArray, List.set_cons_zero, List.set_cons_succ]
        refine wpAnyH_take (i := 10) (oi := ⟨some 46, _, _, _, _, _⟩) (v := ?_) rfl (by kernel_rfl) (by kernel_rfl) (by kernel_rfl) (fun _ _ _ h => h) (Or.inl ⟨by rfl, ?_⟩) (by assumption) ?_
        rotate_left 1
        · (intro W hSw; go_simp <;> with_reducible rfl)
        try simp only [Act.put, List.setIfInBounds_toArray, List.set_cons_zero, List.set_cons_succ]
        refine wpAnyH_take (i := 11) (oi := ⟨some 57, _, _, _, _, _⟩) (v := ?_) rfl (by kernel_rfl) (by kernel_rfl) (by kernel_rfl) (fun _ _ _ h => h) (Or.inl ⟨by rfl, ?_⟩) (by assumption) ?_
        rotate_left 1
        · (intro W hSw; go_simp <;> with_reducible rfl)
        try simp only [Act.put, List.setIfInBounds_toArray, List.set_cons_zero, List.set_cons_succ]
        refine wpAnyH_take (i := 12) (oi := ⟨some 58, _, _, _, _, _⟩) (v := ?_) rfl (by kernel_rfl) (by kernel_rfl) (by kernel_rfl) (fun _ _ _ h => h) (Or.inl ⟨by rfl, ?_⟩) (by assumption) ?_
        rotate_left 1
        · (intro W hSw; go_simp <;> with_reducible rfl)
        try simp only [Act.put, List.setIfInBounds_toArray, List.set_cons_zero, List.set_cons_succ]
        refine wpAnyH_take (i := 13) (oi := ⟨some 8, _, _, _, _, _⟩) (v := ?_) rfl (by kernel_rfl) (by kernel_rfl) (by kernel_rfl) (fun _ _ _ h => h) (Or.inl ⟨by rfl, ?_⟩) (by assumption) ?_
        rotate_left 1
        · (intro W hSw; go_simp <;> with_reducible rfl)
        try simp only [Act.put, List.setIfInBounds_toArray, List.set_cons_zero, List.set_cons_succ]
        refine wpAnyH_take (i := 14) (oi := ⟨some 9, _, _, _, _, _⟩) (v := ?_) rfl (by kernel_rfl) (by kernel_rfl) (by kernel_rfl) (fun _ _ _ h => h) (Or.inl ⟨by rfl, ?_⟩) (by assumption) ?_
        rotate_left 1
        · (intro W hSw; go_simp <;> with_reducible rfl)
        try simp only [Act.put, List.setIfInBounds_toArray, List.set_cons_zero, List.set_cons_succ]
        refine wpAnyH_done (by kernel_rfl) ?_ _
        refine NoPanic.normal ?_
        go_wp2_with fail
        go_meet
        exact ⟨rfl, rfl, kk_2, b1_2, b2_2, b3_2⟩
      case rest =>
        clear kk b1 b2 b3 b4 b5
        obtain ⟨rfl, rfl, kk, b1, b2, b3⟩ := hcut
        cases hq : ariN i.op (regI x i.c).n with
        | false =>
          have eR : recT x i = setI x i.a ⟨ariZ i.op (regI x i.b).n (regI x i.c).n, 0, 0⟩ := by unfold recT; rw [hq]; rfl
          obtain rfl : setI x i.a ⟨ariZ i.op (regI x i.b).n (regI x i.c).n, 0, 0⟩ = F := eR.symm.trans HV.out
          clear hq HV eR
          have d1 := rset_any i.a ⟨ariZ i.op (regI x i.b).n (regI x i.c).n, 0, 0⟩ (h.on kk) h1 h2 h3
          have c40_2_1 : wc.cell? ⟨p2, 1, none⟩ = some (.int .i64 i.a) := b2.cell 1
          go_wp2_with (first | ((with_reducible refine at_load 32 (.tmp 2) ?_); refine wpList_load_row rfl 32 (.tmp 2) rfl p1 rfl 32 x.cs.toArray (0, 0) _ b1 Try.underlying32 rfl (sizeT _) ?_))
          refine (d1).mono ?_
          rintro e W41 ⟨D1, m1, D2, m2, D3, m3, rfl, oq, k1⟩
          clear c40_2_1
          replace b1 := b1.on k1
          replace b2 := b2.on k1
          replace b3 := b3.on k1
          replace kk := kk.trans (k1.mono kk.size)
          clear k1
          clear d1
          obtain ⟨W42, es42⟩ : ∃ W, W41.setRow p1 ((setI x i.a ⟨ariZ i.op (regI x i.b).n (regI x i.c).n, 0, 0⟩).put ⟨D1, x.se.n, m1⟩ ⟨D2, x.bg.n, m2⟩ ⟨D3, x.sn.n, m3⟩).cs.toArray = W := ⟨_, rfl⟩
          have bo1 := b1
          replace b2 := row_far b2 es42 (by omega)
          replace b3 := row_far b3 es42 (by omega)
          replace b1 : Blk W42 p1 32 ((setI x i.a ⟨ariZ i.op (regI x i.b).n (regI x i.c).n, 0, 0⟩).put ⟨D1, x.se.n, m1⟩ ⟨D2, x.bg.n, m2⟩ ⟨D3, x.sn.n, m3⟩).cs.toArray := row_named b1 es42
          replace kk := kk.trans (row_below es42 hp1 kk.size)
          replace oq := oq.off bo1 (by decide) (by decide) es42 rfl rfl rfl
          have bo1_ := bo1
          have d2 := copyV (V := (setI x i.a ⟨ariZ i.op (regI x i.b).n (regI x i.c).n, 0, 0⟩).put ⟨D1, x.se.n, m1⟩ ⟨D2, x.bg.n, m2⟩ ⟨D3, x.sn.n, m3⟩) (y := setI x i.a ⟨ariZ i.op (regI x i.b).n (regI x i.c).n, 0, 0⟩) (n1 := x.se.n) (n2 := x.bg.n) (n3 := x.sn.n) oq.reads rfl rfl rfl (fun _ _ _ => rfl) h1 h2 h3
          go_wp2_with (first | ((with_reducible refine at_store 32 (.tmp 2) (.tmp 65) ?_); refine wpList_store_row rfl 32 (.tmp 2) (.tmp 65) rfl p1 ((setI x i.a ⟨ariZ i.op (regI x i.b).n (regI x i.c).n, 0, 0⟩).put ⟨D1, x.se.n, m1⟩ ⟨D2, x.bg.n, m2⟩ ⟨D3, x.sn.n, m3⟩).cs.toArray rfl rfl 32 x.cs.toArray bo1_ (sizeT _) rfl (Th.onea _) ?_; rw [es42]) | ((with_reducible refine at_load 32 (.tmp 2) ?_); refine wpList_load_row rfl 32 (.tmp 2) rfl p1 rfl 32 ((setI x i.a ⟨ariZ i.op (regI x i.b).n (regI x i.c).n, 0, 0⟩).put ⟨D1, x.se.n, m1⟩ ⟨D2, x.bg.n, m2⟩ ⟨D3, x.sn.n, m3⟩).cs.toArray (0, 0) _ b1 Try.underlying32 rfl (sizeT _) ?_))
          refine (d2).mono ?_
          rintro e W43 ⟨A1, c1, A2, c2, A3, c3, rfl, ow, k2⟩
          replace ow := ow.mono kk.size
          replace b1 := b1.on k2
          replace b2 := b2.on k2
          replace b3 := b3.on k2
          replace kk := kk.trans (k2.mono kk.size)
          clear k2
          clear d2
          obtain ⟨W44, es44⟩ : ∃ W, W43.setRow p3 ((setI x i.a ⟨ariZ i.op (regI x i.b).n (regI x i.c).n, 0, 0⟩).put ⟨A1, x.se.n, c1⟩ ⟨A2, x.bg.n, c2⟩ ⟨A3, x.sn.n, c3⟩).cs.toArray = W := ⟨_, rfl⟩
          have bo3 := b3
          replace b1 := row_far b1 es44 (by omega)
          replace b2 := row_far b2 es44 (by omega)
          replace b3 : Blk W44 p3 32 ((setI x i.a ⟨ariZ i.op (regI x i.b).n (regI x i.c).n, 0, 0⟩).put ⟨A1, x.se.n, c1⟩ ⟨A2, x.bg.n, c2⟩ ⟨A3, x.sn.n, c3⟩).cs.toArray := row_named b3 es44
          replace kk := kk.trans (row_below es44 hp3 kk.size)
          replace ow := ow.off bo3 (by decide) (by decide) es44 rfl rfl rfl
          go_wp2_with (((with_reducible refine at_store 32 (.tmp 4) (.tmp 100) ?_); refine wpList_store_row rfl 32 (.tmp 4) (.tmp 100) rfl p3 ((setI x i.a ⟨ariZ i.op (regI x i.b).n (regI x i.c).n, 0, 0⟩).put ⟨A1, x.se.n, c1⟩ ⟨A2, x.bg.n, c2⟩ ⟨A3, x.sn.n, c3⟩).cs.toArray rfl rfl 32 #[.int .i64 0, .int .i64 0, .int .i64 0, .int .i64 0, .int .i64 0, .int .i64 0, .int .i64 0, .int .i64 0, .int .i64 0, .int .i64 0, .int .i64 0, .int .i64 0, .int .i64 0, .int .i64 0, .int .i64 0, .int .i64 0, .int .i64 0, .int .i64 0, .slice none 0 0, .slice none 0 0, .slice none 0 0, .int .i64 0] bo3 (sizeT _) rfl (Th.onea _) ?_; rw [es44]))
          refine bodyPost_ret (res24 _ _ p3 ((setI x i.a ⟨ariZ i.op (regI x i.b).n (regI x i.c).n, 0, 0⟩).put ⟨A1, x.se.n, c1⟩ ⟨A2, x.bg.n, c2⟩ ⟨A3, x.sn.n, c3⟩).cs.toArray (.bool true) rfl rfl b3 (sizeT _)) rfl ?_
          exact ⟨A1, c1, A2, c2, A3, c3, rfl, ⟨ow.se, ow.bg, ow.sn⟩, kk⟩
        | true =>
          have eR : recT x i = { x with st := 1 } := by unfold recT; rw [hq]; rfl
          obtain rfl : ({ x with st := 1 } : Th) = F := eR.symm.trans HV.out
          clear hq HV eR
          have fr100_1_2 := b1.free 2
          have c100_1_2 : wc.cell? ⟨p1, 2, none⟩ = some (.int .i64 x.st) := b1.cell 2
          obtain ⟨W101, es101⟩ : ∃ W, wc.setCell ⟨p1, 2, none⟩ (.int .i64 1) = W := ⟨_, rfl⟩
          replace b2 := set_far b2 es101 (by omega)
          replace b3 := set_far b3 es101 (by omega)
          replace b1 : Blk W101 p1 32 ({ x with st := 1 } : Th).cs.toArray := set_named b1 es101 rfl
          replace kk := kk.trans (set_below es101 hp1 kk.size)
          have d2 := copyV (V := ({ x with st := 1 } : Th)) (y := ({ x with st := 1 } : Th)) (n1 := x.se.n) (n2 := x.bg.n) (n3 := x.sn.n) ⟨(h.on kk).se, (h.on kk).bg, (h.on kk).sn⟩ rfl rfl rfl (fun _ _ _ => rfl) h1 h2 h3
          go_wp2_with (first | ((with_reducible refine at_load 32 (.tmp 2) ?_); refine wpList_load_row rfl 32 (.tmp 2) rfl p1 rfl 32 (({ x with st := 1 } : Th)).cs.toArray (0, 0) _ b1 Try.underlying32 rfl (sizeT _) ?_))
          refine (d2).mono ?_
          rintro e W102 ⟨A1, c1, A2, c2, A3, c3, rfl, ow, k2⟩
          replace ow := ow.mono kk.size
          clear fr100_1_2 c100_1_2
          replace b1 := b1.on k2
          replace b2 := b2.on k2
          replace b3 := b3.on k2
          replace kk := kk.trans (k2.mono kk.size)
          clear k2
          clear d2
          obtain ⟨W103, es103⟩ : ∃ W, W102.setRow p3 ((({ x with st := 1 } : Th)).put ⟨A1, x.se.n, c1⟩ ⟨A2, x.bg.n, c2⟩ ⟨A3, x.sn.n, c3⟩).cs.toArray = W := ⟨_, rfl⟩
          have bo3 := b3
          replace b1 := row_far b1 es103 (by omega)
          replace b2 := row_far b2 es103 (by omega)
          replace b3 : Blk W103 p3 32 ((({ x with st := 1 } : Th)).put ⟨A1, x.se.n, c1⟩ ⟨A2, x.bg.n, c2⟩ ⟨A3, x.sn.n, c3⟩).cs.toArray := row_named b3 es103
          replace kk := kk.trans (row_below es103 hp3 kk.size)
          replace ow := ow.off bo3 (by decide) (by decide) es103 rfl rfl rfl
          go_wp2_with (((with_reducible refine at_store 32 (.tmp 4) (.tmp 100) ?_); refine wpList_store_row rfl 32 (.tmp 4) (.tmp 100) rfl p3 ((({ x with st := 1 } : Th)).put ⟨A1, x.se.n, c1⟩ ⟨A2, x.bg.n, c2⟩ ⟨A3, x.sn.n, c3⟩).cs.toArray rfl rfl 32 #[.int .i64 0, .int .i64 0, .int .i64 0, .int .i64 0, .int .i64 0, .int .i64 0, .int .i64 0, .int .i64 0, .int .i64 0, .int .i64 0, .int .i64 0, .int .i64 0, .int .i64 0, .int .i64 0, .int .i64 0, .int .i64 0, .int .i64 0, .int .i64 0, .slice none 0 0, .slice none 0 0, .slice none 0 0, .int .i64 0] bo3 (sizeT _) rfl (Th.onea _) ?_; rw [es103]))
          refine bodyPost_ret (res24 _ _ p3 ((({ x with st := 1 } : Th)).put ⟨A1, x.se.n, c1⟩ ⟨A2, x.bg.n, c2⟩ ⟨A3, x.sn.n, c3⟩).cs.toArray (.bool true) rfl rfl b3 (sizeT _)) rfl ?_
          exact ⟨A1, c1, A2, c2, A3, c3, rfl, ⟨ow.se, ow.bg, ow.sn⟩, kk⟩
    by_cases e7 : i.op = 7
    · have HV := Lib.hid ((locT_7 e7).symm.trans HF.out.1)
      obtain rfl : true = B := (locB_of e7 (by omega) (by omega)).symm.trans HF.out.2
      have t1 : (i.op == 1) = false := by rw [e7]; rfl
      have t2 : (i.op == 2) = false := by rw [e7]; rfl
      have t3 : (i.op == 3) = false := by rw [e7]; rfl
      have t4 : (i.op == 4) = false := by rw [e7]; rfl
      have t5 : (i.op == 5) = false := by rw [e7]; rfl
      have t6 : (i.op == 6) = false := by rw [e7]; rfl
      have t7 : (i.op == 7) = true := by rw [e7]; rfl
      have hr : i.op = 4 ∨ i.op = 5 ∨ i.op = 6 ∨ i.op = 7 := by omega
      clear HF e1 e2 e3 e4 e5 e6 e7
      have c40_2_0 : wc.cell? ⟨p2, 0, none⟩ = some (.int .i64 i.op) := b2.cell 0
      go_wp2_with fail
      clear c40_2_0
      go_cut [8, 9] (fun s8 s9 wx => s8 = .int .i64 (ariZ i.op (regI x i.b).n (regI x i.c).n) ∧ s9 = .bool (!ariN i.op (regI x i.c).n) ∧ Below w.heap.size w wx ∧ Blk wx p1 32 x.cs.toArray ∧ Blk wx p2 42 i.cs.toArray ∧ Blk wx p3 32 #[.int .i64 0, .int .i64 0, .int .i64 0, .int .i64 0, .int .i64 0, .int .i64 0, .int .i64 0, .int .i64 0, .int .i64 0, .int .i64 0, .int .i64 0, .int .i64 0, .int .i64 0, .int .i64 0, .int .i64 0, .int .i64 0, .int .i64 0, .int .i64 0, .slice none 0 0, .slice none 0 0, .slice none 0 0, .int .i64 0])
      case first =>
        have fl := field25 (regI x i.c)
        obtain ⟨wd, ed⟩ : ∃ W, wc.drew = W := ⟨_, rfl⟩
        have hd : Below wc.heap.size wc wd := by rw [← ed]; exact (Below.refl _ _).drew
        replace b1 := b1.on hd
        replace b2 := b2.on hd
        replace b3 := b3.on hd
        replace b5 := b5.on hd
        replace kk := kk.trans (hd.mono kk.size)
        clear hd
        have kS : Kept (fun g => False) wd wd := Kept.refl _ _
        have tS : ∀ W, Kept (fun g => False) wd W → W.cell? ⟨p2, 0, none⟩ = some (.int .i64 i.op) ∧ W.cell? ⟨p5, 0, none⟩ = some (.int .i64 (regI x i.b).n) ∧ W.cell? ⟨p2, 3, none⟩ = some (.int .i64 i.c) := fun W hW => ⟨(b2.kept hW id).cell 0, (b5.kept hW id).cell 0, (b2.kept hW id).cell 3⟩
        refine wp_region_noPanic ?_
        refine wp_region_held_drew (S := (fun W => Kept (fun g => False) wd W)) (by kernel_rfl) (by rw [ed]; exact kS) (fun hHeld => ?_)
        rw [ed] at hHeld ⊢
        refine wpAnyH_take (i := 0) (oi := ⟨some 47, _, _, _, _, _⟩) (v := ?_) rfl (by kernel_rfl) (by kernel_rfl) (by kernel_rfl) (fun _ _ _ h => h) (Or.inl ⟨by rfl, ?_⟩) (by assumption) ?_
        rotate_left 1
        · (intro W hSw; go_simp <;> with_reducible rfl)
        try simp only [Act.put, List.setIfInBounds_toArray, List.set_cons_zero, List.set_cons_succ]
        refine wpAnyH_take (i := 1) (oi := ⟨some 48, _, _, _, _, _⟩) (v := ?_) rfl (by kernel_rfl) (by kernel_rfl) (by kernel_rfl) (fun _ _ _ h => h) (Or.inl ⟨by rfl, ?_⟩) (by assumption) ?_
        rotate_left 1
        · (intro W hSw; obtain ⟨q0, q1, q2⟩ := tS W hSw; go_simp <;> with_reducible rfl)
        try simp only [Act.put, List.setIfInBounds_toArray, List.set_cons_zero, List.set_cons_succ]
        refine wpAnyH_take (i := 2) (oi := ⟨some 49, _, _, _, _, _⟩) (v := ?_) rfl (by kernel_rfl) (by kernel_rfl) (by kernel_rfl) (fun _ _ _ h => h) (Or.inl ⟨by rfl, ?_⟩) (by assumption) ?_
        rotate_left 1
        · (intro W hSw; go_simp <;> with_reducible rfl)
        try simp only [Act.put, List.setIfInBounds_toArray, List.set_cons_zero, List.set_cons_succ]
        refine wpAnyH_take (i := 3) (oi := ⟨some 50, _, _, _, _, _⟩) (v := ?_) rfl (by kernel_rfl) (by kernel_rfl) (by kernel_rfl) (fun _ _ _ h => h) (Or.inl ⟨by rfl, ?_⟩) (by assumption) ?_
        rotate_left 1
        · (intro W hSw; obtain ⟨q0, q1, q2⟩ := tS W hSw; go_simp <;> with_reducible rfl)
        try simp only [Act.put, List.setIfInBounds_toArray, List.set_cons_zero, List.set_cons_succ]
        refine wpAnyH_take (i := 4) (oi := ⟨some 51, _, _, _, _, _⟩) (v := .agg (List.toArray (x.cs))) rfl (by kernel_rfl) (by kernel_rfl) (by kernel_rfl) (fun _ _ _ h => h) (yieldsIf_load_mid (by rfl) 32 (.tmp 2) rfl p1 (0) rfl (x.cs) _ (fun W hW => range_part (b1.kept hW id) 0 x.cs rfl) Try.underlying32 rfl (sizeT _)) (by assumption) ?_
        try simp only [Act.put, List.setIfInBounds_toArray, List.set_cons_zero, List.set_cons_succ]
        refine wpAnyH_take (i := 5) (oi := ⟨some 52, _, _, _, _, _⟩) (v := ?_) rfl (by kernel_rfl) (by kernel_rfl) (by kernel_rfl) (fun _ _ _ h => h) (Or.inl ⟨by rfl, ?_⟩) (by assumption) ?_
        rotate_left 1
        · (intro W hSw; go_simp <;> with_reducible rfl)
        try simp only [Act.put, List.setIfInBounds_toArray, List.set_cons_zero, List.set_cons_succ]
        refine wpAnyH_take (i := 6) (oi := ⟨some 53, _, _, _, _, _⟩) (v := ?_) rfl (by kernel_rfl) (by kernel_rfl) (by kernel_rfl) (fun _ _ _ h => h) (Or.inl ⟨by rfl, ?_⟩) (by assumption) ?_
        rotate_left 1
        · (intro W hSw; obtain ⟨q0, q1, q2⟩ := tS W hSw; go_simp <;> with_reducible rfl)
        try simp only [Act.put, List.setIfInBounds_toArray, List.set_cons_zero, List.set_cons_succ]
        refine wpAnyH_ready (rs := [7]) (by kernel_rfl) (by simp) ?_
        refine AllReadyH.cons (o := ⟨some 54, _, _, _, _, _⟩) rfl (fun K hK => ?_) AllReadyH.nil
        go_simp
        refine (rget_any x i.c wd).mono ?_
        rintro e w1 ⟨rfl, hb1⟩
        have b1_1 := b1.on hb1
        have b2_1 := b2.on hb1
        have b3_1 := b3.on hb1
        have b5_1 := b5.on hb1
        have kk_1 := kk.trans (hb1.mono kk.size)
        have S1 : (fun W => Kept (fun g => False) wd W) w1 := Kept.next kS (kept_below (fun _ => False) hb1) (fun _ h => h.elim)
        refine hK.out _ _ S1 (fun h1 => ?_)
        clear hHeld hK K
        try simp only [Act.put, List.setIfInBounds_toArray, List.set_cons_zero, List.set_cons_succ]
        refine wpAnyH_take (i := 8) (oi := ⟨some 55, _, _, _, _, _⟩) (v := ?_) rfl (by kernel_rfl) (by kernel_rfl) (by kernel_rfl) (fun _ _ _ h => h) (Or.inl ⟨by rfl, ?_⟩) (by assumption) ?_
        rotate_left 1
        · (intro W hSw; go_simp <;> with_reducible rfl)
        try simp only [Act.put, List.setIfInBounds_toArray, List.set_cons_zero, List.set_cons_succ]
        refine wpAnyH_ready (rs := [9]) (by kernel_rfl) (by simp) ?_
        refine AllReadyH.cons (o := ⟨some 56, _, _, _, _, _⟩) rfl (fun K hK => ?_) AllReadyH.nil
        go_simp
        refine (rarith_any i.op (regI x i.b).n (regI x i.c).n hr w1).mono ?_
        rintro e w2 ⟨rfl, hw2⟩
        have hb2 : Below w1.heap.size w1 w2 := by rw [← hw2]; exact Below.refl _ _
        have b1_2 := b1_1.on hb2
        have b2_2 := b2_1.on hb2
        have b3_2 := b3_1.on hb2
        have b5_2 := b5_1.on hb2
        have kk_2 := kk_1.trans (hb2.mono kk_1.size)
        have S2 : (fun W => Kept (fun g => False) wd W) w2 := Kept.next S1 (kept_below (fun _ => False) hb2) (fun _ h => h.elim)
        refine hK.out _ _ S2 (fun h2 => ?_)
        clear h1 hK K
        try simp only [Act.put, List.setIfInBounds_toArray, List.set_cons_zero, List.set_cons_succ]
        refine wpAnyH_take (i := 10) (oi := ⟨some 46, _, _, _, _, _⟩) (v := ?_) rfl (by kernel_rfl) (by kernel_rfl) (by kernel_rfl) (fun _ _ _ h => h) (Or.inl ⟨by rfl, ?_⟩) (by assumption) ?_
        rotate_left 1
        · (intro W hSw; go_simp <;> with_reducible rfl)
        try simp only [Act.put, List.setIfInBounds_toArray, List.set_cons_zero, List.set_cons_succ]
        refine wpAnyH_take (i := 11) (oi := ⟨some 57, _, _, _, _, _⟩) (v := ?_) rfl (by kernel_rfl) (by kernel_rfl) (by kernel_rfl) (fun _ _ _ h => h) (Or.inl ⟨by rfl, ?_⟩) (by assumption) ?_
        rotate_left 1
        · (intro W hSw; go_simp <;> with_reducible rfl)
        try simp only [Act.put, List.setIfInBounds_toArray, List.set_cons_zero, List.set_cons_succ]
        refine wpAnyH_take (i := 12) (oi := ⟨some 58, _, _, _, _, _⟩) (v := ?_) rfl (by kernel_rfl) (by kernel_rfl) (by kernel_rfl) (fun _ _ _ h => h) (Or.inl ⟨by rfl, ?_⟩) (by assumption) ?_
        rotate_left 1
        · (intro W hSw; go_simp <;> with_reducible rfl)
        try simp only [Act.put, List.setIfInBounds_toArray, List.set_cons_zero, List.set_cons_succ]
        refine wpAnyH_take (i := 13) (oi := ⟨some 8, _, _, _, _, _⟩) (v := ?_) rfl (by kernel_rfl) (by kernel_rfl) (by kernel_rfl) (fun _ _ _ h => h) (Or.inl ⟨by rfl, ?_⟩) (by assumption) ?_
        rotate_left 1
        · (intro W hSw; go_simp <;> with_reducible rfl)
        try simp only [Act.put, List.setIfInBounds_toArray, List.set_cons_zero, List.set_cons_succ]
        refine wpAnyH_take (i := 14) (oi := ⟨some 9, _, _, _, _, _⟩) (v := ?_) rfl (by kernel_rfl) (by kernel_rfl) (by kernel_rfl) (fun _ _ _ h => h) (Or.inl ⟨by rfl, ?_⟩) (by assumption) ?_
        rotate_left 1
        · (intro W hSw; go_simp <;> with_reducible rfl)
        try simp only [Act.put, List.setIfInBounds_toArray, List.set_cons_zero, List.set_cons_succ]
        refine wpAnyH_done (by kernel_rfl) ?_ _
        refine NoPanic.normal ?_
        go_wp2_with fail
        go_meet
        exact ⟨rfl, rfl, kk_2, b1_2, b2_2, b3_2⟩
      case rest =>
        clear kk b1 b2 b3 b4 b5
        obtain ⟨rfl, rfl, kk, b1, b2, b3⟩ := hcut
        cases hq : ariN i.op (regI x i.c).n with
        | false =>
          have eR : recT x i = setI x i.a ⟨ariZ i.op (regI x i.b).n (regI x i.c).n, 0, 0⟩ := by unfold recT; rw [hq]; rfl
          obtain rfl : setI x i.a ⟨ariZ i.op (regI x i.b).n (regI x i.c).n, 0, 0⟩ = F := eR.symm.trans HV.out
          clear hq HV eR
          have d1 := rset_any i.a ⟨ariZ i.op (regI x i.b).n (regI x i.c).n, 0, 0⟩ (h.on kk) h1 h2 h3
          have c40_2_1 : wc.cell? ⟨p2, 1, none⟩ = some (.int .i64 i.a) := b2.cell 1
          go_wp2_with (first | ((with_reducible refine at_load 32 (.tmp 2) ?_); refine wpList_load_row rfl 32 (.tmp 2) rfl p1 rfl 32 x.cs.toArray (0, 0) _ b1 Try.underlying32 rfl (sizeT _) ?_))
          refine (d1).mono ?_
          rintro e W41 ⟨D1, m1, D2, m2, D3, m3, rfl, oq, k1⟩
          clear c40_2_1
          replace b1 := b1.on k1
          replace b2 := b2.on k1
          replace b3 := b3.on k1
          replace kk := kk.trans (k1.mono kk.size)
          clear k1
          clear d1
          obtain ⟨W42, es42⟩ : ∃ W, W41.setRow p1 ((setI x i.a ⟨ariZ i.op (regI x i.b).n (regI x i.c).n, 0, 0⟩).put ⟨D1, x.se.n, m1⟩ ⟨D2, x.bg.n, m2⟩ ⟨D3, x.sn.n, m3⟩).cs.toArray = W := ⟨_, rfl⟩
          have bo1 := b1
          replace b2 := row_far b2 es42 (by omega)
          replace b3 := row_far b3 es42 (by omega)
          replace b1 : Blk W42 p1 32 ((setI x i.a ⟨ariZ i.op (regI x i.b).n (regI x i.c).n, 0, 0⟩).put ⟨D1, x.se.n, m1⟩ ⟨D2, x.bg.n, m2⟩ ⟨D3, x.sn.n, m3⟩).cs.toArray := row_named b1 es42
          replace kk := kk.trans (row_below es42 hp1 kk.size)
          replace oq := oq.off bo1 (by decide) (by decide) es42 rfl rfl rfl
          have bo1_ := bo1
          have d2 := copyV (V := (setI x i.a ⟨ariZ i.op (regI x i.b).n (regI x i.c).n, 0, 0⟩).put ⟨D1, x.se.n, m1⟩ ⟨D2, x.bg.n, m2⟩ ⟨D3, x.sn.n, m3⟩) (y := setI x i.a ⟨ariZ i.op (regI x i.b).n (regI x i.c).n, 0, 0⟩) (n1 := x.se.n) (n2 := x.bg.n) (n3 := x.sn.n) oq.reads rfl rfl rfl (fun _ _ _ => rfl) h1 h2 h3
          go_wp2_with (first | ((with_reducible refine at_store 32 (.tmp 2) (.tmp 65) ?_); refine wpList_store_row rfl 32 (.tmp 2) (.tmp 65) rfl p1 ((setI x i.a ⟨ariZ i.op (regI x i.b).n (regI x i.c).n, 0, 0⟩).put ⟨D1, x.se.n, m1⟩ ⟨D2, x.bg.n, m2⟩ ⟨D3, x.sn.n, m3⟩).cs.toArray rfl rfl 32 x.cs.toArray bo1_ (sizeT _) rfl (Th.onea _) ?_; rw [es42]) | ((with_reducible refine at_load 32 (.tmp 2) ?_); refine wpList_load_row rfl 32 (.tmp 2) rfl p1 rfl 32 ((setI x i.a ⟨ariZ i.op (regI x i.b).n (regI x i.c).n, 0, 0⟩).put ⟨D1, x.se.n, m1⟩ ⟨D2, x.bg.n, m2⟩ ⟨D3, x.sn.n, m3⟩).cs.toArray (0, 0) _ b1 Try.underlying32 rfl (sizeT _) ?_))
          refine (d2).mono ?_
          rintro e W43 ⟨A1, c1, A2, c2, A3, c3, rfl, ow, k2⟩
          replace ow := ow.mono kk.size
          replace b1 := b1.on k2
          replace b2 := b2.on k2
          replace b3 := b3.on k2
          replace kk := kk.trans (k2.mono kk.size)
          clear k2
          clear d2
          obtain ⟨W44, es44⟩ : ∃ W, W43.setRow p3 ((setI x i.a ⟨ariZ i.op (regI x i.b).n (regI x i.c).n, 0, 0⟩).put ⟨A1, x.se.n, c1⟩ ⟨A2, x.bg.n, c2⟩ ⟨A3, x.sn.n, c3⟩).cs.toArray = W := ⟨_, rfl⟩
          have bo3 := b3
          replace b1 := row_far b1 es44 (by omega)
          replace b2 := row_far b2 es44 (by omega)
          replace b3 : Blk W44 p3 32 ((setI x i.a ⟨ariZ i.op (regI x i.b).n (regI x i.c).n, 0, 0⟩).put ⟨A1, x.se.n, c1⟩ ⟨A2, x.bg.n, c2⟩ ⟨A3, x.sn.n, c3⟩).cs.toArray := row_named b3 es44
          replace kk := kk.trans (row_below es44 hp3 kk.size)
          replace ow := ow.off bo3 (by decide) (by decide) es44 rfl rfl rfl
          go_wp2_with (((with_reducible refine at_store 32 (.tmp 4) (.tmp 100) ?_); refine wpList_store_row rfl 32 (.tmp 4) (.tmp 100) rfl p3 ((setI x i.a ⟨ariZ i.op (regI x i.b).n (regI x i.c).n, 0, 0⟩).put ⟨A1, x.se.n, c1⟩ ⟨A2, x.bg.n, c2⟩ ⟨A3, x.sn.n, c3⟩).cs.toArray rfl rfl 32 #[.int .i64 0, .int .i64 0, .int .i64 0, .int .i64 0, .int .i64 0, .int .i64 0, .int .i64 0, .int .i64 0, .int .i64 0, .int .i64 0, .int .i64 0, .int .i64 0, .int .i64 0, .int .i64 0, .int .i64 0, .int .i64 0, .int .i64 0, .int .i64 0, .slice none 0 0, .slice none 0 0, .slice none 0 0, .int .i64 0] bo3 (sizeT _) rfl (Th.onea _) ?_; rw [es44]))
          refine bodyPost_ret (res24 _ _ p3 ((setI x i.a ⟨ariZ i.op (regI x i.b).n (regI x i.c).n, 0, 0⟩).put ⟨A1, x.se.n, c1⟩ ⟨A2, x.bg.n, c2⟩ ⟨A3, x.sn.n, c3⟩).cs.toArray (.bool true) rfl rfl b3 (sizeT _)) rfl ?_
          exact ⟨A1, c1, A2, c2, A3, c3, rfl, ⟨ow.se, ow.bg, ow.sn⟩, kk⟩
        | true =>
          have eR : recT x i = { x with st := 1 } := by unfold recT; rw [hq]; rfl
          obtain rfl : ({ x with st := 1 } : Th) = F := eR.symm.trans HV.out
          clear hq HV eR
          have fr100_1_2 := b1.free 2
          have c100_1_2 : wc.cell? ⟨p1, 2, none⟩ = some (.int .i64 x.st) := b1.cell 2
          obtain ⟨W101, es101⟩ : ∃ W, wc.setCell ⟨p1, 2, none⟩ (.int .i64 1) = W := ⟨_, rfl⟩
          replace b2 := set_far b2 es101 (by omega)
          replace b3 := set_far b3 es101 (by omega)
          replace b1 : Blk W101 p1 32 ({ x with st := 1 } : Th).cs.toArray := set_named b1 es101 rfl
          replace kk := kk.trans (set_below es101 hp1 kk.size)
          have d2 := copyV (V := ({ x with st := 1 } : Th)) (y := ({ x with st := 1 } : Th)) (n1 := x.se.n) (n2 := x.bg.n) (n3 := x.sn.n) ⟨(h.on kk).se, (h.on kk).bg, (h.on kk).sn⟩ rfl rfl rfl (fun _ _ _ => rfl) h1 h2 h3
          go_wp2_with (first | ((with_reducible refine at_load 32 (.tmp 2) ?_); refine wpList_load_row rfl 32 (.tmp 2) rfl p1 rfl 32 (({ x with st := 1 } : Th)).cs.toArray (0, 0) _ b1 Try.underlying32 rfl (sizeT _) ?_))
          refine (d2).mono ?_
          rintro e W102 ⟨A1, c1, A2, c2, A3, c3, rfl, ow, k2⟩
          replace ow := ow.mono kk.size
          clear fr100_1_2 c100_1_2
          replace b1 := b1.on k2
          replace b2 := b2.on k2
          replace b3 := b3.on k2
          replace kk := kk.trans (k2.mono kk.size)
          clear k2
          clear d2
          obtain ⟨W103, es103⟩ : ∃ W, W102.setRow p3 ((({ x with st := 1 } : Th)).put ⟨A1, x.se.n, c1⟩ ⟨A2, x.bg.n, c2⟩ ⟨A3, x.sn.n, c3⟩).cs.toArray = W := ⟨_, rfl⟩
          have bo3 := b3
          replace b1 := row_far b1 es103 (by omega)
          replace b2 := row_far b2 es103 (by omega)
          replace b3 : Blk W103 p3 32 ((({ x with st := 1 } : Th)).put ⟨A1, x.se.n, c1⟩ ⟨A2, x.bg.n, c2⟩ ⟨A3, x.sn.n, c3⟩).cs.toArray := row_named b3 es103
          replace kk := kk.trans (row_below es103 hp3 kk.size)
          replace ow := ow.off bo3 (by decide) (by decide) es103 rfl rfl rfl
          go_wp2_with (((with_reducible refine at_store 32 (.tmp 4) (.tmp 100) ?_); refine wpList_store_row rfl 32 (.tmp 4) (.tmp 100) rfl p3 ((({ x with st := 1 } : Th)).put ⟨A1, x.se.n, c1⟩ ⟨A2, x.bg.n, c2⟩ ⟨A3, x.sn.n, c3⟩).cs.toArray rfl rfl 32 #[.int .i64 0, .int .i64 0, .int .i64 0, .int .i64 0, .int .i64 0, .int .i64 0, .int .i64 0, .int .i64 0, .int .i64 0, .int .i64 0, .int .i64 0, .int .i64 0, .int .i64 0, .int .i64 0, .int .i64 0, .int .i64 0, .int .i64 0, .int .i64 0, .slice none 0 0, .slice none 0 0, .slice none 0 0, .int .i64 0] bo3 (sizeT _) rfl (Th.onea _) ?_; rw [es103]))
          refine bodyPost_ret (res24 _ _ p3 ((({ x with st := 1 } : Th)).put ⟨A1, x.se.n, c1⟩ ⟨A2, x.bg.n, c2⟩ ⟨A3, x.sn.n, c3⟩).cs.toArray (.bool true) rfl rfl b3 (sizeT _)) rfl ?_
          exact ⟨A1, c1, A2, c2, A3, c3, rfl, ⟨ow.se, ow.bg, ow.sn⟩, kk⟩
    by_cases e8 : i.op = 8
    · obtain rfl : jmpT x i true = F := (locT_8 e8).symm.trans HF.out.1
      obtain rfl : true = B := (locB_of e8 (by omega) (by omega)).symm.trans HF.out.2
      have t1 : (i.op == 1) = false := by rw [e8]; rfl
      have t2 : (i.op == 2) = false := by rw [e8]; rfl
      have t3 : (i.op == 3) = false := by rw [e8]; rfl
      have t4 : (i.op == 4) = false := by rw [e8]; rfl
      have t5 : (i.op == 5) = false := by rw [e8]; rfl
      have t6 : (i.op == 6) = false := by rw [e8]; rfl
      have t7 : (i.op == 7) = false := by rw [e8]; rfl
      have t8 : (i.op == 8) = true := by rw [e8]; rfl
      clear HF e1 e2 e3 e4 e5 e6 e7 e8
      have c40_2_0 : wc.cell? ⟨p2, 0, none⟩ = some (.int .i64 i.op) := b2.cell 0
      have c40_2_4 : wc.cell? ⟨p2, 4, none⟩ = some (.int .i64 i.n) := b2.cell 4
      have c40_1_0 : wc.cell? ⟨p1, 0, none⟩ = some (.int .i64 x.pc) := b1.cell 0
      have fr40_1_0 := b1.free 0
      obtain ⟨W41, es41⟩ : ∃ W, wc.setCell ⟨p1, 0, none⟩ (.int .i64 i.n) = W := ⟨_, rfl⟩
      replace b2 := set_far b2 es41 (by omega)
      replace b3 := set_far b3 es41 (by omega)
      replace b4 := set_far b4 es41 (by omega)
      replace b5 := set_far b5 es41 (by omega)
      replace b1 : Blk W41 p1 32 ({ x with pc := i.n } : Th).cs.toArray := set_named b1 es41 rfl
      replace kk := kk.trans (set_below es41 hp1 kk.size)
      have d2 := copyV (V := ({ x with pc := i.n } : Th)) (y := ({ x with pc := i.n } : Th)) (n1 := x.se.n) (n2 := x.bg.n) (n3 := x.sn.n) ⟨(h.on kk).se, (h.on kk).bg, (h.on kk).sn⟩ rfl rfl rfl (fun _ _ _ => rfl) h1 h2 h3
      go_wp2_with (first | ((with_reducible refine at_load 32 (.tmp 2) ?_); refine wpList_load_row rfl 32 (.tmp 2) rfl p1 rfl 32 (({ x with pc := i.n } : Th)).cs.toArray (0, 0) _ b1 Try.underlying32 rfl (sizeT _) ?_))
      refine (d2).mono ?_
      rintro e W42 ⟨A1, c1, A2, c2, A3, c3, rfl, ow, k2⟩
      replace ow := ow.mono kk.size
      clear c40_2_0 c40_2_4 c40_1_0 fr40_1_0
      replace b1 := b1.on k2
      replace b2 := b2.on k2
      replace b3 := b3.on k2
      replace b4 := b4.on k2
      replace b5 := b5.on k2
      replace kk := kk.trans (k2.mono kk.size)
      clear k2
      clear d2
      obtain ⟨W43, es43⟩ : ∃ W, W42.setRow p3 ((({ x with pc := i.n } : Th)).put ⟨A1, x.se.n, c1⟩ ⟨A2, x.bg.n, c2⟩ ⟨A3, x.sn.n, c3⟩).cs.toArray = W := ⟨_, rfl⟩
      have bo3 := b3
      replace b1 := row_far b1 es43 (by omega)
      replace b2 := row_far b2 es43 (by omega)
      replace b4 := row_far b4 es43 (by omega)
      replace b5 := row_far b5 es43 (by omega)
      replace b3 : Blk W43 p3 32 ((({ x with pc := i.n } : Th)).put ⟨A1, x.se.n, c1⟩ ⟨A2, x.bg.n, c2⟩ ⟨A3, x.sn.n, c3⟩).cs.toArray := row_named b3 es43
      replace kk := kk.trans (row_below es43 hp3 kk.size)
      replace ow := ow.off bo3 (by decide) (by decide) es43 rfl rfl rfl
      go_wp2_with (((with_reducible refine at_store 32 (.tmp 4) (.tmp 100) ?_); refine wpList_store_row rfl 32 (.tmp 4) (.tmp 100) rfl p3 ((({ x with pc := i.n } : Th)).put ⟨A1, x.se.n, c1⟩ ⟨A2, x.bg.n, c2⟩ ⟨A3, x.sn.n, c3⟩).cs.toArray rfl rfl 32 #[.int .i64 0, .int .i64 0, .int .i64 0, .int .i64 0, .int .i64 0, .int .i64 0, .int .i64 0, .int .i64 0, .int .i64 0, .int .i64 0, .int .i64 0, .int .i64 0, .int .i64 0, .int .i64 0, .int .i64 0, .int .i64 0, .int .i64 0, .int .i64 0, .slice none 0 0, .slice none 0 0, .slice none 0 0, .int .i64 0] bo3 (sizeT _) rfl (Th.onea _) ?_; rw [es43]))
      refine bodyPost_ret (res24 _ _ p3 ((({ x with pc := i.n } : Th)).put ⟨A1, x.se.n, c1⟩ ⟨A2, x.bg.n, c2⟩ ⟨A3, x.sn.n, c3⟩).cs.toArray (.bool true) rfl rfl b3 (sizeT _)) rfl ?_
      exact ⟨A1, c1, A2, c2, A3, c3, rfl, ⟨ow.se, ow.bg, ow.sn⟩, kk⟩
    by_cases e9 : i.op = 9
    · have HV := Lib.hid ((locT_9 e9).symm.trans HF.out.1)
      obtain rfl : true = B := (locB_of e9 (by omega) (by omega)).symm.trans HF.out.2
      have t1 : (i.op == 1) = false := by rw [e9]; rfl
      have t2 : (i.op == 2) = false := by rw [e9]; rfl
      have t3 : (i.op == 3) = false := by rw [e9]; rfl
      have t4 : (i.op == 4) = false := by rw [e9]; rfl
      have t5 : (i.op == 5) = false := by rw [e9]; rfl
      have t6 : (i.op == 6) = false := by rw [e9]; rfl
      have t7 : (i.op == 7) = false := by rw [e9]; rfl
      have t8 : (i.op == 8) = false := by rw [e9]; rfl
      have t9 : (i.op == 9) = true := by rw [e9]; rfl
      have t10 : (i.op == 10) = false := by rw [e9]; rfl
      clear HF e1 e2 e3 e4 e5 e6 e7 e8 e9
      have c40_2_0 : wc.cell? ⟨p2, 0, none⟩ = some (.int .i64 i.op) := b2.cell 0
      have c40_4_0 : wc.cell? ⟨p4, 0, none⟩ = some (.int .i64 (regI x i.a).n) := b4.cell 0
      cases hq : ((regI x i.a).n == 0) with
      | false =>
        obtain rfl : x = F := by rw [← HV.out]; unfold jmpT; rw [hq]; rfl
        clear HV
        have d2 := copyV (V := x) (y := x) (n1 := x.se.n) (n2 := x.bg.n) (n3 := x.sn.n) (h.on kk) rfl rfl rfl (fun _ _ _ => rfl) h1 h2 h3
        go_wp2_with (first | ((with_reducible refine at_load 32 (.tmp 2) ?_); refine wpList_load_row rfl 32 (.tmp 2) rfl p1 rfl 32 (x).cs.toArray (0, 0) _ b1 Try.underlying32 rfl (sizeT _) ?_))
        refine (d2).mono ?_
        rintro e W41 ⟨A1, c1, A2, c2, A3, c3, rfl, ow, k2⟩
        replace ow := ow.mono kk.size
        clear c40_2_0 c40_4_0
        replace b1 := b1.on k2
        replace b2 := b2.on k2
        replace b3 := b3.on k2
        replace b4 := b4.on k2
        replace b5 := b5.on k2
        replace kk := kk.trans (k2.mono kk.size)
        clear k2
        clear d2
        obtain ⟨W42, es42⟩ : ∃ W, W41.setRow p3 ((x).put ⟨A1, x.se.n, c1⟩ ⟨A2, x.bg.n, c2⟩ ⟨A3, x.sn.n, c3⟩).cs.toArray = W := ⟨_, rfl⟩
        have bo3 := b3
        replace b1 := row_far b1 es42 (by omega)
        replace b2 := row_far b2 es42 (by omega)
        replace b4 := row_far b4 es42 (by omega)
        replace b5 := row_far b5 es42 (by omega)
        replace b3 : Blk W42 p3 32 ((x).put ⟨A1, x.se.n, c1⟩ ⟨A2, x.bg.n, c2⟩ ⟨A3, x.sn.n, c3⟩).cs.toArray := row_named b3 es42
        replace kk := kk.trans (row_below es42 hp3 kk.size)
        replace ow := ow.off bo3 (by decide) (by decide) es42 rfl rfl rfl
        go_wp2_with (((with_reducible refine at_store 32 (.tmp 4) (.tmp 100) ?_); refine wpList_store_row rfl 32 (.tmp 4) (.tmp 100) rfl p3 ((x).put ⟨A1, x.se.n, c1⟩ ⟨A2, x.bg.n, c2⟩ ⟨A3, x.sn.n, c3⟩).cs.toArray rfl rfl 32 #[.int .i64 0, .int .i64 0, .int .i64 0, .int .i64 0, .int .i64 0, .int .i64 0, .int .i64 0, .int .i64 0, .int .i64 0, .int .i64 0, .int .i64 0, .int .i64 0, .int .i64 0, .int .i64 0, .int .i64 0, .int .i64 0, .int .i64 0, .int .i64 0, .slice none 0 0, .slice none 0 0, .slice none 0 0, .int .i64 0] bo3 (sizeT _) rfl (Th.onea _) ?_; rw [es42]))
        refine bodyPost_ret (res24 _ _ p3 ((x).put ⟨A1, x.se.n, c1⟩ ⟨A2, x.bg.n, c2⟩ ⟨A3, x.sn.n, c3⟩).cs.toArray (.bool true) rfl rfl b3 (sizeT _)) rfl ?_
        exact ⟨A1, c1, A2, c2, A3, c3, rfl, ⟨ow.se, ow.bg, ow.sn⟩, kk⟩
      | true =>
        obtain rfl : ({ x with pc := i.n } : Th) = F := by rw [← HV.out]; unfold jmpT; rw [hq]; rfl
        clear HV
        have c100_2_4 : wc.cell? ⟨p2, 4, none⟩ = some (.int .i64 i.n) := b2.cell 4
        have c100_1_0 : wc.cell? ⟨p1, 0, none⟩ = some (.int .i64 x.pc) := b1.cell 0
        have fr100_1_0 := b1.free 0
        obtain ⟨W101, es101⟩ : ∃ W, wc.setCell ⟨p1, 0, none⟩ (.int .i64 i.n) = W := ⟨_, rfl⟩
        replace b2 := set_far b2 es101 (by omega)
        replace b3 := set_far b3 es101 (by omega)
        replace b4 := set_far b4 es101 (by omega)
        replace b5 := set_far b5 es101 (by omega)
        replace b1 : Blk W101 p1 32 ({ x with pc := i.n } : Th).cs.toArray := set_named b1 es101 rfl
        replace kk := kk.trans (set_below es101 hp1 kk.size)
        have d2 := copyV (V := ({ x with pc := i.n } : Th)) (y := ({ x with pc := i.n } : Th)) (n1 := x.se.n) (n2 := x.bg.n) (n3 := x.sn.n) ⟨(h.on kk).se, (h.on kk).bg, (h.on kk).sn⟩ rfl rfl rfl (fun _ _ _ => rfl) h1 h2 h3
        go_wp2_with (first | ((with_reducible refine at_load 32 (.tmp 2) ?_); refine wpList_load_row rfl 32 (.tmp 2) rfl p1 rfl 32 (({ x with pc := i.n } : Th)).cs.toArray (0, 0) _ b1 Try.underlying32 rfl (sizeT _) ?_))
        refine (d2).mono ?_
        rintro e W102 ⟨A1, c1, A2, c2, A3, c3, rfl, ow, k2⟩
        replace ow := ow.mono kk.size
        clear c40_2_0 c40_4_0 c100_2_4 c100_1_0 fr100_1_0
        replace b1 := b1.on k2
        replace b2 := b2.on k2
        replace b3 := b3.on k2
        replace b4 := b4.on k2
        replace b5 := b5.on k2
        replace kk := kk.trans (k2.mono kk.size)
        clear k2
        clear d2
        obtain ⟨W103, es103⟩ : ∃ W, W102.setRow p3 ((({ x with pc := i.n } : Th)).put ⟨A1, x.se.n, c1⟩ ⟨A2, x.bg.n, c2⟩ ⟨A3, x.sn.n, c3⟩).cs.toArray = W := ⟨_, rfl⟩
        have bo3 := b3
        replace b1 := row_far b1 es103 (by omega)
        replace b2 := row_far b2 es103 (by omega)
        replace b4 := row_far b4 es103 (by omega)
        replace b5 := row_far b5 es103 (by omega)
        replace b3 : Blk W103 p3 32 ((({ x with pc := i.n } : Th)).put ⟨A1, x.se.n, c1⟩ ⟨A2, x.bg.n, c2⟩ ⟨A3, x.sn.n, c3⟩).cs.toArray := row_named b3 es103
        replace kk := kk.trans (row_below es103 hp3 kk.size)
        replace ow := ow.off bo3 (by decide) (by decide) es103 rfl rfl rfl
        go_wp2_with (((with_reducible refine at_store 32 (.tmp 4) (.tmp 100) ?_); refine wpList_store_row rfl 32 (.tmp 4) (.tmp 100) rfl p3 ((({ x with pc := i.n } : Th)).put ⟨A1, x.se.n, c1⟩ ⟨A2, x.bg.n, c2⟩ ⟨A3, x.sn.n, c3⟩).cs.toArray rfl rfl 32 #[.int .i64 0, .int .i64 0, .int .i64 0, .int .i64 0, .int .i64 0, .int .i64 0, .int .i64 0, .int .i64 0, .int .i64 0, .int .i64 0, .int .i64 0, .int .i64 0, .int .i64 0, .int .i64 0, .int .i64 0, .int .i64 0, .int .i64 0, .int .i64 0, .slice none 0 0, .slice none 0 0, .slice none 0 0, .int .i64 0] bo3 (sizeT _) rfl (Th.onea _) ?_; rw [es103]))
        refine bodyPost_ret (res24 _ _ p3 ((({ x with pc := i.n } : Th)).put ⟨A1, x.se.n, c1⟩ ⟨A2, x.bg.n, c2⟩ ⟨A3, x.sn.n, c3⟩).cs.toArray (.bool true) rfl rfl b3 (sizeT _)) rfl ?_
        exact ⟨A1, c1, A2, c2, A3, c3, rfl, ⟨ow.se, ow.bg, ow.sn⟩, kk⟩
    by_cases e10 : i.op = 10
    · have HV := Lib.hid ((locT_10 e10).symm.trans HF.out.1)
      obtain rfl : true = B := (locB_of e10 (by omega) (by omega)).symm.trans HF.out.2
      have t1 : (i.op == 1) = false := by rw [e10]; rfl
      have t2 : (i.op == 2) = false := by rw [e10]; rfl
      have t3 : (i.op == 3) = false := by rw [e10]; rfl
      have t4 : (i.op == 4) = false := by rw [e10]; rfl
      have t5 : (i.op == 5) = false := by rw [e10]; rfl
      have t6 : (i.op == 6) = false := by rw [e10]; rfl
      have t7 : (i.op == 7) = false := by rw [e10]; rfl
      have t8 : (i.op == 8) = false := by rw [e10]; rfl
      have t9 : (i.op == 9) = false := by rw [e10]; rfl
      have t10 : (i.op == 10) = true := by rw [e10]; rfl
      clear HF e1 e2 e3 e4 e5 e6 e7 e8 e9 e10
      have c40_2_0 : wc.cell? ⟨p2, 0, none⟩ = some (.int .i64 i.op) := b2.cell 0
      have c40_4_0 : wc.cell? ⟨p4, 0, none⟩ = some (.int .i64 (regI x i.a).n) := b4.cell 0
      have c40_5_0 : wc.cell? ⟨p5, 0, none⟩ = some (.int .i64 (regI x i.b).n) := b5.cell 0
      cases hq : ((regI x i.a).n == (regI x i.b).n) with
      | false =>
        obtain rfl : x = F := by rw [← HV.out]; unfold jmpT; rw [hq]; rfl
        clear HV
        have d2 := copyV (V := x) (y := x) (n1 := x.se.n) (n2 := x.bg.n) (n3 := x.sn.n) (h.on kk) rfl rfl rfl (fun _ _ _ => rfl) h1 h2 h3
        go_wp2_with (first | ((with_reducible refine at_load 32 (.tmp 2) ?_); refine wpList_load_row rfl 32 (.tmp 2) rfl p1 rfl 32 (x).cs.toArray (0, 0) _ b1 Try.underlying32 rfl (sizeT _) ?_))
        refine (d2).mono ?_
        rintro e W41 ⟨A1, c1, A2, c2, A3, c3, rfl, ow, k2⟩
        replace ow := ow.mono kk.size
        clear c40_2_0 c40_4_0 c40_5_0
        replace b1 := b1.on k2
        replace b2 := b2.on k2
        replace b3 := b3.on k2
        replace b4 := b4.on k2
        replace b5 := b5.on k2
        replace kk := kk.trans (k2.mono kk.size)
        clear k2
        clear d2
        obtain ⟨W42, es42⟩ : ∃ W, W41.setRow p3 ((x).put ⟨A1, x.se.n, c1⟩ ⟨A2, x.bg.n, c2⟩ ⟨A3, x.sn.n, c3⟩).cs.toArray = W := ⟨_, rfl⟩
        have bo3 := b3
        replace b1 := row_far b1 es42 (by omega)
        replace b2 := row_far b2 es42 (by omega)
        replace b4 := row_far b4 es42 (by omega)
        replace b5 := row_far b5 es42 (by omega)
        replace b3 : Blk W42 p3 32 ((x).put ⟨A1, x.se.n, c1⟩ ⟨A2, x.bg.n, c2⟩ ⟨A3, x.sn.n, c3⟩).cs.toArray := row_named b3 es42
        replace kk := kk.trans (row_below es42 hp3 kk.size)
        replace ow := ow.off bo3 (by decide) (by decide) es42 rfl rfl rfl
        go_wp2_with (((with_reducible refine at_store 32 (.tmp 4) (.tmp 100) ?_); refine wpList_store_row rfl 32 (.tmp 4) (.tmp 100) rfl p3 ((x).put ⟨A1, x.se.n, c1⟩ ⟨A2, x.bg.n, c2⟩ ⟨A3, x.sn.n, c3⟩).cs.toArray rfl rfl 32 #[.int .i64 0, .int .i64 0, .int .i64 0, .int .i64 0, .int .i64 0, .int .i64 0, .int .i64 0, .int .i64 0, .int .i64 0, .int .i64 0, .int .i64 0, .int .i64 0, .int .i64 0, .int .i64 0, .int .i64 0, .int .i64 0, .int .i64 0, .int .i64 0, .slice none 0 0, .slice none 0 0, .slice none 0 0, .int .i64 0] bo3 (sizeT _) rfl (Th.onea _) ?_; rw [es42]))
        refine bodyPost_ret (res24 _ _ p3 ((x).put ⟨A1, x.se.n, c1⟩ ⟨A2, x.bg.n, c2⟩ ⟨A3, x.sn.n, c3⟩).cs.toArray (.bool true) rfl rfl b3 (sizeT _)) rfl ?_
        exact ⟨A1, c1, A2, c2, A3, c3, rfl, ⟨ow.se, ow.bg, ow.sn⟩, kk⟩
      | true =>
        obtain rfl : ({ x with pc := i.n } : Th) = F := by rw [← HV.out]; unfold jmpT; rw [hq]; rfl
        clear HV
        have c100_2_4 : wc.cell? ⟨p2, 4, none⟩ = some (.int .i64 i.n) := b2.cell 4
        have c100_1_0 : wc.cell? ⟨p1, 0, none⟩ = some (.int .i64 x.pc) := b1.cell 0
        have fr100_1_0 := b1.free 0
        obtain ⟨W101, es101⟩ : ∃ W, wc.setCell ⟨p1, 0, none⟩ (.int .i64 i.n) = W := ⟨_, rfl⟩
        replace b2 := set_far b2 es101 (by omega)
        replace b3 := set_far b3 es101 (by omega)
        replace b4 := set_far b4 es101 (by omega)
        replace b5 := set_far b5 es101 (by omega)
        replace b1 : Blk W101 p1 32 ({ x with pc := i.n } : Th).cs.toArray := set_named b1 es101 rfl
        replace kk := kk.trans (set_below es101 hp1 kk.size)
        have d2 := copyV (V := ({ x with pc := i.n } : Th)) (y := ({ x with pc := i.n } : Th)) (n1 := x.se.n) (n2 := x.bg.n) (n3 := x.sn.n) ⟨(h.on kk).se, (h.on kk).bg, (h.on kk).sn⟩ rfl rfl rfl (fun _ _ _ => rfl) h1 h2 h3
        go_wp2_with (first | ((with_reducible refine at_load 32 (.tmp 2) ?_); refine wpList_load_row rfl 32 (.tmp 2) rfl p1 rfl 32 (({ x with pc := i.n } : Th)).cs.toArray (0, 0) _ b1 Try.underlying32 rfl (sizeT _) ?_))
        refine (d2).mono ?_
        rintro e W102 ⟨A1, c1, A2, c2, A3, c3, rfl, ow, k2⟩
        replace ow := ow.mono kk.size
        clear c40_2_0 c40_4_0 c40_5_0 c100_2_4 c100_1_0 fr100_1_0
        replace b1 := b1.on k2
        replace b2 := b2.on k2
        replace b3 := b3.on k2
        replace b4 := b4.on k2
        replace b5 := b5.on k2
        replace kk := kk.trans (k2.mono kk.size)
        clear k2
        clear d2
        obtain ⟨W103, es103⟩ : ∃ W, W102.setRow p3 ((({ x with pc := i.n } : Th)).put ⟨A1, x.se.n, c1⟩ ⟨A2, x.bg.n, c2⟩ ⟨A3, x.sn.n, c3⟩).cs.toArray = W := ⟨_, rfl⟩
        have bo3 := b3
        replace b1 := row_far b1 es103 (by omega)
        replace b2 := row_far b2 es103 (by omega)
        replace b4 := row_far b4 es103 (by omega)
        replace b5 := row_far b5 es103 (by omega)
        replace b3 : Blk W103 p3 32 ((({ x with pc := i.n } : Th)).put ⟨A1, x.se.n, c1⟩ ⟨A2, x.bg.n, c2⟩ ⟨A3, x.sn.n, c3⟩).cs.toArray := row_named b3 es103
        replace kk := kk.trans (row_below es103 hp3 kk.size)
        replace ow := ow.off bo3 (by decide) (by decide) es103 rfl rfl rfl
        go_wp2_with (((with_reducible refine at_store 32 (.tmp 4) (.tmp 100) ?_); refine wpList_store_row rfl 32 (.tmp 4) (.tmp 100) rfl p3 ((({ x with pc := i.n } : Th)).put ⟨A1, x.se.n, c1⟩ ⟨A2, x.bg.n, c2⟩ ⟨A3, x.sn.n, c3⟩).cs.toArray rfl rfl 32 #[.int .i64 0, .int .i64 0, .int .i64 0, .int .i64 0, .int .i64 0, .int .i64 0, .int .i64 0, .int .i64 0, .int .i64 0, .int .i64 0, .int .i64 0, .int .i64 0, .int .i64 0, .int .i64 0, .int .i64 0, .int .i64 0, .int .i64 0, .int .i64 0, .slice none 0 0, .slice none 0 0, .slice none 0 0, .int .i64 0] bo3 (sizeT _) rfl (Th.onea _) ?_; rw [es103]))
        refine bodyPost_ret (res24 _ _ p3 ((({ x with pc := i.n } : Th)).put ⟨A1, x.se.n, c1⟩ ⟨A2, x.bg.n, c2⟩ ⟨A3, x.sn.n, c3⟩).cs.toArray (.bool true) rfl rfl b3 (sizeT _)) rfl ?_
        exact ⟨A1, c1, A2, c2, A3, c3, rfl, ⟨ow.se, ow.bg, ow.sn⟩, kk⟩
    have hall : ∀ k : Int, 1 ≤ k → k ≤ 10 → i.op ≠ k := fun k a b e => by omega
    obtain rfl : x = F := (locT_0 hall).symm.trans HF.out.1
    obtain rfl : false = B := (show locB i = false by unfold locB inB; simp only [Bool.and_eq_false_iff, decide_eq_false_iff_not]; have := hall i.op; omega).symm.trans HF.out.2
    have t1 : (i.op == 1) = false := beq_eq_false_iff_ne.2 (by omega)
    have t2 : (i.op == 2) = false := beq_eq_false_iff_ne.2 (by omega)
    have t3 : (i.op == 3) = false := beq_eq_false_iff_ne.2 (by omega)
    have t4 : (i.op == 4) = false := beq_eq_false_iff_ne.2 (by omega)
    have t5 : (i.op == 5) = false := beq_eq_false_iff_ne.2 (by omega)
    have t6 : (i.op == 6) = false := beq_eq_false_iff_ne.2 (by omega)
    have t7 : (i.op == 7) = false := beq_eq_false_iff_ne.2 (by omega)
    have t8 : (i.op == 8) = false := beq_eq_false_iff_ne.2 (by omega)
    have t9 : (i.op == 9) = false := beq_eq_false_iff_ne.2 (by omega)
    have t10 : (i.op == 10) = false := beq_eq_false_iff_ne.2 (by omega)
    clear HF hall e1 e2 e3 e4 e5 e6 e7 e8 e9 e10
    have c40_2_0 : wc.cell? ⟨p2, 0, none⟩ = some (.int .i64 i.op) := b2.cell 0
    have d2 := copyV (V := x) (y := x) (n1 := x.se.n) (n2 := x.bg.n) (n3 := x.sn.n) (h.on kk) rfl rfl rfl (fun _ _ _ => rfl) h1 h2 h3
    go_wp2_with (first | ((with_reducible refine at_load 32 (.tmp 2) ?_); refine wpList_load_row rfl 32 (.tmp 2) rfl p1 rfl 32 (x).cs.toArray (0, 0) _ b1 Try.underlying32 rfl (sizeT _) ?_))
    refine (d2).mono ?_
    rintro e W41 ⟨A1, c1, A2, c2, A3, c3, rfl, ow, k2⟩
    replace ow := ow.mono kk.size
    clear c40_2_0
    replace b1 := b1.on k2
    replace b2 := b2.on k2
    replace b3 := b3.on k2
    replace b4 := b4.on k2
    replace b5 := b5.on k2
    replace kk := kk.trans (k2.mono kk.size)
    clear k2
    clear d2
    obtain ⟨W42, es42⟩ : ∃ W, W41.setRow p3 ((x).put ⟨A1, x.se.n, c1⟩ ⟨A2, x.bg.n, c2⟩ ⟨A3, x.sn.n, c3⟩).cs.toArray = W := ⟨_, rfl⟩
    have bo3 := b3
    replace b1 := row_far b1 es42 (by omega)
    replace b2 := row_far b2 es42 (by omega)
    replace b4 := row_far b4 es42 (by omega)
    replace b5 := row_far b5 es42 (by omega)
    replace b3 : Blk W42 p3 32 ((x).put ⟨A1, x.se.n, c1⟩ ⟨A2, x.bg.n, c2⟩ ⟨A3, x.sn.n, c3⟩).cs.toArray := row_named b3 es42
    replace kk := kk.trans (row_below es42 hp3 kk.size)
    replace ow := ow.off bo3 (by decide) (by decide) es42 rfl rfl rfl
    go_wp2_with (((with_reducible refine at_store 32 (.tmp 4) (.tmp 21) ?_); refine wpList_store_row rfl 32 (.tmp 4) (.tmp 21) rfl p3 ((x).put ⟨A1, x.se.n, c1⟩ ⟨A2, x.bg.n, c2⟩ ⟨A3, x.sn.n, c3⟩).cs.toArray rfl rfl 32 #[.int .i64 0, .int .i64 0, .int .i64 0, .int .i64 0, .int .i64 0, .int .i64 0, .int .i64 0, .int .i64 0, .int .i64 0, .int .i64 0, .int .i64 0, .int .i64 0, .int .i64 0, .int .i64 0, .int .i64 0, .int .i64 0, .int .i64 0, .int .i64 0, .slice none 0 0, .slice none 0 0, .slice none 0 0, .int .i64 0] bo3 (sizeT _) rfl (Th.onea _) ?_; rw [es42]))
    refine bodyPost_ret (res24 _ _ p3 ((x).put ⟨A1, x.se.n, c1⟩ ⟨A2, x.bg.n, c2⟩ ⟨A3, x.sn.n, c3⟩).cs.toArray (.bool false) rfl rfl b3 (sizeT _)) rfl ?_
    exact ⟨A1, c1, A2, c2, A3, c3, rfl, ⟨ow.se, ow.bg, ow.sn⟩, kk⟩
end Go.Proofs.Ytcajoekmigkhjaa
