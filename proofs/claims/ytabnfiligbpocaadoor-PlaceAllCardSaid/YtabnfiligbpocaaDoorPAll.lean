/- The law PlaceAll returns true, for every program and place. Conditions: the library's table of powers of ten lies as it is laid. -/
import Derived.Test.YtabnfiligbpocaaDoorPure
import Derived.Test.YtabnfiligbpocaaDoorAlive
import Derived.Test.YtabnfiligbpocaaDoorRIs
namespace Go.Proofs.YtabnfiligbpocaaDoor
open Go.RowKit Go.ChangeShapes Go.WideShapes

theorem near2_any (n hi : Int) (w : World) : Calls Tryd.prog 23 #[.int .i64 n, .int .i64 0, .int .i64 hi] w fun e w' => e = .returned (.int .i64 (cl n hi)) ∧ w' = w := (near_any n hi w).mono fun _ _ h => ⟨h.1, h.2.symm⟩
set_option maxRecDepth 100000 in
set_option maxHeartbeats 4000000 in
theorem sizes_any (A : Option Addr) (n cap : Nat) (q : Pg) (hq : q.Ok) (hn : (n : Int) = manyP q) (w : World) : Calls Tryd.prog 15 #[.slice A n cap, .agg #[.int .i64 q.r, .int .i64 q.c, .int .i64 q.s, .slice q.A q.n q.cap]] w fun e w' => e = .returned (.bool true) ∧ Below w.heap.size w w' := by
  obtain ⟨r, c, s, B, m, cp⟩ := q
  have hm := len_i64 hq.room hq.most
  have h1 := cl_of r 4 (by omega)
  have h2 := cl_of c 6 (by omega)
  have h3 := cl_of (m : Int) 4 (by omega)
  have h4 := cl_of s 2 (by omega)
  unfold manyP at hn
  simp only at hn hm
  obtain ⟨R, eR⟩ : ∃ R, cl r 4 = R := ⟨_, rfl⟩
  obtain ⟨C, eC⟩ : ∃ R, cl c 6 = R := ⟨_, rfl⟩
  obtain ⟨T, eT⟩ : ∃ R, cl (m : Int) 4 = R := ⟨_, rfl⟩
  obtain ⟨S, eS⟩ : ∃ R, cl s 2 = R := ⟨_, rfl⟩
  rw [eR] at h1 hn
  rw [eC] at h2 hn
  rw [eT] at h3 hn
  rw [eS] at h4 hn
  have h5 : 0 ≤ T * S ∧ T * S ≤ 8 := by
    have hTc : T = 0 ∨ T = 1 ∨ T = 2 ∨ T = 3 ∨ T = 4 := by omega
    rcases hTc with e | e | e | e | e <;> rw [e] <;> omega
  obtain ⟨TS, eTS⟩ : ∃ q, T * S = q := ⟨_, rfl⟩
  rw [eTS] at hn h5
  obtain ⟨W0, eW0⟩ : ∃ W, W = w.alloc (.cells #[.int .i64 r, .int .i64 c, .int .i64 s, .slice B m cp] 26) := ⟨_, rfl⟩
  have hb0 : Below w.heap.size w W0 := by rw [eW0]; exact (Below.refl _ w).alloc (Nat.le_refl _) _
  have hx : Blk W0 w.heap.size 26 #[.int .i64 r, .int .i64 c, .int .i64 s, .slice B m cp] := by rw [eW0]; exact heap_alloc_new w _
  have c0 : W0.cell? ⟨w.heap.size, 0, none⟩ = some (.int .i64 r) := hx.cell 0
  have c1 : W0.cell? ⟨w.heap.size, 1, none⟩ = some (.int .i64 c) := hx.cell 1
  have c2 : W0.cell? ⟨w.heap.size, 2, none⟩ = some (.int .i64 s) := hx.cell 2
  have c3 : W0.cell? ⟨w.heap.size, 3, none⟩ = some (.slice B m cp) := hx.cell 3
  obtain ⟨L, eL⟩ : ∃ L : Int, (n : Int) = L := ⟨_, rfl⟩
  rw [eL] at hn
  have hq0 : ((n : Int) == R + 3 * C + 2 + TS + 2 * T) = true := by rw [eL, hn]; simp
  have hq1 : (L == R + 3 * C + 2 + TS + 2 * T) = true := by rw [hn]; simp
  clear hx hq
  have HN := Lib.hid hn
  clear hn
  show Calls Tryd.prog 15 #[.slice A n cap, .agg #[.int .i64 r, .int .i64 c, .int .i64 s, .slice B m cp]] w _
  go_enter Tryd.func15, Tryd.ntmps15
  go_wp2_with fail
  rw [← eW0]
  clear eW0
  go_quiet (first | (go_at_call 23; exact Calls.quiet_of_same (near2_any _ _ _)))
  go_wp2_with fail
  refine (near_any (m : Int) 4 _).mono ?_
  rintro e w' ⟨rfl, rfl⟩
  go_wp2
  go_ret
  exact ⟨rfl, below_dn hb0 _⟩
set_option maxRecDepth 100000 in
set_option maxHeartbeats 4000000 in
theorem pall_any (p : Pg) (hp : p.Ok) (x : Pl) (w : World) (hL : Laid w) : Calls Tryd.prog 4 #[.agg p.cs.toArray, .agg x.cs.toArray] w fun e w' => e = .returned (.bool true) ∧ Below w.heap.size w w' := by
  obtain ⟨z, ez⟩ : ∃ z, z = w.heap.size := ⟨_, rfl⟩
  obtain ⟨W0, eW0⟩ : ∃ W, W = (w.alloc (.cells p.cs.toArray 26)).alloc (.cells x.cs.toArray 23) := ⟨_, rfl⟩
  have hb0 : Below w.heap.size w W0 := by rw [eW0]; exact ((Below.refl _ w).alloc (Nat.le_refl _) _).alloc (by simp) _
  have hp0 : Blk W0 z 26 p.cs.toArray := by rw [eW0, ez]; exact Blk.on (heap_alloc_new w _) ((Below.refl _ _).alloc (Nat.le_refl _) _)
  have hx0 : Blk W0 (z + 1) 23 x.cs.toArray := by rw [eW0, ez]; exact blk_new _ _ 23 _ (by simp)
  have hq := fewP_ok hp
  have h8 : ∀ W, Calls Tryd.prog 8 #[.agg #[.int .i64 p.r, .int .i64 p.c, .int .i64 p.s, .slice p.A p.n p.cap]] W fun e w' => e = .returned (.agg #[.int .i64 (fewP p).r, .int .i64 (fewP p).c, .int .i64 (fewP p).s, .slice (fewP p).A (fewP p).n (fewP p).cap]) ∧ Below W.heap.size W w' := fun W => few_any p hp W
  generalize fewP p = q at h8 hq
  have h12 : ∀ W, Calls Tryd.prog 12 #[.agg #[.int .i64 q.r, .int .i64 q.c, .int .i64 q.s, .slice q.A q.n q.cap]] W fun e w' => ∃ A cap, e = .returned (.slice A (allP q).length cap) ∧ w'.ownsRow W.heap.size 23 3 (.slice A (allP q).length cap) (allP q).length (flatP (allP q)) ∧ Below W.heap.size W w' := fun W => (all_any q hq W).mono fun e w' ⟨v, h1, h2, h3⟩ => by
    rcases id h2.2 with ⟨rfl, h0⟩ | ⟨g, cap, cur, rfl, _⟩
    · rw [h0] at h2 ⊢
      exact ⟨none, 0, h1, h2, h3⟩
    · exact ⟨_, cap, h1, h2, h3⟩
  go_enter Tryd.func4, Tryd.ntmps4
  go_wp2_with fail
  rw [← eW0, ← ez]
  clear eW0
  have hzw : w.heap.size = z := ez.symm
  have HZ := Lib.hid hzw
  clear ez hzw
  refine (alive_any W0 (hL.on hb0)).mono ?_
  rintro e w1 ⟨rfl, hb1⟩
  have hB1 := hb0.trans (hb1.mono hb0.size)
  have hx1 := hx0.on hb1
  have hp1 := hp0.on hb1
  have d0 : w1.cell? ⟨z, 0, none⟩ = some (.int .i64 p.r) := hp1.cell 0
  have d1 : w1.cell? ⟨z, 1, none⟩ = some (.int .i64 p.c) := hp1.cell 1
  have d2 : w1.cell? ⟨z, 2, none⟩ = some (.int .i64 p.s) := hp1.cell 2
  have d3 : w1.cell? ⟨z, 3, none⟩ = some (.slice p.A p.n p.cap) := hp1.cell 3
  go_wp2_with fail
  refine (h8 w1).mono ?_
  rintro e w2 ⟨rfl, hb2⟩
  have hB2 := hB1.trans (hb2.mono hB1.size)
  have hx2 := hx1.on hb2
  have hp2 : Blk w2 z 26 #[.int .i64 p.r, .int .i64 p.c, .int .i64 p.s, .slice p.A p.n p.cap] := hp1.on hb2
  obtain ⟨V, eV⟩ : ∃ V, V = w2.setRow z #[.int .i64 q.r, .int .i64 q.c, .int .i64 q.s, .slice q.A q.n q.cap] := ⟨_, rfl⟩
  have hBV : Below w.heap.size w V := by rw [eV]; exact below_setRow hB2 (by have := HZ.out; omega) _
  have hxV : Blk V (z + 1) 23 x.cs.toArray := by rw [eV]; exact (setRow_other _ _ _ _ (by omega)).trans hx2
  have hpV : Blk V z 26 q.cs.toArray := by rw [eV]; exact setRow_heap _ _ _ _ _ _ hp2
  have v0 : (w2.setRow z #[.int .i64 q.r, .int .i64 q.c, .int .i64 q.s, .slice q.A q.n q.cap]).cell? ⟨z, 0, none⟩ = some (.int .i64 q.r) := by rw [← eV]; exact hpV.cell 0
  have v1 : (w2.setRow z #[.int .i64 q.r, .int .i64 q.c, .int .i64 q.s, .slice q.A q.n q.cap]).cell? ⟨z, 1, none⟩ = some (.int .i64 q.c) := by rw [← eV]; exact hpV.cell 1
  have v2 : (w2.setRow z #[.int .i64 q.r, .int .i64 q.c, .int .i64 q.s, .slice q.A q.n q.cap]).cell? ⟨z, 2, none⟩ = some (.int .i64 q.s) := by rw [← eV]; exact hpV.cell 2
  have v3 : (w2.setRow z #[.int .i64 q.r, .int .i64 q.c, .int .i64 q.s, .slice q.A q.n q.cap]).cell? ⟨z, 3, none⟩ = some (.slice q.A q.n q.cap) := by rw [← eV]; exact hpV.cell 3
  clear d0 d1 d2 d3
  go_wp2_with (refine wpList_store_row rfl 26 (.tmp 2) (.tmp 10) rfl z #[.int .i64 q.r, .int .i64 q.c, .int .i64 q.s, .slice q.A q.n q.cap] rfl rfl 26 #[.int .i64 p.r, .int .i64 p.c, .int .i64 p.s, .slice p.A p.n p.cap] hp2 size26 rfl (by simp [Value.oneCell']) ?_)
  rw [← eV]
  refine (h12 V).mono ?_
  rintro e U ⟨A, cap, rfl, hown, hbU⟩
  have hpU := hpV.on hbU
  have hxU := hxV.on hbU
  have hBU := hBV.trans (hbU.mono hBV.size)
  have hmany := allP_many q
  clear eV hx0 hp0 hx1 hp1 hx2 hp2 hb0 hb1 hb2 hB1 hB2 h8 h12 v0 v1 v2 v3 hxV hpV hbU hBV
  obtain ⟨c1, c2, _⟩ := own_cap (own_low hown)
  have hm := len_i64 c1 c2
  have hmem : ∀ u, u ∈ allP q → isP u q = true := fun u => mem_allP.1
  have hris : ∀ m a b, (allP q)[m]? = some a → (allP q)[m + 1]? = some b → lessP a b = true := fun m a b => rises_at
  have hiff : decide (x ∈ allP q) = isP x q := by rw [Bool.eq_iff_iff, decide_eq_true_eq]; exact mem_allP
  have hlen : (allP q).length = (allP q).length := rfl
  generalize hLQ : allP q = l at *
  obtain ⟨n, en⟩ : ∃ n, n = l.length := ⟨_, rfl⟩
  rw [← en] at hown hm hmany c1 ⊢
  have HN := Lib.hid (And.intro en (And.intro hmem (And.intro hris (And.intro hiff hmany))))
  clear hmem hris hiff hmany en hlen c1 c2 hLQ
  go_wp2_with fail
  go_loopw [6] (fun v wr => ∃ k : Nat, k ≤ n ∧ v = .int .i64 k ∧ Below U.heap.size U wr) (fun v _ => n - (intOf v).toNat)
  case atStart => exact ⟨0, Nat.zero_le _, rfl, Below.refl _ _⟩
  case round =>
    obtain ⟨k, hk, rfl, hb⟩ := hrel
    have hpw := hpU.on hb
    have hxw := hxU.on hb
    have how := ownB_below' hown hb
    have HB := Lib.hid hb
    have k0 : Below wr.heap.size wr wr.drew := (Below.refl _ wr).drew
    have tS : ∀ W, Below wr.heap.size wr W → W.cell? ⟨z, 0, none⟩ = some (.int .i64 q.r) ∧ W.cell? ⟨z, 1, none⟩ = some (.int .i64 q.c) ∧ W.cell? ⟨z, 2, none⟩ = some (.int .i64 q.s) ∧ W.cell? ⟨z, 3, none⟩ = some (.slice q.A q.n q.cap) :=
      fun W hW => ⟨(hpw.on hW).cell 0, (hpw.on hW).cell 1, (hpw.on hW).cell 2, (hpw.on hW).cell 3⟩
    by_cases hlt : k < n
    · have t0 : decide ((k : Int) < (n : Int)) = true := decide_eq_true (by omega)
      have j0 : (0 : Int) ≤ (k : Int) := by omega
      have j1 : (k : Int) < (n : Int) := by omega
      obtain ⟨en, hmem, hris, hz1, hz2⟩ := HN.out
      clear hz1 hz2
      obtain ⟨y, hy⟩ : ∃ y, l[k]? = some y := ⟨_, List.getElem?_eq_getElem (by omega)⟩
      have hyq := hmem y (List.mem_of_getElem? hy)
      have h10 : ∀ W, Calls Tryd.prog 10 #[.agg #[.int .i64 y.k, .int .i64 y.i, .int .i64 y.j], .agg #[.int .i64 q.r, .int .i64 q.c, .int .i64 q.s, .slice q.A q.n q.cap]] W fun e w' => e = .returned (.bool true) ∧ Below W.heap.size W w' := fun W => by rw [← hyq]; exact ris_any y q hq W
      clear hb hpw hxw hpU hxU hown hmem
      by_cases hk0 : k = 0
      · subst hk0
        obtain ⟨g, rfl, _⟩ := pl_at how hy
        have hR : ∀ W, Below wr.heap.size wr W → W.rangeAt g (0 * 3) y.cs := fun W hW => by
          obtain ⟨g', e, hr⟩ := pl_at (ownB_below' how hW) hy
          injection e with e
          injection e with e
          subst e
          exact hr
        have t1 : decide ((0 : Int) < ((0 : Nat) : Int)) = false := rfl
        have HY := Lib.hid (And.intro hy (And.intro hyq hris))
        clear hy hyq hris how en
        go_wp2_with fail
        refine wp_region_noPanic ?_
        refine wp_region_held_drew (S := (fun W => Below wr.heap.size wr W)) (by kernel_rfl) k0 (fun hHeld => ?_)
        refine wpAnyH_take (i := 0) (oi := ⟨some 19, _, _, _, _, _⟩) (v := ?_) rfl (by kernel_rfl) (by kernel_rfl) (by kernel_rfl) (fun _ _ _ h => h) (Or.inl ⟨by rfl, ?_⟩) (by assumption) ?_
        rotate_left 1
        · (intro W hSw; obtain ⟨f0, f1, f2, f3⟩ := tS W hSw; go_simp <;> with_reducible rfl)
        try simp only [Act.put, List.setIfInBounds_toArray, List.set_cons_zero, List.set_cons_succ]
        refine wpAnyH_take (i := 1) (oi := ⟨some 20, _, _, _, _, _⟩) (v := ?_) rfl (by kernel_rfl) (by kernel_rfl) (by kernel_rfl) (fun _ _ _ h => h) (Or.inl ⟨by rfl, ?_⟩) (by assumption) ?_
        rotate_left 1
        · (intro W hSw; obtain ⟨f0, f1, f2, f3⟩ := tS W hSw; go_simp <;> with_reducible rfl)
        try simp only [Act.put, List.setIfInBounds_toArray, List.set_cons_zero, List.set_cons_succ]
        refine wpAnyH_take (i := 2) (oi := ⟨some 21, _, _, _, _, _⟩) (v := ?_) rfl (by kernel_rfl) (by kernel_rfl) (by kernel_rfl) (fun _ _ _ h => h) (Or.inl ⟨by rfl, ?_⟩) (by assumption) ?_
        rotate_left 1
        · (intro W hSw; obtain ⟨f0, f1, f2, f3⟩ := tS W hSw; go_simp <;> with_reducible rfl)
        try simp only [Act.put, List.setIfInBounds_toArray, List.set_cons_zero, List.set_cons_succ]
        refine wpAnyH_take (i := 3) (oi := ⟨some 22, _, _, _, _, _⟩) (v := .agg (List.toArray (y.cs))) rfl (by kernel_rfl) (by kernel_rfl) (by kernel_rfl) (fun _ _ _ h => h) (yieldsIf_load_mid (by rfl) 23 (.tmp 21) rfl g (0 * 3) rfl (y.cs) _ (fun W hW => hR W hW) Tryd.underlying23 rfl (load23 y)) (by assumption) ?_
        try simp only [Act.put, List.setIfInBounds_toArray, List.set_cons_zero, List.set_cons_succ]
        refine wpAnyH_take (i := 4) (oi := ⟨some 23, _, _, _, _, _⟩) (v := ?_) rfl (by kernel_rfl) (by kernel_rfl) (by kernel_rfl) (fun _ _ _ h => h) (Or.inl ⟨by rfl, ?_⟩) (by assumption) ?_
        rotate_left 1
        · (intro W hSw; obtain ⟨f0, f1, f2, f3⟩ := tS W hSw; go_simp <;> with_reducible rfl)
        try simp only [Act.put, List.setIfInBounds_toArray, List.set_cons_zero, List.set_cons_succ]
        refine wpAnyH_ready (rs := [5]) (by kernel_rfl) (by simp) ?_
        refine AllReadyH.cons rfl (fun K hK => ?_) AllReadyH.nil
        go_simp
        refine (h10 _).mono ?_
        rintro e w11 ⟨rfl, hb11⟩
        have k1 := k0.trans (hb11.mono k0.size)
        have hKeep := k1
        refine hK.out _ _ ?_ (fun hHeld1 => ?_)
        · exact hKeep
        clear hHeld hK K hKeep
        try simp only [Act.put, List.setIfInBounds_toArray, List.set_cons_zero, List.set_cons_succ]
        refine wpAnyH_take (i := 6) (oi := ⟨some 25, _, _, _, _, _⟩) (v := ?_) rfl (by kernel_rfl) (by kernel_rfl) (by kernel_rfl) (fun _ _ _ h => h) (Or.inl ⟨by rfl, ?_⟩) (by assumption) ?_
        rotate_left 1
        · (intro W hSw; obtain ⟨f0, f1, f2, f3⟩ := tS W hSw; go_simp <;> with_reducible rfl)
        try simp only [Act.put, List.setIfInBounds_toArray, List.set_cons_zero, List.set_cons_succ]
        refine wpAnyH_take (i := 7) (oi := ⟨some 26, _, _, _, _, _⟩) (v := ?_) rfl (by kernel_rfl) (by kernel_rfl) (by kernel_rfl) (fun _ _ _ h => h) (Or.inl ⟨by rfl, ?_⟩) (by assumption) ?_
        rotate_left 1
        · (intro W hSw; obtain ⟨f0, f1, f2, f3⟩ := tS W hSw; go_simp <;> with_reducible rfl)
        try simp only [Act.put, List.setIfInBounds_toArray, List.set_cons_zero, List.set_cons_succ]
        refine wpAnyH_take (i := 8) (oi := ⟨some 27, _, _, _, _, _⟩) (v := ?_) rfl (by kernel_rfl) (by kernel_rfl) (by kernel_rfl) (fun _ _ _ h => h) (Or.inl ⟨by rfl, ?_⟩) (by assumption) ?_
        rotate_left 1
        · (intro W hSw; obtain ⟨f0, f1, f2, f3⟩ := tS W hSw; go_simp <;> with_reducible rfl)
        try simp only [Act.put, List.setIfInBounds_toArray, List.set_cons_zero, List.set_cons_succ]
        refine wpAnyH_take (i := 9) (oi := ⟨some 28, _, _, _, _, _⟩) (v := ?_) rfl (by kernel_rfl) (by kernel_rfl) (by kernel_rfl) (fun _ _ _ h => h) (Or.inl ⟨by rfl, ?_⟩) (by assumption) ?_
        rotate_left 1
        · (intro W hSw; obtain ⟨f0, f1, f2, f3⟩ := tS W hSw; go_simp <;> with_reducible rfl)
        try simp only [Act.put, List.setIfInBounds_toArray, List.set_cons_zero, List.set_cons_succ]
        refine wpAnyH_take (i := 10) (oi := ⟨some 29, _, _, _, _, _⟩) (v := ?_) rfl (by kernel_rfl) (by kernel_rfl) (by kernel_rfl) (fun _ _ _ h => h) (Or.inl ⟨by rfl, ?_⟩) (by assumption) ?_
        rotate_left 1
        · (intro W hSw; obtain ⟨f0, f1, f2, f3⟩ := tS W hSw; go_simp <;> with_reducible rfl)
        try simp only [Act.put, List.setIfInBounds_toArray, List.set_cons_zero, List.set_cons_succ]
        refine wpAnyH_take (i := 11) (oi := ⟨some 30, _, _, _, _, _⟩) (v := undef) rfl (by kernel_rfl) (by kernel_rfl) (by kernel_rfl) (fun _ _ _ h => h) (Or.inr ⟨by rfl, rfl⟩) (by assumption) ?_
        try simp only [Act.put, List.setIfInBounds_toArray, List.set_cons_zero, List.set_cons_succ]
        refine wpAnyH_take (i := 12) (oi := ⟨some 31, _, _, _, _, _⟩) (v := undef) rfl (by kernel_rfl) (by kernel_rfl) (by kernel_rfl) (fun _ _ _ h => h) (Or.inr ⟨by rfl, rfl⟩) (by assumption) ?_
        try simp only [Act.put, List.setIfInBounds_toArray, List.set_cons_zero, List.set_cons_succ]
        refine wpAnyH_take (i := 13) (oi := ⟨some 32, _, _, _, _, _⟩) (v := undef) rfl (by kernel_rfl) (by kernel_rfl) (by kernel_rfl) (fun _ _ _ h => h) (Or.inr ⟨by rfl, rfl⟩) (by assumption) ?_
        try simp only [Act.put, List.setIfInBounds_toArray, List.set_cons_zero, List.set_cons_succ]
        refine wpAnyH_take (i := 14) (oi := ⟨some 33, _, _, _, _, _⟩) (v := undef) rfl (by kernel_rfl) (by kernel_rfl) (by kernel_rfl) (fun _ _ _ h => h) (Or.inr ⟨by rfl, rfl⟩) (by assumption) ?_
        try simp only [Act.put, List.setIfInBounds_toArray, List.set_cons_zero, List.set_cons_succ]
        refine wpAnyH_take (i := 15) (oi := ⟨some 34, _, _, _, _, _⟩) (v := undef) rfl (by kernel_rfl) (by kernel_rfl) (by kernel_rfl) (fun _ _ _ h => h) (Or.inr ⟨by rfl, rfl⟩) (by assumption) ?_
        try simp only [Act.put, List.setIfInBounds_toArray, List.set_cons_zero, List.set_cons_succ]
        refine wpAnyH_take (i := 16) (oi := ⟨some 35, _, _, _, _, _⟩) (v := undef) rfl (by kernel_rfl) (by kernel_rfl) (by kernel_rfl) (fun _ _ _ h => h) (Or.inr ⟨by rfl, rfl⟩) (by assumption) ?_
        try simp only [Act.put, List.setIfInBounds_toArray, List.set_cons_zero, List.set_cons_succ]
        refine wpAnyH_take (i := 17) (oi := ⟨some 36, _, _, _, _, _⟩) (v := undef) rfl (by kernel_rfl) (by kernel_rfl) (by kernel_rfl) (fun _ _ _ h => h) (Or.inr ⟨by rfl, rfl⟩) (by assumption) ?_
        try simp only [Act.put, List.setIfInBounds_toArray, List.set_cons_zero, List.set_cons_succ]
        refine wpAnyH_take (i := 18) (oi := ⟨some 37, _, _, _, _, _⟩) (v := undef) rfl (by kernel_rfl) (by kernel_rfl) (by kernel_rfl) (fun _ _ _ h => h) (Or.inr ⟨by rfl, rfl⟩) (by assumption) ?_
        try simp only [Act.put, List.setIfInBounds_toArray, List.set_cons_zero, List.set_cons_succ]
        refine wpAnyH_take (i := 19) (oi := ⟨some 38, _, _, _, _, _⟩) (v := undef) rfl (by kernel_rfl) (by kernel_rfl) (by kernel_rfl) (fun _ _ _ h => h) (Or.inr ⟨by rfl, rfl⟩) (by assumption) ?_
        try simp only [Act.put, List.setIfInBounds_toArray, List.set_cons_zero, List.set_cons_succ]
        refine wpAnyH_take (i := 20) (oi := ⟨some 39, _, _, _, _, _⟩) (v := undef) rfl (by kernel_rfl) (by kernel_rfl) (by kernel_rfl) (fun _ _ _ h => h) (Or.inr ⟨by rfl, rfl⟩) (by assumption) ?_
        try simp only [Act.put, List.setIfInBounds_toArray, List.set_cons_zero, List.set_cons_succ]
        refine wpAnyH_take (i := 21) (oi := ⟨some 40, _, _, _, _, _⟩) (v := undef) rfl (by kernel_rfl) (by kernel_rfl) (by kernel_rfl) (fun _ _ _ h => h) (Or.inr ⟨by rfl, rfl⟩) (by assumption) ?_
        try simp only [Act.put, List.setIfInBounds_toArray, List.set_cons_zero, List.set_cons_succ]
        refine wpAnyH_take (i := 22) (oi := ⟨some 41, _, _, _, _, _⟩) (v := ?_) rfl (by kernel_rfl) (by kernel_rfl) (by kernel_rfl) (fun _ _ _ h => h) (Or.inl ⟨by rfl, ?_⟩) (by assumption) ?_
        rotate_left 1
        · (intro W hSw; obtain ⟨f0, f1, f2, f3⟩ := tS W hSw; go_simp <;> with_reducible rfl)
        try simp only [Act.put, List.setIfInBounds_toArray, List.set_cons_zero, List.set_cons_succ]
        refine wpAnyH_take (i := 23) (oi := ⟨some 42, _, _, _, _, _⟩) (v := ?_) rfl (by kernel_rfl) (by kernel_rfl) (by kernel_rfl) (fun _ _ _ h => h) (Or.inl ⟨by rfl, ?_⟩) (by assumption) ?_
        rotate_left 1
        · (intro W hSw; obtain ⟨f0, f1, f2, f3⟩ := tS W hSw; go_simp <;> with_reducible rfl)
        try simp only [Act.put, List.setIfInBounds_toArray, List.set_cons_zero, List.set_cons_succ]
        refine wpAnyH_done (by kernel_rfl) ?_ _
        refine NoPanic.normal ?_
        go_wp2
        go_roundw
        case rel => exact ⟨1, by omega, by go_num, HB.out.trans (k1.mono HB.out.size)⟩
        case measure => simp [intOf]; omega
      · obtain ⟨m, rfl⟩ : ∃ m, k = m + 1 := ⟨k - 1, by omega⟩
        obtain ⟨y1, hy1⟩ : ∃ y, l[m]? = some y := ⟨_, List.getElem?_eq_getElem (by omega)⟩
        have hles := hris m y1 y hy1 hy
        have h13 : ∀ W, Calls Tryd.prog 13 #[.agg #[.int .i64 y1.k, .int .i64 y1.i, .int .i64 y1.j], .agg #[.int .i64 y.k, .int .i64 y.i, .int .i64 y.j]] W fun e w' => e = .returned (.bool true) ∧ Below W.heap.size W w' := fun W => by rw [← hles]; exact rless_any y1 y W
        obtain ⟨g, rfl, _⟩ := pl_at how hy
        have hR : ∀ W, Below wr.heap.size wr W → W.rangeAt g ((m + 1) * 3) y.cs := fun W hW => by
          obtain ⟨g', e, hr⟩ := pl_at (ownB_below' how hW) hy
          injection e with e
          injection e with e
          subst e
          exact hr
        have hR1 : ∀ W, Below wr.heap.size wr W → W.rangeAt g (m * 3) y1.cs := fun W hW => by
          obtain ⟨g', e, hr⟩ := pl_at (ownB_below' how hW) hy1
          injection e with e
          injection e with e
          subst e
          exact hr
        have HY := Lib.hid (And.intro hy (And.intro hyq (And.intro hris hles)))
        have g0 : (0 : Int) ≤ (m : Int) + 1 := by omega
        have g1 : (m : Int) + 1 < (n : Int) := by omega
        have g2 : (0 : Int) ≤ (m : Int) := by omega
        have gw : IntKind.i64.wrap (m : Int) = (m : Int) := by rw [IntKind.wrap_i64]; omega
        have g3 : (m : Int) < (n : Int) := by omega
        have t1 : decide ((0 : Int) < (m : Int) + 1) = true := decide_eq_true (by omega)
        have t2 : decide ((m : Int) + 1 < (n : Int)) = true := decide_eq_true (by omega)
        clear hy hy1 hyq hris hles how en
        go_wp2_with fail
        refine wp_region_noPanic ?_
        refine wp_region_held_drew (S := (fun W => Below wr.heap.size wr W)) (by kernel_rfl) k0 (fun hHeld => ?_)
        refine wpAnyH_take (i := 0) (oi := ⟨some 19, _, _, _, _, _⟩) (v := ?_) rfl (by kernel_rfl) (by kernel_rfl) (by kernel_rfl) (fun _ _ _ h => h) (Or.inl ⟨by rfl, ?_⟩) (by assumption) ?_
        rotate_left 1
        · (intro W hSw; obtain ⟨f0, f1, f2, f3⟩ := tS W hSw; go_simp <;> with_reducible rfl)
        try simp only [Act.put, List.setIfInBounds_toArray, List.set_cons_zero, List.set_cons_succ]
        refine wpAnyH_take (i := 1) (oi := ⟨some 20, _, _, _, _, _⟩) (v := ?_) rfl (by kernel_rfl) (by kernel_rfl) (by kernel_rfl) (fun _ _ _ h => h) (Or.inl ⟨by rfl, ?_⟩) (by assumption) ?_
        rotate_left 1
        · (intro W hSw; obtain ⟨f0, f1, f2, f3⟩ := tS W hSw; go_simp <;> with_reducible rfl)
        try simp only [Act.put, List.setIfInBounds_toArray, List.set_cons_zero, List.set_cons_succ]
        refine wpAnyH_take (i := 2) (oi := ⟨some 21, _, _, _, _, _⟩) (v := ?_) rfl (by kernel_rfl) (by kernel_rfl) (by kernel_rfl) (fun _ _ _ h => h) (Or.inl ⟨by rfl, ?_⟩) (by assumption) ?_
        rotate_left 1
        · (intro W hSw; obtain ⟨f0, f1, f2, f3⟩ := tS W hSw; go_simp <;> with_reducible rfl)
        try simp only [Act.put, List.setIfInBounds_toArray, List.set_cons_zero, List.set_cons_succ]
        refine wpAnyH_take (i := 3) (oi := ⟨some 22, _, _, _, _, _⟩) (v := .agg (List.toArray (y.cs))) rfl (by kernel_rfl) (by kernel_rfl) (by kernel_rfl) (fun _ _ _ h => h) (yieldsIf_load_mid (by rfl) 23 (.tmp 21) rfl g ((m + 1) * 3) rfl (y.cs) _ (fun W hW => hR W hW) Tryd.underlying23 rfl (load23 y)) (by assumption) ?_
        try simp only [Act.put, List.setIfInBounds_toArray, List.set_cons_zero, List.set_cons_succ]
        refine wpAnyH_take (i := 4) (oi := ⟨some 23, _, _, _, _, _⟩) (v := ?_) rfl (by kernel_rfl) (by kernel_rfl) (by kernel_rfl) (fun _ _ _ h => h) (Or.inl ⟨by rfl, ?_⟩) (by assumption) ?_
        rotate_left 1
        · (intro W hSw; obtain ⟨f0, f1, f2, f3⟩ := tS W hSw; go_simp <;> with_reducible rfl)
        try simp only [Act.put, List.setIfInBounds_toArray, List.set_cons_zero, List.set_cons_succ]
        refine wpAnyH_ready (rs := [5]) (by kernel_rfl) (by simp) ?_
        refine AllReadyH.cons rfl (fun K hK => ?_) AllReadyH.nil
        go_simp
        refine (h10 _).mono ?_
        rintro e w11 ⟨rfl, hb11⟩
        have k1 := k0.trans (hb11.mono k0.size)
        have hKeep := k1
        refine hK.out _ _ ?_ (fun hHeld1 => ?_)
        · exact hKeep
        clear hHeld hK K hKeep
        try simp only [Act.put, List.setIfInBounds_toArray, List.set_cons_zero, List.set_cons_succ]
        refine wpAnyH_take (i := 6) (oi := ⟨some 25, _, _, _, _, _⟩) (v := ?_) rfl (by kernel_rfl) (by kernel_rfl) (by kernel_rfl) (fun _ _ _ h => h) (Or.inl ⟨by rfl, ?_⟩) (by assumption) ?_
        rotate_left 1
        · (intro W hSw; obtain ⟨f0, f1, f2, f3⟩ := tS W hSw; go_simp <;> with_reducible rfl)
        try simp only [Act.put, List.setIfInBounds_toArray, List.set_cons_zero, List.set_cons_succ]
        refine wpAnyH_take (i := 7) (oi := ⟨some 26, _, _, _, _, _⟩) (v := ?_) rfl (by kernel_rfl) (by kernel_rfl) (by kernel_rfl) (fun _ _ _ h => h) (Or.inl ⟨by rfl, ?_⟩) (by assumption) ?_
        rotate_left 1
        · (intro W hSw; obtain ⟨f0, f1, f2, f3⟩ := tS W hSw; go_simp <;> with_reducible rfl)
        try simp only [Act.put, List.setIfInBounds_toArray, List.set_cons_zero, List.set_cons_succ]
        refine wpAnyH_take (i := 8) (oi := ⟨some 27, _, _, _, _, _⟩) (v := ?_) rfl (by kernel_rfl) (by kernel_rfl) (by kernel_rfl) (fun _ _ _ h => h) (Or.inl ⟨by rfl, ?_⟩) (by assumption) ?_
        rotate_left 1
        · (intro W hSw; obtain ⟨f0, f1, f2, f3⟩ := tS W hSw; go_simp <;> with_reducible rfl)
        try simp only [Act.put, List.setIfInBounds_toArray, List.set_cons_zero, List.set_cons_succ]
        refine wpAnyH_take (i := 9) (oi := ⟨some 28, _, _, _, _, _⟩) (v := ?_) rfl (by kernel_rfl) (by kernel_rfl) (by kernel_rfl) (fun _ _ _ h => h) (Or.inl ⟨by rfl, ?_⟩) (by assumption) ?_
        rotate_left 1
        · (intro W hSw; obtain ⟨f0, f1, f2, f3⟩ := tS W hSw; go_simp <;> with_reducible rfl)
        try simp only [Act.put, List.setIfInBounds_toArray, List.set_cons_zero, List.set_cons_succ]
        refine wpAnyH_take (i := 10) (oi := ⟨some 29, _, _, _, _, _⟩) (v := ?_) rfl (by kernel_rfl) (by kernel_rfl) (by kernel_rfl) (fun _ _ _ h => h) (Or.inl ⟨by rfl, ?_⟩) (by assumption) ?_
        rotate_left 1
        · (intro W hSw; obtain ⟨f0, f1, f2, f3⟩ := tS W hSw; go_simp <;> with_reducible rfl)
        try simp only [Act.put, List.setIfInBounds_toArray, List.set_cons_zero, List.set_cons_succ]
        refine wpAnyH_take (i := 11) (oi := ⟨some 30, _, _, _, _, _⟩) (v := ?_) rfl (by kernel_rfl) (by kernel_rfl) (by kernel_rfl) (fun _ _ _ h => h) (Or.inl ⟨by rfl, ?_⟩) (by assumption) ?_
        rotate_left 1
        · (intro W hSw; obtain ⟨f0, f1, f2, f3⟩ := tS W hSw; go_simp <;> with_reducible rfl)
        try simp only [Act.put, List.setIfInBounds_toArray, List.set_cons_zero, List.set_cons_succ]
        refine wpAnyH_take (i := 12) (oi := ⟨some 31, _, _, _, _, _⟩) (v := ?_) rfl (by kernel_rfl) (by kernel_rfl) (by kernel_rfl) (fun _ _ _ h => h) (Or.inl ⟨by rfl, ?_⟩) (by assumption) ?_
        rotate_left 1
        · (intro W hSw; obtain ⟨f0, f1, f2, f3⟩ := tS W hSw; go_simp <;> with_reducible rfl)
        try simp only [Act.put, List.setIfInBounds_toArray, List.set_cons_zero, List.set_cons_succ]
        refine wpAnyH_take (i := 13) (oi := ⟨some 32, _, _, _, _, _⟩) (v := ?_) rfl (by kernel_rfl) (by kernel_rfl) (by kernel_rfl) (fun _ _ _ h => h) (Or.inl ⟨by rfl, ?_⟩) (by assumption) ?_
        rotate_left 1
        · (intro W hSw; obtain ⟨f0, f1, f2, f3⟩ := tS W hSw; go_simp <;> with_reducible rfl)
        try simp only [Act.put, List.setIfInBounds_toArray, List.set_cons_zero, List.set_cons_succ]
        refine wpAnyH_take (i := 14) (oi := ⟨some 33, _, _, _, _, _⟩) (v := ?_) rfl (by kernel_rfl) (by kernel_rfl) (by kernel_rfl) (fun _ _ _ h => h) (Or.inl ⟨by rfl, ?_⟩) (by assumption) ?_
        rotate_left 1
        · (intro W hSw; obtain ⟨f0, f1, f2, f3⟩ := tS W hSw; go_simp <;> with_reducible rfl)
        try simp only [Act.put, List.setIfInBounds_toArray, List.set_cons_zero, List.set_cons_succ]
        refine wpAnyH_take (i := 15) (oi := ⟨some 34, _, _, _, _, _⟩) (v := .agg (List.toArray (y1.cs))) rfl (by kernel_rfl) (by kernel_rfl) (by kernel_rfl) (fun _ _ _ h => h) (yieldsIf_load_mid (by rfl) 23 (.tmp 33) rfl g (m * 3) rfl (y1.cs) _ (fun W hW => hR1 W hW) Tryd.underlying23 rfl (load23 y1)) (by assumption) ?_
        try simp only [Act.put, List.setIfInBounds_toArray, List.set_cons_zero, List.set_cons_succ]
        refine wpAnyH_take (i := 16) (oi := ⟨some 35, _, _, _, _, _⟩) (v := ?_) rfl (by kernel_rfl) (by kernel_rfl) (by kernel_rfl) (fun _ _ _ h => h) (Or.inl ⟨by rfl, ?_⟩) (by assumption) ?_
        rotate_left 1
        · (intro W hSw; obtain ⟨f0, f1, f2, f3⟩ := tS W hSw; go_simp <;> with_reducible rfl)
        try simp only [Act.put, List.setIfInBounds_toArray, List.set_cons_zero, List.set_cons_succ]
        refine wpAnyH_take (i := 17) (oi := ⟨some 36, _, _, _, _, _⟩) (v := ?_) rfl (by kernel_rfl) (by kernel_rfl) (by kernel_rfl) (fun _ _ _ h => h) (Or.inl ⟨by rfl, ?_⟩) (by assumption) ?_
        rotate_left 1
        · (intro W hSw; obtain ⟨f0, f1, f2, f3⟩ := tS W hSw; go_simp <;> with_reducible rfl)
        try simp only [Act.put, List.setIfInBounds_toArray, List.set_cons_zero, List.set_cons_succ]
        refine wpAnyH_take (i := 18) (oi := ⟨some 37, _, _, _, _, _⟩) (v := ?_) rfl (by kernel_rfl) (by kernel_rfl) (by kernel_rfl) (fun _ _ _ h => h) (Or.inl ⟨by rfl, ?_⟩) (by assumption) ?_
        rotate_left 1
        · (intro W hSw; obtain ⟨f0, f1, f2, f3⟩ := tS W hSw; go_simp <;> with_reducible rfl)
        try simp only [Act.put, List.setIfInBounds_toArray, List.set_cons_zero, List.set_cons_succ]
        refine wpAnyH_take (i := 19) (oi := ⟨some 38, _, _, _, _, _⟩) (v := .agg (List.toArray (y.cs))) rfl (by kernel_rfl) (by kernel_rfl) (by kernel_rfl) (fun _ _ _ h => h) (yieldsIf_load_mid (by rfl) 23 (.tmp 37) rfl g ((m + 1) * 3) rfl (y.cs) _ (fun W hW => hR W hW) Tryd.underlying23 rfl (load23 y)) (by assumption) ?_
        try simp only [Act.put, List.setIfInBounds_toArray, List.set_cons_zero, List.set_cons_succ]
        refine wpAnyH_ready (rs := [20]) (by kernel_rfl) (by simp) ?_
        refine AllReadyH.cons rfl (fun K hK => ?_) AllReadyH.nil
        go_simp
        refine (h13 _).mono ?_
        rintro e w12 ⟨rfl, hb12⟩
        have k2 := k1.trans (hb12.mono k1.size)
        have hKeep := k2
        refine hK.out _ _ ?_ (fun hHeld2 => ?_)
        · exact hKeep
        clear hHeld1 hK K hKeep
        try simp only [Act.put, List.setIfInBounds_toArray, List.set_cons_zero, List.set_cons_succ]
        refine wpAnyH_take (i := 21) (oi := ⟨some 40, _, _, _, _, _⟩) (v := ?_) rfl (by kernel_rfl) (by kernel_rfl) (by kernel_rfl) (fun _ _ _ h => h) (Or.inl ⟨by rfl, ?_⟩) (by assumption) ?_
        rotate_left 1
        · (intro W hSw; obtain ⟨f0, f1, f2, f3⟩ := tS W hSw; go_simp <;> with_reducible rfl)
        try simp only [Act.put, List.setIfInBounds_toArray, List.set_cons_zero, List.set_cons_succ]
        refine wpAnyH_take (i := 22) (oi := ⟨some 41, _, _, _, _, _⟩) (v := ?_) rfl (by kernel_rfl) (by kernel_rfl) (by kernel_rfl) (fun _ _ _ h => h) (Or.inl ⟨by rfl, ?_⟩) (by assumption) ?_
        rotate_left 1
        · (intro W hSw; obtain ⟨f0, f1, f2, f3⟩ := tS W hSw; go_simp <;> with_reducible rfl)
        try simp only [Act.put, List.setIfInBounds_toArray, List.set_cons_zero, List.set_cons_succ]
        refine wpAnyH_take (i := 23) (oi := ⟨some 42, _, _, _, _, _⟩) (v := ?_) rfl (by kernel_rfl) (by kernel_rfl) (by kernel_rfl) (fun _ _ _ h => h) (Or.inl ⟨by rfl, ?_⟩) (by assumption) ?_
        rotate_left 1
        · (intro W hSw; obtain ⟨f0, f1, f2, f3⟩ := tS W hSw; go_simp <;> with_reducible rfl)
        try simp only [Act.put, List.setIfInBounds_toArray, List.set_cons_zero, List.set_cons_succ]
        refine wpAnyH_done (by kernel_rfl) ?_ _
        refine NoPanic.normal ?_
        go_wp2
        go_roundw
        case rel => exact ⟨m + 1 + 1, by omega, by go_num, HB.out.trans (k2.mono HB.out.size)⟩
        case measure => simp [intOf]; omega
    · obtain rfl : k = n := by omega
      have t0 : decide ((k : Int) < (k : Int)) = false := decide_eq_false (by omega)
      obtain ⟨hz1, hz2, hz3, hiff, hmany⟩ := HN.out
      clear hz1 hz2 hz3
      have h14 : ∀ {W}, Below wr.heap.size wr W → Calls Tryd.prog 14 #[.slice A k cap, .agg #[.int .i64 x.k, .int .i64 x.i, .int .i64 x.j]] W fun e w' => e = .returned (.bool (isP x q)) ∧ Below W.heap.size W w' := fun {W} hW => by rw [← hiff]; exact has_any (ownB_below' how hW) x
      have hx10 : ∀ W, Calls Tryd.prog 10 #[.agg #[.int .i64 x.k, .int .i64 x.i, .int .i64 x.j], .agg #[.int .i64 q.r, .int .i64 q.c, .int .i64 q.s, .slice q.A q.n q.cap]] W fun e w' => e = .returned (.bool (isP x q)) ∧ Below W.heap.size W w' := fun W => ris_any x q hq W
      have h15 : ∀ W, Calls Tryd.prog 15 #[.slice A k cap, .agg #[.int .i64 q.r, .int .i64 q.c, .int .i64 q.s, .slice q.A q.n q.cap]] W fun e w' => e = .returned (.bool true) ∧ Below W.heap.size W w' := fun W => sizes_any A k cap q hq hmany W
      have h14' : ∀ W, Below wr.heap.size wr W → Calls Tryd.prog 14 #[.slice A k cap, .agg #[.int .i64 x.k, .int .i64 x.i, .int .i64 x.j]] W fun e w' => e = .returned (.bool (isP x q)) ∧ Below W.heap.size W w' := fun W hW => h14 hW
      clear h14
      generalize isP x q = M at h14' hx10
      have tA : ∀ W, Below wr.heap.size wr W → W.cell? ⟨z, 0, none⟩ = some (.int .i64 q.r) ∧ W.cell? ⟨z, 1, none⟩ = some (.int .i64 q.c) ∧ W.cell? ⟨z, 2, none⟩ = some (.int .i64 q.s) ∧ W.cell? ⟨z, 3, none⟩ = some (.slice q.A q.n q.cap) ∧ W.cell? ⟨z + 1, 0, none⟩ = some (.int .i64 x.k) ∧ W.cell? ⟨z + 1, 1, none⟩ = some (.int .i64 x.i) ∧ W.cell? ⟨z + 1, 2, none⟩ = some (.int .i64 x.j) :=
        fun W hW => ⟨(hpw.on hW).cell 0, (hpw.on hW).cell 1, (hpw.on hW).cell 2, (hpw.on hW).cell 3, (hxw.on hW).cell 0, (hxw.on hW).cell 1, (hxw.on hW).cell 2⟩
      have hbE : Below w.heap.size w wr := hBU.trans (hb.mono hBU.size)
      clear hb hpw hxw hpU hxU hown how tS hiff hmany
      go_wp2_with fail
      refine wp_region_noPanic ?_
      refine wp_region_held_drew (S := (fun W => Below wr.heap.size wr W)) (by kernel_rfl) k0 (fun hHeld => ?_)
      refine wpAnyH_take (i := 0) (oi := ⟨some 43, _, _, _, _, _⟩) (v := ?_) rfl (by kernel_rfl) (by kernel_rfl) (by kernel_rfl) (fun _ _ _ h => h) (Or.inl ⟨by rfl, ?_⟩) (by assumption) ?_
      rotate_left 1
      · (intro W hSw; obtain ⟨f0, f1, f2, f3, f4, f5, f6⟩ := tA W hSw; go_simp <;> with_reducible rfl)
      try simp only [Act.put, List.setIfInBounds_toArray, List.set_cons_zero, List.set_cons_succ]
      refine wpAnyH_take (i := 1) (oi := ⟨some 44, _, _, _, _, _⟩) (v := ?_) rfl (by kernel_rfl) (by kernel_rfl) (by kernel_rfl) (fun _ _ _ h => h) (Or.inl ⟨by rfl, ?_⟩) (by assumption) ?_
      rotate_left 1
      · (intro W hSw; obtain ⟨f0, f1, f2, f3, f4, f5, f6⟩ := tA W hSw; go_simp <;> with_reducible rfl)
      try simp only [Act.put, List.setIfInBounds_toArray, List.set_cons_zero, List.set_cons_succ]
      refine wpAnyH_take (i := 3) (oi := ⟨some 46, _, _, _, _, _⟩) (v := ?_) rfl (by kernel_rfl) (by kernel_rfl) (by kernel_rfl) (fun _ _ _ h => h) (Or.inl ⟨by rfl, ?_⟩) (by assumption) ?_
      rotate_left 1
      · (intro W hSw; obtain ⟨f0, f1, f2, f3, f4, f5, f6⟩ := tA W hSw; go_simp <;> with_reducible rfl)
      try simp only [Act.put, List.setIfInBounds_toArray, List.set_cons_zero, List.set_cons_succ]
      refine wpAnyH_take (i := 4) (oi := ⟨some 47, _, _, _, _, _⟩) (v := ?_) rfl (by kernel_rfl) (by kernel_rfl) (by kernel_rfl) (fun _ _ _ h => h) (Or.inl ⟨by rfl, ?_⟩) (by assumption) ?_
      rotate_left 1
      · (intro W hSw; obtain ⟨f0, f1, f2, f3, f4, f5, f6⟩ := tA W hSw; go_simp <;> with_reducible rfl)
      try simp only [Act.put, List.setIfInBounds_toArray, List.set_cons_zero, List.set_cons_succ]
      refine wpAnyH_ready (rs := [2]) (by kernel_rfl) (by simp) ?_
      refine AllReadyH.cons rfl (fun K hK => ?_) AllReadyH.nil
      go_simp
      refine (h14' _ k0).mono ?_
      rintro e w11 ⟨rfl, hb11⟩
      have k1 := k0.trans (hb11.mono k0.size)
      have hKeep := k1
      refine hK.out _ _ ?_ (fun hHeld1 => ?_)
      · exact hKeep
      clear hHeld hK K hKeep
      try simp only [Act.put, List.setIfInBounds_toArray, List.set_cons_zero, List.set_cons_succ]
      refine wpAnyH_ready (rs := [5]) (by kernel_rfl) (by simp) ?_
      refine AllReadyH.cons rfl (fun K hK => ?_) AllReadyH.nil
      go_simp
      refine (hx10 _).mono ?_
      rintro e w12 ⟨rfl, hb12⟩
      have k2 := k1.trans (hb12.mono k1.size)
      have hKeep := k2
      refine hK.out _ _ ?_ (fun hHeld2 => ?_)
      · exact hKeep
      clear hHeld1 hK K hKeep
      try simp only [Act.put, List.setIfInBounds_toArray, List.set_cons_zero, List.set_cons_succ]
      refine wpAnyH_take (i := 6) (oi := ⟨some 49, _, _, _, _, _⟩) (v := ?_) rfl (by kernel_rfl) (by kernel_rfl) (by kernel_rfl) (fun _ _ _ h => h) (Or.inl ⟨by rfl, ?_⟩) (by assumption) ?_
      rotate_left 1
      · (intro W hSw; obtain ⟨f0, f1, f2, f3, f4, f5, f6⟩ := tA W hSw; go_simp <;> with_reducible rfl)
      try simp only [Act.put, List.setIfInBounds_toArray, List.set_cons_zero, List.set_cons_succ]
      refine wpAnyH_take (i := 7) (oi := ⟨some 50, _, _, _, _, _⟩) (v := ?_) rfl (by kernel_rfl) (by kernel_rfl) (by kernel_rfl) (fun _ _ _ h => h) (Or.inl ⟨by rfl, ?_⟩) (by assumption) ?_
      rotate_left 1
      · (intro W hSw; obtain ⟨f0, f1, f2, f3, f4, f5, f6⟩ := tA W hSw; go_simp <;> with_reducible rfl)
      try simp only [Act.put, List.setIfInBounds_toArray, List.set_cons_zero, List.set_cons_succ]
      refine wpAnyH_take (i := 8) (oi := ⟨some 51, _, _, _, _, _⟩) (v := ?_) rfl (by kernel_rfl) (by kernel_rfl) (by kernel_rfl) (fun _ _ _ h => h) (Or.inl ⟨by rfl, ?_⟩) (by assumption) ?_
      rotate_left 1
      · (intro W hSw; obtain ⟨f0, f1, f2, f3, f4, f5, f6⟩ := tA W hSw; go_simp <;> with_reducible rfl)
      try simp only [Act.put, List.setIfInBounds_toArray, List.set_cons_zero, List.set_cons_succ]
      refine wpAnyH_take (i := 9) (oi := ⟨some 52, _, _, _, _, _⟩) (v := ?_) rfl (by kernel_rfl) (by kernel_rfl) (by kernel_rfl) (fun _ _ _ h => h) (Or.inl ⟨by rfl, ?_⟩) (by assumption) ?_
      rotate_left 1
      · (intro W hSw; obtain ⟨f0, f1, f2, f3, f4, f5, f6⟩ := tA W hSw; go_simp <;> with_reducible rfl)
      try simp only [Act.put, List.setIfInBounds_toArray, List.set_cons_zero, List.set_cons_succ]
      refine wpAnyH_ready (rs := [10]) (by kernel_rfl) (by simp) ?_
      refine AllReadyH.cons rfl (fun K hK => ?_) AllReadyH.nil
      go_simp
      refine (h15 _).mono ?_
      rintro e w13 ⟨rfl, hb13⟩
      have k3 := k2.trans (hb13.mono k2.size)
      have hKeep := k3
      refine hK.out _ _ ?_ (fun hHeld3 => ?_)
      · exact hKeep
      clear hHeld2 hK K hKeep
      try simp only [Act.put, List.setIfInBounds_toArray, List.set_cons_zero, List.set_cons_succ]
      refine wpAnyH_take (i := 11) (oi := ⟨some 54, _, _, _, _, _⟩) (v := ?_) rfl (by kernel_rfl) (by kernel_rfl) (by kernel_rfl) (fun _ _ _ h => h) (Or.inl ⟨by rfl, ?_⟩) (by assumption) ?_
      rotate_left 1
      · (intro W hSw; obtain ⟨f0, f1, f2, f3, f4, f5, f6⟩ := tA W hSw; go_simp <;> with_reducible rfl)
      try simp only [Act.put, List.setIfInBounds_toArray, List.set_cons_zero, List.set_cons_succ]
      refine wpAnyH_take (i := 12) (oi := ⟨some 4, _, _, _, _, _⟩) (v := ?_) rfl (by kernel_rfl) (by kernel_rfl) (by kernel_rfl) (fun _ _ _ h => h) (Or.inl ⟨by rfl, ?_⟩) (by assumption) ?_
      rotate_left 1
      · (intro W hSw; obtain ⟨f0, f1, f2, f3, f4, f5, f6⟩ := tA W hSw; go_simp <;> with_reducible rfl)
      try simp only [Act.put, List.setIfInBounds_toArray, List.set_cons_zero, List.set_cons_succ]
      refine wpAnyH_done (by kernel_rfl) ?_ _
      refine NoPanic.normal ?_
      go_wp2
      go_ret
      exact ⟨by simp, hbE.trans (k3.mono hbE.size)⟩
end Go.Proofs.YtabnfiligbpocaaDoor
