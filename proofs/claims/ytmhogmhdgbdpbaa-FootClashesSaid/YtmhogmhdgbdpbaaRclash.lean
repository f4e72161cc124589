/- Whether two feet clash, by the plain answer. Conditions: at most 1000 places a list. -/
import Derived.Test.YtmhogmhdgbdpbaaNorm
namespace Go.Proofs.Ytmhogmhdgbdpbaa
open Go.ChangeShapes Go.WideShapes Go.RowKit

theorem has_t {w : World} {A : Option Addr} {n cap : Nat} {l : List Pl} (h : SeesP w ⟨A, n, cap⟩ l) (hn : n ≤ 1000) (x : Pl) {T : Bool} (eT : T = decide (x ∈ l)) :
    Calls Try.prog 20 #[.slice A n cap, .agg x.cs.toArray] w fun e w' => e = .returned (.bool T) ∧ Below w.heap.size w w' := by
  rw [eT]
  exact has_any h hn x
set_option maxRecDepth 100000 in
set_option maxHeartbeats 8000000 in
theorem refclash_any {w : World} {f f' : Ft} {U X Q Y : List Pl} (h : Foot w f U X) (h' : Foot w f' Q Y) (h1 : f.r.n ≤ 1000) (h2 : f.w.n ≤ 1000) (h3 : f'.r.n ≤ 1000) (h4 : f'.w.n ≤ 1000) :
    Calls Try.prog 14 #[.agg f.cs.toArray, .agg f'.cs.toArray] w fun e w' => e = .returned (.bool (clashP U X Q Y)) ∧ Below w.heap.size w w' := by
  obtain ⟨⟨rA, rn, rc⟩, ⟨xA, xn, xc⟩⟩ := f
  obtain ⟨⟨rB, rm, rd⟩, ⟨xB, xm, xd⟩⟩ := f'
  obtain ⟨hr, hx⟩ := h
  obtain ⟨hr', hx'⟩ := h'
  simp only at hr hx hr' hx' h1 h2 h3 h4
  have l2 : X.length = xn := hx.len
  have l4 : Y.length = xm := hx'.len
  show Calls Try.prog 14 #[.agg #[.slice rA rn rc, .slice xA xn xc], .agg #[.slice rB rm rd, .slice xB xm xd]] w _
  obtain ⟨z, ez⟩ : ∃ z, z = w.heap.size := ⟨_, rfl⟩
  obtain ⟨W0, eW0⟩ : ∃ W0, W0 = (w.alloc (.cells #[.slice rA rn rc, .slice xA xn xc] 24)).alloc (.cells #[.slice rB rm rd, .slice xB xm xd] 24) := ⟨_, rfl⟩
  have hb0 : Below w.heap.size w W0 := by rw [eW0]; exact ((Below.refl _ w).alloc (Nat.le_refl _) _).alloc (by simp) _
  have hxz : Blk W0 z 24 #[.slice rA rn rc, .slice xA xn xc] := by
    rw [eW0, ez]
    exact Blk.on (heap_alloc_new w _) ((Below.refl _ _).alloc (Nat.le_refl _) _)
  have hyz : Blk W0 (z + 1) 24 #[.slice rB rm rd, .slice xB xm xd] := by rw [eW0, ez]; exact blk_new _ _ 24 _ (by simp)
  have tS0 : ∀ W, Below W0.heap.size W0 W → W.cell? ⟨z, 0, none⟩ = some (.slice rA rn rc) ∧ W.cell? ⟨z, 1, none⟩ = some (.slice xA xn xc) ∧ W.cell? ⟨z + 1, 0, none⟩ = some (.slice rB rm rd) ∧ W.cell? ⟨z + 1, 1, none⟩ = some (.slice xB xm xd) :=
    fun W hW => ⟨(hxz.on hW).cell 0, (hxz.on hW).cell 1, (hyz.on hW).cell 0, (hyz.on hW).cell 1⟩
  have g0 := hr.on hb0
  have g1 := hx.on hb0
  have g2 := hr'.on hb0
  have g3 := hx'.on hb0
  obtain ⟨R, eR⟩ : ∃ R, R = clashP U X Q Y := ⟨_, rfl⟩
  rw [← eR]
  have HR := Lib.hid eR
  have HL := Lib.hid (And.intro l2 l4)
  have HB0 := Lib.hid hb0
  clear hr hx hr' hx' hxz hyz eR l2 l4 hb0
  go_enter Try.func14, Try.ntmps14
  go_wp2_with fail
  rw [← eW0, ← ez]
  clear eW0
  have EZ := Lib.hid ez
  clear ez
  go_loopw [5] (fun v wr => ∃ k : Nat, v = .int .i64 k ∧ k ≤ xn ∧ (∀ (i : Nat) (x : Pl), i < k → X[i]? = some x → ¬ x ∈ Q ∧ ¬ x ∈ Y) ∧ Below W0.heap.size W0 wr) (fun v _ => xn - (intOf v).toNat)
  case atStart => exact ⟨0, rfl, Nat.zero_le _, fun i x hi => by omega, Below.refl _ _⟩
  case round =>
    obtain ⟨k, rfl, hk, hno, hb⟩ := hrel
    obtain ⟨e0, e1, e2, e3⟩ := tS0 wr hb
    by_cases hlt : k < xn
    · obtain ⟨x, hx⟩ : ∃ x, X[k]? = some x := ⟨_, List.getElem?_eq_getElem (by have := HL.out.1; omega)⟩
      obtain ⟨g, o, hA, _⟩ := (g1.on hb).at_ hx
      have hA : xA = some ⟨g, o, none⟩ := hA
      subst hA
      have hrx : ∀ W, Below wr.heap.size wr W → W.rangeAt g (o + k * 3) x.cs := fun W hW => range_of ((g1.on hb).on hW) hx
      have tS : ∀ W, Below wr.heap.size wr W → W.cell? ⟨z + 1, 0, none⟩ = some (.slice rB rm rd) ∧ W.cell? ⟨z, 1, none⟩ = some (.slice (some ⟨g, o, none⟩) xn xc) ∧ W.cell? ⟨z + 1, 1, none⟩ = some (.slice xB xm xd) := fun W hW => by
        obtain ⟨a0, a1, a2, a3⟩ := tS0 W (stepB hb hW)
        exact ⟨a2, a1, a3⟩
      have t0 : decide ((k : Int) < (xn : Int)) = true := decide_eq_true (by omega)
      have b0 : (0 : Int) ≤ (k : Int) := by omega
      have b1 : (k : Int) < (xn : Int) := by omega
      have k0 : Below wr.heap.size wr wr.drew := (Below.refl _ wr).drew
      have hq0 := (g2.on hb).on k0
      have hy0 := (g3.on hb).on k0
      obtain ⟨T1, eT1⟩ : ∃ T, T = decide (x ∈ Q) := ⟨_, rfl⟩
      obtain ⟨T2, eT2⟩ : ∃ T, T = decide (x ∈ Y) := ⟨_, rfl⟩
      have HX := Lib.hid (And.intro hx (And.intro hno hb))
      have HT1 := Lib.hid eT1
      have HT2 := Lib.hid eT2
      clear hx hno hb eT1 eT2
      cases T1 with
      | true =>
        go_wp2_with fail
        refine wp_region_noPanic ?_
        refine wp_region_held_drew (S := (fun W => Below wr.heap.size wr W)) (by kernel_rfl) k0 (fun hHeld => ?_)
        generalize wr.drew = wd at hHeld k0 hq0 hy0 ⊢
        refine wpAnyH_take (i := 0) (oi := ⟨some 14, _, _, _, _, _⟩) (v := ?_) rfl (by kernel_rfl) (by kernel_rfl) (by kernel_rfl) (fun _ _ _ h => h) (Or.inl ⟨by rfl, ?_⟩) (by assumption) ?_
        rotate_left 1
        · (intro W hSw; go_simp <;> with_reducible rfl)
        try simp only [Act.put, List.setIfInBounds_toArray, List.set_cons_zero, List.set_cons_succ]
        refine wpAnyH_take (i := 1) (oi := ⟨some 15, _, _, _, _, _⟩) (v := ?_) rfl (by kernel_rfl) (by kernel_rfl) (by kernel_rfl) (fun _ _ _ h => h) (Or.inl ⟨by rfl, ?_⟩) (by assumption) ?_
        rotate_left 1
        · (intro W hSw; obtain ⟨f0, f1, f2⟩ := tS W hSw; go_simp <;> with_reducible rfl)
        try simp only [Act.put, List.setIfInBounds_toArray, List.set_cons_zero, List.set_cons_succ]
        refine wpAnyH_take (i := 2) (oi := ⟨some 16, _, _, _, _, _⟩) (v := ?_) rfl (by kernel_rfl) (by kernel_rfl) (by kernel_rfl) (fun _ _ _ h => h) (Or.inl ⟨by rfl, ?_⟩) (by assumption) ?_
        rotate_left 1
        · (intro W hSw; go_simp <;> with_reducible rfl)
        try simp only [Act.put, List.setIfInBounds_toArray, List.set_cons_zero, List.set_cons_succ]
        refine wpAnyH_take (i := 3) (oi := ⟨some 17, _, _, _, _, _⟩) (v := ?_) rfl (by kernel_rfl) (by kernel_rfl) (by kernel_rfl) (fun _ _ _ h => h) (Or.inl ⟨by rfl, ?_⟩) (by assumption) ?_
        rotate_left 1
        · (intro W hSw; obtain ⟨f0, f1, f2⟩ := tS W hSw; go_simp <;> with_reducible rfl)
        try simp only [Act.put, List.setIfInBounds_toArray, List.set_cons_zero, List.set_cons_succ]
        refine wpAnyH_take (i := 4) (oi := ⟨some 18, _, _, _, _, _⟩) (v := ?_) rfl (by kernel_rfl) (by kernel_rfl) (by kernel_rfl) (fun _ _ _ h => h) (Or.inl ⟨by rfl, ?_⟩) (by assumption) ?_
        rotate_left 1
        · (intro W hSw; go_simp <;> with_reducible rfl)
        try simp only [Act.put, List.setIfInBounds_toArray, List.set_cons_zero, List.set_cons_succ]
        refine wpAnyH_take (i := 5) (oi := ⟨some 19, _, _, _, _, _⟩) (v := ?_) rfl (by kernel_rfl) (by kernel_rfl) (by kernel_rfl) (fun _ _ _ h => h) (Or.inl ⟨by rfl, ?_⟩) (by assumption) ?_
        rotate_left 1
        · (intro W hSw; go_simp <;> with_reducible rfl)
        try simp only [Act.put, List.setIfInBounds_toArray, List.set_cons_zero, List.set_cons_succ]
        refine wpAnyH_take (i := 6) (oi := ⟨some 20, _, _, _, _, _⟩) (v := .agg (List.toArray (x.cs))) rfl (by kernel_rfl) (by kernel_rfl) (by kernel_rfl) (fun _ _ _ h => h) (yieldsIf_load_mid (by rfl) 32 (.tmp 19) rfl g (o + k * 3) rfl (x.cs) _ (fun W hW => hrx W hW) Try.underlying32 rfl (load32 x)) (by assumption) ?_
        try simp only [Act.put, List.setIfInBounds_toArray, List.set_cons_zero, List.set_cons_succ]
        refine wpAnyH_ready (rs := [7]) (by kernel_rfl) (by simp) ?_
        refine AllReadyH.cons (o := ⟨some 21, _, _, _, _, _⟩) rfl (fun K hK => ?_) AllReadyH.nil
        go_simp
        refine (has_t hq0 (by omega) x HT1.out).mono ?_
        rintro e w1 ⟨rfl, hb1⟩
        have q_1 := hq0.on hb1
        have y_1 := hy0.on hb1
        have S1 : (fun W => Below wr.heap.size wr W) w1 := stepB k0 hb1
        refine hK.out _ _ S1 (fun h1 => ?_)
        clear hHeld hK K
        try simp only [Act.put, List.setIfInBounds_toArray, List.set_cons_zero, List.set_cons_succ]
        refine wpAnyH_take (i := 8) (oi := ⟨some 22, _, _, _, _, _⟩) (v := ?_) rfl (by kernel_rfl) (by kernel_rfl) (by kernel_rfl) (fun _ _ _ h => h) (Or.inl ⟨by rfl, ?_⟩) (by assumption) ?_
        rotate_left 1
        · (intro W hSw; go_simp <;> with_reducible rfl)
        try simp only [Act.put, List.setIfInBounds_toArray, List.set_cons_zero, List.set_cons_succ]
        refine wpAnyH_take (i := 9) (oi := ⟨some 23, _, _, _, _, _⟩) (v := undef) rfl (by kernel_rfl) (by kernel_rfl) (by kernel_rfl) (fun _ _ _ h => h) (Or.inr ⟨by rfl, rfl⟩) (by assumption) ?_
        try simp only [Act.put, List.setIfInBounds_toArray, List.set_cons_zero, List.set_cons_succ]
        refine wpAnyH_take (i := 10) (oi := ⟨some 24, _, _, _, _, _⟩) (v := undef) rfl (by kernel_rfl) (by kernel_rfl) (by kernel_rfl) (fun _ _ _ h => h) (Or.inr ⟨by rfl, rfl⟩) (by assumption) ?_
        try simp only [Act.put, List.setIfInBounds_toArray, List.set_cons_zero, List.set_cons_succ]
        refine wpAnyH_take (i := 11) (oi := ⟨some 25, _, _, _, _, _⟩) (v := undef) rfl (by kernel_rfl) (by kernel_rfl) (by kernel_rfl) (fun _ _ _ h => h) (Or.inr ⟨by rfl, rfl⟩) (by assumption) ?_
        try simp only [Act.put, List.setIfInBounds_toArray, List.set_cons_zero, List.set_cons_succ]
        refine wpAnyH_take (i := 12) (oi := ⟨some 26, _, _, _, _, _⟩) (v := undef) rfl (by kernel_rfl) (by kernel_rfl) (by kernel_rfl) (fun _ _ _ h => h) (Or.inr ⟨by rfl, rfl⟩) (by assumption) ?_
        try simp only [Act.put, List.setIfInBounds_toArray, List.set_cons_zero, List.set_cons_succ]
        refine wpAnyH_take (i := 13) (oi := ⟨some 27, _, _, _, _, _⟩) (v := undef) rfl (by kernel_rfl) (by kernel_rfl) (by kernel_rfl) (fun _ _ _ h => h) (Or.inr ⟨by rfl, rfl⟩) (by assumption) ?_
        try simp only [Act.put, List.setIfInBounds_toArray, List.set_cons_zero, List.set_cons_succ]
        refine wpAnyH_take (i := 14) (oi := ⟨some 28, _, _, _, _, _⟩) (v := undef) rfl (by kernel_rfl) (by kernel_rfl) (by kernel_rfl) (fun _ _ _ h => h) (Or.inr ⟨by rfl, rfl⟩) (by assumption) ?_
        try simp only [Act.put, List.setIfInBounds_toArray, List.set_cons_zero, List.set_cons_succ]
        refine wpAnyH_take (i := 15) (oi := ⟨some 29, _, _, _, _, _⟩) (v := undef) rfl (by kernel_rfl) (by kernel_rfl) (by kernel_rfl) (fun _ _ _ h => h) (Or.inr ⟨by rfl, rfl⟩) (by assumption) ?_
        try simp only [Act.put, List.setIfInBounds_toArray, List.set_cons_zero, List.set_cons_succ]
        refine wpAnyH_take (i := 16) (oi := ⟨some 30, _, _, _, _, _⟩) (v := undef) rfl (by kernel_rfl) (by kernel_rfl) (by kernel_rfl) (fun _ _ _ h => h) (Or.inr ⟨by rfl, rfl⟩) (by assumption) ?_
        try simp only [Act.put, List.setIfInBounds_toArray, List.set_cons_zero, List.set_cons_succ]
        refine wpAnyH_take (i := 17) (oi := ⟨some 31, _, _, _, _, _⟩) (v := ?_) rfl (by kernel_rfl) (by kernel_rfl) (by kernel_rfl) (fun _ _ _ h => h) (Or.inl ⟨by rfl, ?_⟩) (by assumption) ?_
        rotate_left 1
        · (intro W hSw; go_simp <;> with_reducible rfl)
        try simp only [Act.put, List.setIfInBounds_toArray, List.set_cons_zero, List.set_cons_succ]
        refine wpAnyH_done (by kernel_rfl) ?_ _
        refine NoPanic.normal ?_
        have k9 := S1
        have hR : R = true := by
          rw [HR.out]
          exact (clashP_iff _ _ _ _).2 (.inl ⟨x, List.mem_of_getElem? HX.out.1, .inl (of_decide_eq_true HT1.out.symm)⟩)
        have HZ := Lib.hid (And.intro hR (stepB HB0.out (stepB HX.out.2.2 k9)))
        clear hR k9
        go_wp2
        go_ret
        exact ⟨by rw [HZ.out.1]; rfl, HZ.out.2⟩
      | false =>
        go_wp2_with fail
        refine wp_region_noPanic ?_
        refine wp_region_held_drew (S := (fun W => Below wr.heap.size wr W)) (by kernel_rfl) k0 (fun hHeld => ?_)
        generalize wr.drew = wd at hHeld k0 hq0 hy0 ⊢
        refine wpAnyH_take (i := 0) (oi := ⟨some 14, _, _, _, _, _⟩) (v := ?_) rfl (by kernel_rfl) (by kernel_rfl) (by kernel_rfl) (fun _ _ _ h => h) (Or.inl ⟨by rfl, ?_⟩) (by assumption) ?_
        rotate_left 1
        · (intro W hSw; go_simp <;> with_reducible rfl)
        try simp only [Act.put, List.setIfInBounds_toArray, List.set_cons_zero, List.set_cons_succ]
        refine wpAnyH_take (i := 1) (oi := ⟨some 15, _, _, _, _, _⟩) (v := ?_) rfl (by kernel_rfl) (by kernel_rfl) (by kernel_rfl) (fun _ _ _ h => h) (Or.inl ⟨by rfl, ?_⟩) (by assumption) ?_
        rotate_left 1
        · (intro W hSw; obtain ⟨f0, f1, f2⟩ := tS W hSw; go_simp <;> with_reducible rfl)
        try simp only [Act.put, List.setIfInBounds_toArray, List.set_cons_zero, List.set_cons_succ]
        refine wpAnyH_take (i := 2) (oi := ⟨some 16, _, _, _, _, _⟩) (v := ?_) rfl (by kernel_rfl) (by kernel_rfl) (by kernel_rfl) (fun _ _ _ h => h) (Or.inl ⟨by rfl, ?_⟩) (by assumption) ?_
        rotate_left 1
        · (intro W hSw; go_simp <;> with_reducible rfl)
        try simp only [Act.put, List.setIfInBounds_toArray, List.set_cons_zero, List.set_cons_succ]
        refine wpAnyH_take (i := 3) (oi := ⟨some 17, _, _, _, _, _⟩) (v := ?_) rfl (by kernel_rfl) (by kernel_rfl) (by kernel_rfl) (fun _ _ _ h => h) (Or.inl ⟨by rfl, ?_⟩) (by assumption) ?_
        rotate_left 1
        · (intro W hSw; obtain ⟨f0, f1, f2⟩ := tS W hSw; go_simp <;> with_reducible rfl)
        try simp only [Act.put, List.setIfInBounds_toArray, List.set_cons_zero, List.set_cons_succ]
        refine wpAnyH_take (i := 4) (oi := ⟨some 18, _, _, _, _, _⟩) (v := ?_) rfl (by kernel_rfl) (by kernel_rfl) (by kernel_rfl) (fun _ _ _ h => h) (Or.inl ⟨by rfl, ?_⟩) (by assumption) ?_
        rotate_left 1
        · (intro W hSw; go_simp <;> with_reducible rfl)
        try simp only [Act.put, List.setIfInBounds_toArray, List.set_cons_zero, List.set_cons_succ]
        refine wpAnyH_take (i := 5) (oi := ⟨some 19, _, _, _, _, _⟩) (v := ?_) rfl (by kernel_rfl) (by kernel_rfl) (by kernel_rfl) (fun _ _ _ h => h) (Or.inl ⟨by rfl, ?_⟩) (by assumption) ?_
        rotate_left 1
        · (intro W hSw; go_simp <;> with_reducible rfl)
        try simp only [Act.put, List.setIfInBounds_toArray, List.set_cons_zero, List.set_cons_succ]
        refine wpAnyH_take (i := 6) (oi := ⟨some 20, _, _, _, _, _⟩) (v := .agg (List.toArray (x.cs))) rfl (by kernel_rfl) (by kernel_rfl) (by kernel_rfl) (fun _ _ _ h => h) (yieldsIf_load_mid (by rfl) 32 (.tmp 19) rfl g (o + k * 3) rfl (x.cs) _ (fun W hW => hrx W hW) Try.underlying32 rfl (load32 x)) (by assumption) ?_
        try simp only [Act.put, List.setIfInBounds_toArray, List.set_cons_zero, List.set_cons_succ]
        refine wpAnyH_ready (rs := [7]) (by kernel_rfl) (by simp) ?_
        refine AllReadyH.cons (o := ⟨some 21, _, _, _, _, _⟩) rfl (fun K hK => ?_) AllReadyH.nil
        go_simp
        refine (has_t hq0 (by omega) x HT1.out).mono ?_
        rintro e w1 ⟨rfl, hb1⟩
        have q_1 := hq0.on hb1
        have y_1 := hy0.on hb1
        have S1 : (fun W => Below wr.heap.size wr W) w1 := stepB k0 hb1
        refine hK.out _ _ S1 (fun h1 => ?_)
        clear hHeld hK K
        try simp only [Act.put, List.setIfInBounds_toArray, List.set_cons_zero, List.set_cons_succ]
        refine wpAnyH_take (i := 8) (oi := ⟨some 22, _, _, _, _, _⟩) (v := ?_) rfl (by kernel_rfl) (by kernel_rfl) (by kernel_rfl) (fun _ _ _ h => h) (Or.inl ⟨by rfl, ?_⟩) (by assumption) ?_
        rotate_left 1
        · (intro W hSw; go_simp <;> with_reducible rfl)
        try simp only [Act.put, List.setIfInBounds_toArray, List.set_cons_zero, List.set_cons_succ]
        refine wpAnyH_take (i := 9) (oi := ⟨some 23, _, _, _, _, _⟩) (v := ?_) rfl (by kernel_rfl) (by kernel_rfl) (by kernel_rfl) (fun _ _ _ h => h) (Or.inl ⟨by rfl, ?_⟩) (by assumption) ?_
        rotate_left 1
        · (intro W hSw; go_simp <;> with_reducible rfl)
        try simp only [Act.put, List.setIfInBounds_toArray, List.set_cons_zero, List.set_cons_succ]
        refine wpAnyH_take (i := 10) (oi := ⟨some 24, _, _, _, _, _⟩) (v := ?_) rfl (by kernel_rfl) (by kernel_rfl) (by kernel_rfl) (fun _ _ _ h => h) (Or.inl ⟨by rfl, ?_⟩) (by assumption) ?_
        rotate_left 1
        · (intro W hSw; obtain ⟨f0, f1, f2⟩ := tS W hSw; go_simp <;> with_reducible rfl)
        try simp only [Act.put, List.setIfInBounds_toArray, List.set_cons_zero, List.set_cons_succ]
        refine wpAnyH_take (i := 11) (oi := ⟨some 25, _, _, _, _, _⟩) (v := ?_) rfl (by kernel_rfl) (by kernel_rfl) (by kernel_rfl) (fun _ _ _ h => h) (Or.inl ⟨by rfl, ?_⟩) (by assumption) ?_
        rotate_left 1
        · (intro W hSw; go_simp <;> with_reducible rfl)
        try simp only [Act.put, List.setIfInBounds_toArray, List.set_cons_zero, List.set_cons_succ]
        refine wpAnyH_take (i := 12) (oi := ⟨some 26, _, _, _, _, _⟩) (v := ?_) rfl (by kernel_rfl) (by kernel_rfl) (by kernel_rfl) (fun _ _ _ h => h) (Or.inl ⟨by rfl, ?_⟩) (by assumption) ?_
        rotate_left 1
        · (intro W hSw; obtain ⟨f0, f1, f2⟩ := tS W hSw; go_simp <;> with_reducible rfl)
        try simp only [Act.put, List.setIfInBounds_toArray, List.set_cons_zero, List.set_cons_succ]
        refine wpAnyH_take (i := 13) (oi := ⟨some 27, _, _, _, _, _⟩) (v := ?_) rfl (by kernel_rfl) (by kernel_rfl) (by kernel_rfl) (fun _ _ _ h => h) (Or.inl ⟨by rfl, ?_⟩) (by assumption) ?_
        rotate_left 1
        · (intro W hSw; go_simp <;> with_reducible rfl)
        try simp only [Act.put, List.setIfInBounds_toArray, List.set_cons_zero, List.set_cons_succ]
        refine wpAnyH_take (i := 14) (oi := ⟨some 28, _, _, _, _, _⟩) (v := ?_) rfl (by kernel_rfl) (by kernel_rfl) (by kernel_rfl) (fun _ _ _ h => h) (Or.inl ⟨by rfl, ?_⟩) (by assumption) ?_
        rotate_left 1
        · (intro W hSw; go_simp <;> with_reducible rfl)
        try simp only [Act.put, List.setIfInBounds_toArray, List.set_cons_zero, List.set_cons_succ]
        refine wpAnyH_take (i := 15) (oi := ⟨some 29, _, _, _, _, _⟩) (v := .agg (List.toArray (x.cs))) rfl (by kernel_rfl) (by kernel_rfl) (by kernel_rfl) (fun _ _ _ h => h) (yieldsIf_load_mid (by rfl) 32 (.tmp 28) rfl g (o + k * 3) rfl (x.cs) _ (fun W hW => hrx W hW) Try.underlying32 rfl (load32 x)) (by assumption) ?_
        try simp only [Act.put, List.setIfInBounds_toArray, List.set_cons_zero, List.set_cons_succ]
        refine wpAnyH_ready (rs := [16]) (by kernel_rfl) (by simp) ?_
        refine AllReadyH.cons (o := ⟨some 30, _, _, _, _, _⟩) rfl (fun K hK => ?_) AllReadyH.nil
        go_simp
        refine (has_t y_1 (by omega) x HT2.out).mono ?_
        rintro e w2 ⟨rfl, hb2⟩
        have q_2 := q_1.on hb2
        have y_2 := y_1.on hb2
        have S2 : (fun W => Below wr.heap.size wr W) w2 := stepB S1 hb2
        refine hK.out _ _ S2 (fun h2 => ?_)
        clear h1 hK K
        try simp only [Act.put, List.setIfInBounds_toArray, List.set_cons_zero, List.set_cons_succ]
        refine wpAnyH_take (i := 17) (oi := ⟨some 31, _, _, _, _, _⟩) (v := ?_) rfl (by kernel_rfl) (by kernel_rfl) (by kernel_rfl) (fun _ _ _ h => h) (Or.inl ⟨by rfl, ?_⟩) (by assumption) ?_
        rotate_left 1
        · (intro W hSw; go_simp <;> with_reducible rfl)
        try simp only [Act.put, List.setIfInBounds_toArray, List.set_cons_zero, List.set_cons_succ]
        refine wpAnyH_done (by kernel_rfl) ?_ _
        refine NoPanic.normal ?_
        have k9 := S2
        cases T2 with
        | true =>
          have hR : R = true := by
            rw [HR.out]
            exact (clashP_iff _ _ _ _).2 (.inl ⟨x, List.mem_of_getElem? HX.out.1, .inr (of_decide_eq_true HT2.out.symm)⟩)
          have HZ := Lib.hid (And.intro hR (stepB HB0.out (stepB HX.out.2.2 k9)))
          clear hR k9
          go_wp2
          go_ret
          exact ⟨by rw [HZ.out.1]; rfl, HZ.out.2⟩
        | false =>
          have hno2 : ∀ (i : Nat) (y : Pl), i < k + 1 → X[i]? = some y → ¬ y ∈ Q ∧ ¬ y ∈ Y := fun i y hi hy => by
            obtain ⟨hx, hno, _⟩ := HX.out
            by_cases e : i = k
            · subst e
              rw [hx] at hy
              injection hy with hy
              subst hy
              exact ⟨of_decide_eq_false HT1.out.symm, of_decide_eq_false HT2.out.symm⟩
            · exact hno i y (by omega) hy
          have HZ := Lib.hid (And.intro hno2 (stepB HX.out.2.2 k9))
          clear hno2 k9
          go_wp2
          go_roundw
          case rel => exact ⟨k + 1, by simp, by omega, HZ.out.1, HZ.out.2⟩
          case measure => simp [intOf]; omega
    · obtain rfl : k = xn := by omega
      have t0 : decide ((k : Int) < (k : Int)) = false := decide_eq_false (by omega)
      have hno1 : ∀ x, x ∈ X → ¬ x ∈ Q ∧ ¬ x ∈ Y := fun x hx => by
        obtain ⟨i, hi⟩ := List.getElem?_of_mem hx
        exact hno i x (by have := (List.getElem?_eq_some_iff.1 hi).1; have := HL.out.1; omega) hi
      have HN1 := Lib.hid hno1
      clear hno hno1
      go_wp2_with fail
      generalize wr = wq at *
      go_loopw [6] (fun v wr => ∃ k : Nat, v = .int .i64 k ∧ k ≤ xm ∧ (∀ (i : Nat) (x : Pl), i < k → Y[i]? = some x → ¬ x ∈ U) ∧ Below W0.heap.size W0 wr) (fun v _ => xm - (intOf v).toNat)
      case atStart => exact ⟨0, rfl, Nat.zero_le _, fun i x hi => by omega, hb⟩
      case round =>
        obtain ⟨j, rfl, hj, hno, hb2⟩ := hrel
        clear e0 e1 e2 e3 hb
        obtain ⟨e0, e1, e2, e3⟩ := tS0 wr hb2
        by_cases hlt2 : j < xm
        · obtain ⟨x, hx⟩ : ∃ x, Y[j]? = some x := ⟨_, List.getElem?_eq_getElem (by have := HL.out.2; omega)⟩
          obtain ⟨g, o, hA, _⟩ := (g3.on hb2).at_ hx
          have hA : xB = some ⟨g, o, none⟩ := hA
          subst hA
          have hrx : ∀ W, Below wr.heap.size wr W → W.rangeAt g (o + j * 3) x.cs := fun W hW => range_of ((g3.on hb2).on hW) hx
          have tS : ∀ W, Below wr.heap.size wr W → W.cell? ⟨z, 0, none⟩ = some (.slice rA rn rc) ∧ W.cell? ⟨z + 1, 1, none⟩ = some (.slice (some ⟨g, o, none⟩) xm xd) := fun W hW => by
            obtain ⟨a0, a1, a2, a3⟩ := tS0 W (stepB hb2 hW)
            exact ⟨a0, a3⟩
          have t1 : decide ((j : Int) < (xm : Int)) = true := decide_eq_true (by omega)
          have b0 : (0 : Int) ≤ (j : Int) := by omega
          have b1 : (j : Int) < (xm : Int) := by omega
          have k0 : Below wr.heap.size wr wr.drew := (Below.refl _ wr).drew
          have hq0 := (g0.on hb2).on k0
          obtain ⟨T1, eT1⟩ : ∃ T, T = decide (x ∈ U) := ⟨_, rfl⟩
          have HX := Lib.hid (And.intro hx (And.intro hno hb2))
          have HT1 := Lib.hid eT1
          clear hx hno hb2 eT1
          go_wp2_with fail
          refine wp_region_noPanic ?_
          refine wp_region_held_drew (S := (fun W => Below wr.heap.size wr W)) (by kernel_rfl) k0 (fun hHeld => ?_)
          generalize wr.drew = wd at hHeld k0 hq0 ⊢
          refine wpAnyH_take (i := 0) (oi := ⟨some 39, _, _, _, _, _⟩) (v := ?_) rfl (by kernel_rfl) (by kernel_rfl) (by kernel_rfl) (fun _ _ _ h => h) (Or.inl ⟨by rfl, ?_⟩) (by assumption) ?_
          rotate_left 1
          · (intro W hSw; go_simp <;> with_reducible rfl)
          try simp only [Act.put, List.setIfInBounds_toArray, List.set_cons_zero, List.set_cons_succ]
          refine wpAnyH_take (i := 1) (oi := ⟨some 40, _, _, _, _, _⟩) (v := ?_) rfl (by kernel_rfl) (by kernel_rfl) (by kernel_rfl) (fun _ _ _ h => h) (Or.inl ⟨by rfl, ?_⟩) (by assumption) ?_
          rotate_left 1
          · (intro W hSw; obtain ⟨f0, f1⟩ := tS W hSw; go_simp <;> with_reducible rfl)
          try simp only [Act.put, List.setIfInBounds_toArray, List.set_cons_zero, List.set_cons_succ]
          refine wpAnyH_take (i := 2) (oi := ⟨some 41, _, _, _, _, _⟩) (v := ?_) rfl (by kernel_rfl) (by kernel_rfl) (by kernel_rfl) (fun _ _ _ h => h) (Or.inl ⟨by rfl, ?_⟩) (by assumption) ?_
          rotate_left 1
          · (intro W hSw; go_simp <;> with_reducible rfl)
          try simp only [Act.put, List.setIfInBounds_toArray, List.set_cons_zero, List.set_cons_succ]
          refine wpAnyH_take (i := 3) (oi := ⟨some 42, _, _, _, _, _⟩) (v := ?_) rfl (by kernel_rfl) (by kernel_rfl) (by kernel_rfl) (fun _ _ _ h => h) (Or.inl ⟨by rfl, ?_⟩) (by assumption) ?_
          rotate_left 1
          · (intro W hSw; obtain ⟨f0, f1⟩ := tS W hSw; go_simp <;> with_reducible rfl)
          try simp only [Act.put, List.setIfInBounds_toArray, List.set_cons_zero, List.set_cons_succ]
          refine wpAnyH_take (i := 4) (oi := ⟨some 43, _, _, _, _, _⟩) (v := ?_) rfl (by kernel_rfl) (by kernel_rfl) (by kernel_rfl) (fun _ _ _ h => h) (Or.inl ⟨by rfl, ?_⟩) (by assumption) ?_
          rotate_left 1
          · (intro W hSw; go_simp <;> with_reducible rfl)
          try simp only [Act.put, List.setIfInBounds_toArray, List.set_cons_zero, List.set_cons_succ]
          refine wpAnyH_take (i := 5) (oi := ⟨some 44, _, _, _, _, _⟩) (v := ?_) rfl (by kernel_rfl) (by kernel_rfl) (by kernel_rfl) (fun _ _ _ h => h) (Or.inl ⟨by rfl, ?_⟩) (by assumption) ?_
          rotate_left 1
          · (intro W hSw; go_simp <;> with_reducible rfl)
          try simp only [Act.put, List.setIfInBounds_toArray, List.set_cons_zero, List.set_cons_succ]
          refine wpAnyH_take (i := 6) (oi := ⟨some 45, _, _, _, _, _⟩) (v := .agg (List.toArray (x.cs))) rfl (by kernel_rfl) (by kernel_rfl) (by kernel_rfl) (fun _ _ _ h => h) (yieldsIf_load_mid (by rfl) 32 (.tmp 44) rfl g (o + j * 3) rfl (x.cs) _ (fun W hW => hrx W hW) Try.underlying32 rfl (load32 x)) (by assumption) ?_
          try simp only [Act.put, List.setIfInBounds_toArray, List.set_cons_zero, List.set_cons_succ]
          refine wpAnyH_ready (rs := [7]) (by kernel_rfl) (by simp) ?_
          refine AllReadyH.cons (o := ⟨some 46, _, _, _, _, _⟩) rfl (fun K hK => ?_) AllReadyH.nil
          go_simp
          refine (has_t hq0 (by omega) x HT1.out).mono ?_
          rintro e w1 ⟨rfl, hb1⟩
          have q_1 := hq0.on hb1
          have S1 : (fun W => Below wr.heap.size wr W) w1 := stepB k0 hb1
          refine hK.out _ _ S1 (fun h1 => ?_)
          clear hHeld hK K
          try simp only [Act.put, List.setIfInBounds_toArray, List.set_cons_zero, List.set_cons_succ]
          refine wpAnyH_done (by kernel_rfl) ?_ _
          refine NoPanic.normal ?_
          have k9 := S1
          cases T1 with
          | true =>
            have hR : R = true := by
              rw [HR.out]
              exact (clashP_iff _ _ _ _).2 (.inr ⟨x, List.mem_of_getElem? HX.out.1, of_decide_eq_true HT1.out.symm⟩)
            have HZ := Lib.hid (And.intro hR (stepB HB0.out (stepB HX.out.2.2 k9)))
            clear hR k9
            go_wp2
            go_ret
            exact ⟨by rw [HZ.out.1]; rfl, HZ.out.2⟩
          | false =>
            have hno2 : ∀ (i : Nat) (y : Pl), i < j + 1 → Y[i]? = some y → ¬ y ∈ U := fun i y hi hy => by
              obtain ⟨hx, hno, _⟩ := HX.out
              by_cases e : i = j
              · subst e
                rw [hx] at hy
                injection hy with hy
                subst hy
                exact of_decide_eq_false HT1.out.symm
              · exact hno i y (by omega) hy
            have HZ := Lib.hid (And.intro hno2 (stepB HX.out.2.2 k9))
            clear hno2 k9
            go_wp2
            go_roundw
            case rel => exact ⟨j + 1, by simp, by omega, HZ.out.1, HZ.out.2⟩
            case measure => simp [intOf]; omega
        · obtain rfl : j = xm := by omega
          have t1 : decide ((j : Int) < (j : Int)) = false := decide_eq_false (by omega)
          have hR : R = false := by
            rw [HR.out, ← Bool.not_eq_true, clashP_iff]
            rintro (⟨x, hx, hq⟩ | ⟨x, hx, hq⟩)
            · obtain ⟨a1, a2⟩ := HN1.out x hx
              exact hq.elim a1 a2
            · obtain ⟨i, hi⟩ := List.getElem?_of_mem hx
              exact hno i x (by have := (List.getElem?_eq_some_iff.1 hi).1; have := HL.out.2; omega) hi hq
          have HZ := Lib.hid (And.intro hR (stepB HB0.out hb2))
          clear hR hno hb2
          go_wp2
          go_ret
          exact ⟨by rw [HZ.out.1]; rfl, HZ.out.2⟩
end Go.Proofs.Ytmhogmhdgbdpbaa
