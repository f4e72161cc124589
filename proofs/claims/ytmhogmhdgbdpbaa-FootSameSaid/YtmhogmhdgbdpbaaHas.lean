/- Whether a place is among some; whether two lists of places are the same, by the plain answer and by the library. Conditions: at most 1000 places. -/
import Derived.Test.YtmhogmhdgbdpbaaJoin
namespace Go.Proofs.Ytmhogmhdgbdpbaa
open Go.ChangeShapes Go.WideShapes Go.RowKit

theorem range_of {w : World} {g o n cap : Nat} {l : List Pl} (h : SeesP w ⟨some ⟨g, o, none⟩, n, cap⟩ l) {i : Nat} {x : Pl} (hx : l[i]? = some x) : w.rangeAt g (o + i * 3) x.cs := by
  obtain ⟨g', o', e, h2⟩ := h.at_ hx
  injection e with e
  injection e with e1 e2
  subst e1 e2
  exact h2
set_option maxRecDepth 100000 in
set_option maxHeartbeats 2000000 in
theorem has_any {w : World} {A : Option Addr} {n cap : Nat} {l : List Pl} (h : SeesP w ⟨A, n, cap⟩ l) (hn : n ≤ 1000) (x : Pl) :
    Calls Try.prog 20 #[.slice A n cap, .agg x.cs.toArray] w fun e w' => e = .returned (.bool (decide (x ∈ l))) ∧ Below w.heap.size w w' := by
  have hl : l.length = n := h.len
  obtain ⟨z, ez⟩ : ∃ z, z = w.heap.size := ⟨_, rfl⟩
  obtain ⟨W0, eW0⟩ : ∃ W, W = w.alloc (.cells x.cs.toArray 32) := ⟨_, rfl⟩
  have hb0 : Below w.heap.size w W0 := by rw [eW0]; exact (Below.refl _ w).alloc (Nat.le_refl _) _
  have hx0 : Blk W0 z 32 x.cs.toArray := by rw [eW0, ez]; exact heap_alloc_new w _
  have h0 := h.on hb0
  obtain ⟨R, eR⟩ : ∃ R, R = decide (x ∈ l) := ⟨_, rfl⟩
  rw [← eR]
  have HL := Lib.hid (And.intro hl eR)
  have HB0 := Lib.hid hb0
  clear h hl eR hb0
  go_enter Try.func20, Try.ntmps20
  go_wp2_with fail
  rw [← eW0, ← ez]
  clear eW0
  have EZ := Lib.hid ez
  clear ez
  go_loopw [5] (fun v wr => ∃ k : Nat, k ≤ n ∧ v = .int .i64 k ∧ (∀ (j : Nat) (y : Pl), j < k → l[j]? = some y → y ≠ x) ∧ Below W0.heap.size W0 wr) (fun v _ => n - (intOf v).toNat)
  case atStart => exact ⟨0, Nat.zero_le _, rfl, fun j y hj => by omega, Below.refl _ _⟩
  case round =>
    obtain ⟨k, hk, rfl, hno, hb⟩ := hrel
    have HB := Lib.hid (And.intro hb (And.intro hno (stepB HB0.out hb)))
    by_cases hlt : k < n
    · obtain ⟨y, hy⟩ : ∃ y, l[k]? = some y := ⟨_, List.getElem?_eq_getElem (by have := HL.out.1; omega)⟩
      obtain ⟨g, o, hA, _⟩ := (h0.on hb).at_ hy
      have hA : A = some ⟨g, o, none⟩ := hA
      subst hA
      have hr : ∀ W, Below wr.heap.size wr W → W.rangeAt g (o + k * 3) y.cs := fun W hW => range_of ((h0.on hb).on hW) hy
      have hrx : ∀ W, Below wr.heap.size wr W → W.rangeAt z 0 x.cs := fun W hW => range_blk ((hx0.on hb).on hW)
      have t0 : decide ((k : Int) < (n : Int)) = true := decide_eq_true (by omega)
      have hk1 : IntKind.i64.wrap ((k : Int) + 1) = ((k + 1 : Nat) : Int) := by rw [IntKind.wrap_i64]; omega
      have b0 : (0 : Int) ≤ (k : Int) := by omega
      have b1 : (k : Int) < (n : Int) := by omega
      have k0 : Below wr.heap.size wr wr.drew := (Below.refl _ wr).drew
      have heq := eq32 y x
      obtain ⟨M, eM⟩ : ∃ M, M = decide (y = x) := ⟨_, rfl⟩
      rw [← eM] at heq
      have HY := Lib.hid (And.intro hy eM)
      clear hb hno hy eM hx0 h0
      go_wp2_with fail
      refine wp_region_noPanic ?_
      refine wp_region_held_drew (S := (fun W => Below wr.heap.size wr W)) (by kernel_rfl) k0 (fun hHeld => ?_)
      refine wpAnyH_take (i := 0) (oi := ⟨some 12, _, _, _, _, _⟩) (v := ?_) rfl (by kernel_rfl) (by kernel_rfl) (by kernel_rfl) (fun _ _ _ h => h) (Or.inl ⟨by rfl, ?_⟩) (by assumption) ?_
      rotate_left 1
      · (intro W hSw; go_simp <;> with_reducible rfl)
      try simp only [Act.put, List.setIfInBounds_toArray, List.set_cons_zero, List.set_cons_succ]
      refine wpAnyH_take (i := 1) (oi := ⟨some 13, _, _, _, _, _⟩) (v := ?_) rfl (by kernel_rfl) (by kernel_rfl) (by kernel_rfl) (fun _ _ _ h => h) (Or.inl ⟨by rfl, ?_⟩) (by assumption) ?_
      rotate_left 1
      · (intro W hSw; go_simp <;> with_reducible rfl)
      try simp only [Act.put, List.setIfInBounds_toArray, List.set_cons_zero, List.set_cons_succ]
      refine wpAnyH_take (i := 2) (oi := ⟨some 14, _, _, _, _, _⟩) (v := ?_) rfl (by kernel_rfl) (by kernel_rfl) (by kernel_rfl) (fun _ _ _ h => h) (Or.inl ⟨by rfl, ?_⟩) (by assumption) ?_
      rotate_left 1
      · (intro W hSw; go_simp <;> with_reducible rfl)
      try simp only [Act.put, List.setIfInBounds_toArray, List.set_cons_zero, List.set_cons_succ]
      refine wpAnyH_take (i := 3) (oi := ⟨some 15, _, _, _, _, _⟩) (v := .agg (List.toArray (y.cs))) rfl (by kernel_rfl) (by kernel_rfl) (by kernel_rfl) (fun _ _ _ h => h) (yieldsIf_load_mid (by rfl) 32 (.tmp 14) rfl g (o + k * 3) rfl (y.cs) _ (fun W hW => hr W hW) Try.underlying32 rfl (load32 y)) (by assumption) ?_
      try simp only [Act.put, List.setIfInBounds_toArray, List.set_cons_zero, List.set_cons_succ]
      refine wpAnyH_take (i := 4) (oi := ⟨some 16, _, _, _, _, _⟩) (v := .agg (List.toArray (x.cs))) rfl (by kernel_rfl) (by kernel_rfl) (by kernel_rfl) (fun _ _ _ h => h) (yieldsIf_load_mid (by rfl) 32 (.tmp 3) rfl z (0) rfl (x.cs) _ (fun W hW => hrx W hW) Try.underlying32 rfl (load32 x)) (by assumption) ?_
      try simp only [Act.put, List.setIfInBounds_toArray, List.set_cons_zero, List.set_cons_succ]
      refine wpAnyH_take (i := 5) (oi := ⟨some 17, _, _, _, _, _⟩) (v := ?_) rfl (by kernel_rfl) (by kernel_rfl) (by kernel_rfl) (fun _ _ _ h => h) (Or.inl ⟨by rfl, ?_⟩) (by assumption) ?_
      rotate_left 1
      · (intro W hSw; go_simp <;> with_reducible rfl)
      try simp only [Act.put, List.setIfInBounds_toArray, List.set_cons_zero, List.set_cons_succ]
      refine wpAnyH_done (by kernel_rfl) ?_ _
      refine NoPanic.normal ?_
      obtain ⟨hb, hno, hb2⟩ := HB.out
      obtain ⟨hy, eM⟩ := HY.out
      cases M with
      | false =>
        have hno2 : ∀ (j : Nat) (u : Pl), j < k + 1 → l[j]? = some u → u ≠ x := fun j u hj hu => by
          by_cases e : j = k
          · subst e
            rw [hu] at hy
            injection hy with hy
            subst hy
            exact of_decide_eq_false eM.symm
          · exact hno j u (by omega) hu
        have HR := Lib.hid (And.intro hno2 (stepB hb k0))
        clear hb hno hb2 hy eM hno2
        go_wp2
        go_roundw
        case rel => exact ⟨k + 1, by omega, by simp, HR.out.1, HR.out.2⟩
        case measure => simp [intOf]; omega
      | true =>
        have hR : R = true := by
          rw [HL.out.2]
          have e := of_decide_eq_true eM.symm
          subst e
          exact decide_eq_true (List.mem_of_getElem? hy)
        have HR := Lib.hid (And.intro hR (stepB hb2 k0))
        clear hb hno hb2 hy eM hR
        go_wp2
        go_ret
        exact ⟨by rw [HR.out.1]; rfl, HR.out.2⟩
    · obtain rfl : k = n := by omega
      have t0 : decide ((k : Int) < (k : Int)) = false := decide_eq_false (by omega)
      have hR : R = false := by
        rw [HL.out.2]
        refine decide_eq_false fun hx => ?_
        obtain ⟨j, hj⟩ := List.getElem?_of_mem hx
        exact hno j x (by have := (List.getElem?_eq_some_iff.1 hj).1; have := HL.out.1; omega) hj rfl
      have HR := Lib.hid (And.intro hR HB.out.2.2)
      clear hb hno hR h0 hx0
      go_wp2
      go_ret
      exact ⟨by rw [HR.out.1]; rfl, HR.out.2⟩
set_option maxRecDepth 100000 in
set_option maxHeartbeats 2000000 in
/-- By the plain answer. -/
theorem places_any {w : World} {A A' : Option Addr} {n n' cap cap' : Nat} {l m : List Pl} (h : SeesP w ⟨A, n, cap⟩ l) (h' : SeesP w ⟨A', n', cap'⟩ m) (hn : n ≤ 1000) (hn' : n' ≤ 1000) :
    Calls Try.prog 18 #[.slice A n cap, .slice A' n' cap'] w fun e w' => e = .returned (.bool (decide (l = m))) ∧ Below w.heap.size w w' := by
  have hl : l.length = n := h.len
  have hl' : m.length = n' := h'.len
  obtain ⟨R, eR⟩ : ∃ R, R = decide (l = m) := ⟨_, rfl⟩
  rw [← eR]
  by_cases hnn : n = n'
  · subst hnn
    have HL := Lib.hid (And.intro hl (And.intro hl' eR))
    have t0 : ((n : Int) != (n : Int)) = false := by simp
    clear hl hl' eR
    go_enter Try.func18, Try.ntmps18
    go_wp2_with fail
    go_loopw [5] (fun v wr => ∃ k : Nat, v = .int .i64 k ∧ k ≤ n ∧ (∀ i : Nat, i < k → l[i]? = m[i]?) ∧ Below w.heap.size w wr) (fun v _ => n - (intOf v).toNat)
    case atStart => exact ⟨0, rfl, Nat.zero_le _, fun i hi => by omega, Below.refl _ _⟩
    case round =>
      obtain ⟨k, rfl, hk, hno, hb⟩ := hrel
      by_cases hlt : k < n
      · obtain ⟨x, hx⟩ : ∃ x, l[k]? = some x := ⟨_, List.getElem?_eq_getElem (by have := HL.out.1; omega)⟩
        obtain ⟨y, hy⟩ : ∃ x, m[k]? = some x := ⟨_, List.getElem?_eq_getElem (by have := HL.out.2.1; omega)⟩
        obtain ⟨g, o, hA, _⟩ := (h.on hb).at_ hx
        obtain ⟨g', o', hA', _⟩ := (h'.on hb).at_ hy
        have hA : A = some ⟨g, o, none⟩ := hA
        have hA' : A' = some ⟨g', o', none⟩ := hA'
        subst hA hA'
        have hr : ∀ W, Below wr.heap.size wr W → W.rangeAt g (o + k * 3) x.cs := fun W hW => range_of ((h.on hb).on hW) hx
        have hr' : ∀ W, Below wr.heap.size wr W → W.rangeAt g' (o' + k * 3) y.cs := fun W hW => range_of ((h'.on hb).on hW) hy
        have t0 : decide ((k : Int) < (n : Int)) = true := decide_eq_true (by omega)
        have hk1 : IntKind.i64.wrap ((k : Int) + 1) = ((k + 1 : Nat) : Int) := by rw [IntKind.wrap_i64]; omega
        have b0 : (0 : Int) ≤ (k : Int) := by omega
        have b1 : (k : Int) < (n : Int) := by omega
        have k0 : Below wr.heap.size wr wr.drew := (Below.refl _ wr).drew
        have hne := neq32 x y
        obtain ⟨M, eM⟩ : ∃ M, M = decide (x = y) := ⟨_, rfl⟩
        rw [← eM] at hne
        have HX := Lib.hid (And.intro hx (And.intro hy (And.intro eM (And.intro hno hb))))
        clear hx hy eM hno hb h h'
        go_wp2_with fail
        refine wp_region_noPanic ?_
        refine wp_region_held_drew (S := (fun W => Below wr.heap.size wr W)) (by kernel_rfl) k0 (fun hHeld => ?_)
        refine wpAnyH_take (i := 0) (oi := ⟨some 17, _, _, _, _, _⟩) (v := ?_) rfl (by kernel_rfl) (by kernel_rfl) (by kernel_rfl) (fun _ _ _ h => h) (Or.inl ⟨by rfl, ?_⟩) (by assumption) ?_
        rotate_left 1
        · (intro W hSw; go_simp <;> with_reducible rfl)
        try simp only [Act.put, List.setIfInBounds_toArray, List.set_cons_zero, List.set_cons_succ]
        refine wpAnyH_take (i := 1) (oi := ⟨some 18, _, _, _, _, _⟩) (v := ?_) rfl (by kernel_rfl) (by kernel_rfl) (by kernel_rfl) (fun _ _ _ h => h) (Or.inl ⟨by rfl, ?_⟩) (by assumption) ?_
        rotate_left 1
        · (intro W hSw; go_simp <;> with_reducible rfl)
        try simp only [Act.put, List.setIfInBounds_toArray, List.set_cons_zero, List.set_cons_succ]
        refine wpAnyH_take (i := 2) (oi := ⟨some 19, _, _, _, _, _⟩) (v := ?_) rfl (by kernel_rfl) (by kernel_rfl) (by kernel_rfl) (fun _ _ _ h => h) (Or.inl ⟨by rfl, ?_⟩) (by assumption) ?_
        rotate_left 1
        · (intro W hSw; go_simp <;> with_reducible rfl)
        try simp only [Act.put, List.setIfInBounds_toArray, List.set_cons_zero, List.set_cons_succ]
        refine wpAnyH_take (i := 3) (oi := ⟨some 20, _, _, _, _, _⟩) (v := .agg (List.toArray (x.cs))) rfl (by kernel_rfl) (by kernel_rfl) (by kernel_rfl) (fun _ _ _ h => h) (yieldsIf_load_mid (by rfl) 32 (.tmp 19) rfl g (o + k * 3) rfl (x.cs) _ (fun W hW => hr W hW) Try.underlying32 rfl (load32 x)) (by assumption) ?_
        try simp only [Act.put, List.setIfInBounds_toArray, List.set_cons_zero, List.set_cons_succ]
        refine wpAnyH_take (i := 4) (oi := ⟨some 21, _, _, _, _, _⟩) (v := ?_) rfl (by kernel_rfl) (by kernel_rfl) (by kernel_rfl) (fun _ _ _ h => h) (Or.inl ⟨by rfl, ?_⟩) (by assumption) ?_
        rotate_left 1
        · (intro W hSw; go_simp <;> with_reducible rfl)
        try simp only [Act.put, List.setIfInBounds_toArray, List.set_cons_zero, List.set_cons_succ]
        refine wpAnyH_take (i := 5) (oi := ⟨some 22, _, _, _, _, _⟩) (v := ?_) rfl (by kernel_rfl) (by kernel_rfl) (by kernel_rfl) (fun _ _ _ h => h) (Or.inl ⟨by rfl, ?_⟩) (by assumption) ?_
        rotate_left 1
        · (intro W hSw; go_simp <;> with_reducible rfl)
        try simp only [Act.put, List.setIfInBounds_toArray, List.set_cons_zero, List.set_cons_succ]
        refine wpAnyH_take (i := 6) (oi := ⟨some 23, _, _, _, _, _⟩) (v := ?_) rfl (by kernel_rfl) (by kernel_rfl) (by kernel_rfl) (fun _ _ _ h => h) (Or.inl ⟨by rfl, ?_⟩) (by assumption) ?_
        rotate_left 1
        · (intro W hSw; go_simp <;> with_reducible rfl)
        try simp only [Act.put, List.setIfInBounds_toArray, List.set_cons_zero, List.set_cons_succ]
        refine wpAnyH_take (i := 7) (oi := ⟨some 24, _, _, _, _, _⟩) (v := .agg (List.toArray (y.cs))) rfl (by kernel_rfl) (by kernel_rfl) (by kernel_rfl) (fun _ _ _ h => h) (yieldsIf_load_mid (by rfl) 32 (.tmp 23) rfl g' (o' + k * 3) rfl (y.cs) _ (fun W hW => hr' W hW) Try.underlying32 rfl (load32 y)) (by assumption) ?_
        try simp only [Act.put, List.setIfInBounds_toArray, List.set_cons_zero, List.set_cons_succ]
        refine wpAnyH_take (i := 8) (oi := ⟨some 25, _, _, _, _, _⟩) (v := ?_) rfl (by kernel_rfl) (by kernel_rfl) (by kernel_rfl) (fun _ _ _ h => h) (Or.inl ⟨by rfl, ?_⟩) (by assumption) ?_
        rotate_left 1
        · (intro W hSw; go_simp <;> with_reducible rfl)
        try simp only [Act.put, List.setIfInBounds_toArray, List.set_cons_zero, List.set_cons_succ]
        refine wpAnyH_done (by kernel_rfl) ?_ _
        refine NoPanic.normal ?_
        obtain ⟨hx, hy, eM, hno, hb⟩ := HX.out
        have hb2 := stepB hb k0
        cases M with
        | true =>
          have e := of_decide_eq_true eM.symm
          have hno2 : ∀ i : Nat, i < k + 1 → l[i]? = m[i]? := fun i hi => by
            by_cases h : i = k
            · subst h
              rw [hx, hy, e]
            · exact hno i (by omega)
          have HR := Lib.hid (And.intro hno2 hb2)
          clear hx hy eM hno hb e hno2 hb2
          go_wp2
          go_roundw
          case rel => exact ⟨k + 1, by simp, by omega, HR.out.1, HR.out.2⟩
          case measure => simp [intOf]; omega
        | false =>
          have hR : R = false := by
            rw [HL.out.2.2]
            refine decide_eq_false fun e => ?_
            subst e
            rw [hx] at hy
            injection hy with hy
            exact of_decide_eq_false eM.symm hy
          have HR := Lib.hid (And.intro hR hb2)
          clear hx hy eM hno hb hR hb2
          go_wp2
          go_ret
          exact ⟨by rw [HR.out.1]; rfl, HR.out.2⟩
      · obtain rfl : k = n := by omega
        have t0 : decide ((k : Int) < (k : Int)) = false := decide_eq_false (by omega)
        have hR : R = true := by
          obtain ⟨h1, h2, h3⟩ := HL.out
          rw [h3]
          refine decide_eq_true (List.ext_getElem? fun i => ?_)
          by_cases hi : i < k
          · exact hno i hi
          · rw [List.getElem?_eq_none (by omega), List.getElem?_eq_none (by omega)]
        have HR := Lib.hid (And.intro hR hb)
        clear hno hb hR h h'
        go_wp2
        go_ret
        exact ⟨by rw [HR.out.1]; rfl, HR.out.2⟩
  · have hR : R = false := by
      rw [eR]
      refine decide_eq_false fun e => hnn ?_
      rw [← hl, ← hl', e]
    have t0 : ((n : Int) != (n' : Int)) = true := by simp; omega
    have HR := Lib.hid hR
    clear hR eR hl hl' h h' hnn
    go_enter Try.func18, Try.ntmps18
    go_wp2
    go_ret
    exact ⟨by rw [HR.out]; rfl, Below.refl _ _⟩
set_option maxRecDepth 100000 in
set_option maxHeartbeats 2000000 in
/-- By the library. -/
theorem equal_any {w : World} {A A' : Option Addr} {n n' cap cap' : Nat} {l m : List Pl} (h : SeesP w ⟨A, n, cap⟩ l) (h' : SeesP w ⟨A', n', cap'⟩ m) (hn : n ≤ 1000) (hn' : n' ≤ 1000) :
    Calls Try.prog 22 #[.slice A n cap, .slice A' n' cap'] w fun e w' => e = .returned (.bool (decide (l = m))) ∧ Below w.heap.size w w' := by
  have hl : l.length = n := h.len
  have hl' : m.length = n' := h'.len
  obtain ⟨R, eR⟩ : ∃ R, R = decide (l = m) := ⟨_, rfl⟩
  rw [← eR]
  by_cases hnn : n = n'
  · subst hnn
    have HL := Lib.hid (And.intro hl (And.intro hl' eR))
    have t0 : ((n : Int) != (n : Int)) = false := by simp
    clear hl hl' eR
    go_enter Try.func22, Try.ntmps22
    go_wp2_with fail
    go_loopw [5, 13] (fun _ v wr => ∃ k : Nat, v = .int .i64 k ∧ k ≤ n ∧ (∀ i : Nat, i < k → l[i]? = m[i]?) ∧ Below w.heap.size w wr) (fun _ v _ => n - (intOf v).toNat)
    case atStart => exact ⟨0, rfl, Nat.zero_le _, fun i hi => by omega, Below.refl _ _⟩
    case round =>
      obtain ⟨k, rfl, hk, hno, hb⟩ := hrel
      by_cases hlt : k < n
      · obtain ⟨x, hx⟩ : ∃ x, l[k]? = some x := ⟨_, List.getElem?_eq_getElem (by have := HL.out.1; omega)⟩
        obtain ⟨y, hy⟩ : ∃ x, m[k]? = some x := ⟨_, List.getElem?_eq_getElem (by have := HL.out.2.1; omega)⟩
        obtain ⟨g, o, hA, _⟩ := (h.on hb).at_ hx
        obtain ⟨g', o', hA', _⟩ := (h'.on hb).at_ hy
        have hA : A = some ⟨g, o, none⟩ := hA
        have hA' : A' = some ⟨g', o', none⟩ := hA'
        subst hA hA'
        have hr : ∀ W, Below wr.heap.size wr W → W.rangeAt g (o + k * 3) x.cs := fun W hW => range_of ((h.on hb).on hW) hx
        have hr' : ∀ W, Below wr.heap.size wr W → W.rangeAt g' (o' + k * 3) y.cs := fun W hW => range_of ((h'.on hb).on hW) hy
        have t0 : decide ((k : Int) < (n : Int)) = true := decide_eq_true (by omega)
        have hk1 : IntKind.i64.wrap ((k : Int) + 1) = ((k + 1 : Nat) : Int) := by rw [IntKind.wrap_i64]; omega
        have b0 : (0 : Int) ≤ (k : Int) := by omega
        have b1 : (k : Int) < (n : Int) := by omega
        have k0 : Below wr.heap.size wr wr.drew := (Below.refl _ wr).drew
        have hne := neq32 x y
        obtain ⟨M, eM⟩ : ∃ M, M = decide (x = y) := ⟨_, rfl⟩
        rw [← eM] at hne
        have HX := Lib.hid (And.intro hx (And.intro hy (And.intro eM (And.intro hno hb))))
        clear hx hy eM hno hb h h'
        go_wp2_with fail
        refine wp_region_noPanic ?_
        refine wp_region_held_drew (S := (fun W => Below wr.heap.size wr W)) (by kernel_rfl) k0 (fun hHeld => ?_)
        refine wpAnyH_take (i := 0) (oi := ⟨some 16, _, _, _, _, _⟩) (v := ?_) rfl (by kernel_rfl) (by kernel_rfl) (by kernel_rfl) (fun _ _ _ h => h) (Or.inl ⟨by rfl, ?_⟩) (by assumption) ?_
        rotate_left 1
        · (intro W hSw; go_simp <;> with_reducible rfl)
        try simp only [Act.put, List.setIfInBounds_toArray, List.set_cons_zero, List.set_cons_succ]
        refine wpAnyH_take (i := 1) (oi := ⟨some 17, _, _, _, _, _⟩) (v := ?_) rfl (by kernel_rfl) (by kernel_rfl) (by kernel_rfl) (fun _ _ _ h => h) (Or.inl ⟨by rfl, ?_⟩) (by assumption) ?_
        rotate_left 1
        · (intro W hSw; go_simp <;> with_reducible rfl)
        try simp only [Act.put, List.setIfInBounds_toArray, List.set_cons_zero, List.set_cons_succ]
        refine wpAnyH_take (i := 2) (oi := ⟨some 18, _, _, _, _, _⟩) (v := ?_) rfl (by kernel_rfl) (by kernel_rfl) (by kernel_rfl) (fun _ _ _ h => h) (Or.inl ⟨by rfl, ?_⟩) (by assumption) ?_
        rotate_left 1
        · (intro W hSw; go_simp <;> with_reducible rfl)
        try simp only [Act.put, List.setIfInBounds_toArray, List.set_cons_zero, List.set_cons_succ]
        refine wpAnyH_take (i := 3) (oi := ⟨some 19, _, _, _, _, _⟩) (v := .agg (List.toArray (x.cs))) rfl (by kernel_rfl) (by kernel_rfl) (by kernel_rfl) (fun _ _ _ h => h) (yieldsIf_load_mid (by rfl) 32 (.tmp 18) rfl g (o + k * 3) rfl (x.cs) _ (fun W hW => hr W hW) Try.underlying32 rfl (load32 x)) (by assumption) ?_
        try simp only [Act.put, List.setIfInBounds_toArray, List.set_cons_zero, List.set_cons_succ]
        refine wpAnyH_take (i := 4) (oi := ⟨some 20, _, _, _, _, _⟩) (v := ?_) rfl (by kernel_rfl) (by kernel_rfl) (by kernel_rfl) (fun _ _ _ h => h) (Or.inl ⟨by rfl, ?_⟩) (by assumption) ?_
        rotate_left 1
        · (intro W hSw; go_simp <;> with_reducible rfl)
        try simp only [Act.put, List.setIfInBounds_toArray, List.set_cons_zero, List.set_cons_succ]
        refine wpAnyH_take (i := 5) (oi := ⟨some 21, _, _, _, _, _⟩) (v := ?_) rfl (by kernel_rfl) (by kernel_rfl) (by kernel_rfl) (fun _ _ _ h => h) (Or.inl ⟨by rfl, ?_⟩) (by assumption) ?_
        rotate_left 1
        · (intro W hSw; go_simp <;> with_reducible rfl)
        try simp only [Act.put, List.setIfInBounds_toArray, List.set_cons_zero, List.set_cons_succ]
        refine wpAnyH_take (i := 6) (oi := ⟨some 22, _, _, _, _, _⟩) (v := ?_) rfl (by kernel_rfl) (by kernel_rfl) (by kernel_rfl) (fun _ _ _ h => h) (Or.inl ⟨by rfl, ?_⟩) (by assumption) ?_
        rotate_left 1
        · (intro W hSw; go_simp <;> with_reducible rfl)
        try simp only [Act.put, List.setIfInBounds_toArray, List.set_cons_zero, List.set_cons_succ]
        refine wpAnyH_take (i := 7) (oi := ⟨some 23, _, _, _, _, _⟩) (v := .agg (List.toArray (y.cs))) rfl (by kernel_rfl) (by kernel_rfl) (by kernel_rfl) (fun _ _ _ h => h) (yieldsIf_load_mid (by rfl) 32 (.tmp 22) rfl g' (o' + k * 3) rfl (y.cs) _ (fun W hW => hr' W hW) Try.underlying32 rfl (load32 y)) (by assumption) ?_
        try simp only [Act.put, List.setIfInBounds_toArray, List.set_cons_zero, List.set_cons_succ]
        refine wpAnyH_take (i := 8) (oi := ⟨some 24, _, _, _, _, _⟩) (v := ?_) rfl (by kernel_rfl) (by kernel_rfl) (by kernel_rfl) (fun _ _ _ h => h) (Or.inl ⟨by rfl, ?_⟩) (by assumption) ?_
        rotate_left 1
        · (intro W hSw; go_simp <;> with_reducible rfl)
        try simp only [Act.put, List.setIfInBounds_toArray, List.set_cons_zero, List.set_cons_succ]
        refine wpAnyH_done (by kernel_rfl) ?_ _
        refine NoPanic.normal ?_
        obtain ⟨hx, hy, eM, hno, hb⟩ := HX.out
        have hb2 := stepB hb k0
        cases M with
        | true =>
          have e := of_decide_eq_true eM.symm
          have hno2 : ∀ i : Nat, i < k + 1 → l[i]? = m[i]? := fun i hi => by
            by_cases h : i = k
            · subst h
              rw [hx, hy, e]
            · exact hno i (by omega)
          have HR := Lib.hid (And.intro hno2 hb2)
          clear hx hy eM hno hb e hno2 hb2
          go_wp2
          go_roundw
          case rel => exact ⟨k + 1, by simp, by omega, HR.out.1, HR.out.2⟩
          case measure => simp [intOf]; omega
        | false =>
          have hR : R = false := by
            rw [HL.out.2.2]
            refine decide_eq_false fun e => ?_
            subst e
            rw [hx] at hy
            injection hy with hy
            exact of_decide_eq_false eM.symm hy
          have HR := Lib.hid (And.intro hR hb2)
          clear hx hy eM hno hb hR hb2
          go_wp2
          go_ret
          exact ⟨by rw [HR.out.1]; rfl, HR.out.2⟩
      · obtain rfl : k = n := by omega
        have t0 : decide ((k : Int) < (k : Int)) = false := decide_eq_false (by omega)
        have hR : R = true := by
          obtain ⟨h1, h2, h3⟩ := HL.out
          rw [h3]
          refine decide_eq_true (List.ext_getElem? fun i => ?_)
          by_cases hi : i < k
          · exact hno i hi
          · rw [List.getElem?_eq_none (by omega), List.getElem?_eq_none (by omega)]
        have HR := Lib.hid (And.intro hR hb)
        clear hno hb hR h h'
        go_wp2
        go_ret
        exact ⟨by rw [HR.out.1]; rfl, HR.out.2⟩
  · have hR : R = false := by
      rw [eR]
      refine decide_eq_false fun e => hnn ?_
      rw [← hl, ← hl', e]
    have t0 : ((n : Int) != (n' : Int)) = true := by simp; omega
    have HR := Lib.hid hR
    clear hR eR hl hl' h h' hnn
    go_enter Try.func22, Try.ntmps22
    go_wp2
    go_ret
    exact ⟨by rw [HR.out]; rfl, Below.refl _ _⟩
end Go.Proofs.Ytmhogmhdgbdpbaa
