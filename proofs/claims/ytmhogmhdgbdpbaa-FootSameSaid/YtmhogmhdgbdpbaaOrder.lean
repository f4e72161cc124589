/- Whether places stand in order. Conditions: at most 1000 places. -/
import Derived.Test.YtmhogmhdgbdpbaaUnion
namespace Go.Proofs.Ytmhogmhdgbdpbaa
open Go.ChangeShapes Go.WideShapes Go.RowKit

/-- From so many on none falls behind the one ahead of it. -/
def Falls (l : List Pl) (i : Int) : Prop := ∀ (k : Nat) (x y : Pl), i < (k : Int) + 1 → l[k + 1]? = some x → l[k]? = some y → ¬ Less x y
theorem falls_sorted {l : List Pl} {i : Int} (hi : i ≤ 0) (h : Falls l i) : SortedP l := by
  have key : ∀ d (i : Nat) (x y : Pl), l[i]? = some x → l[i + 1 + d]? = some y → ¬ Less y x := by
    intro d
    induction d with
    | zero => exact fun i x y hx hy => h i y x (by omega) hy hx
    | succ d ih =>
      intro i x y hx hy hyx
      obtain ⟨z, hz⟩ : ∃ z, l[i + 1 + d]? = some z := ⟨_, List.getElem?_eq_getElem (by have := (List.getElem?_eq_some_iff.1 hy).1; omega)⟩
      have h1 := ih i x z hx hz
      have h2 := h (i + 1 + d) y z (by omega) (by rw [← hy]; congr 1) hz
      rcases Less.total x z with e | e | e
      · exact h2 (hyx.trans e)
      · subst e
        exact h2 hyx
      · exact h1 e
  intro i j x y hij hx hy
  obtain ⟨d, rfl⟩ : ∃ d, j = i + 1 + d := ⟨j - i - 1, by omega⟩
  exact key d i x y hx hy
set_option maxRecDepth 100000 in
set_option maxHeartbeats 2000000 in
theorem sorted_any {w : World} {A : Option Addr} {n cap : Nat} {l : List Pl} (h : SeesP w ⟨A, n, cap⟩ l) (hn : n ≤ 1000) :
    Calls Try.prog 36 #[.slice A n cap, .func (.func 25) #[] #[]] w fun e w' => ∃ b, e = .returned (.bool b) ∧ (b = true → SortedP l) ∧ Below w.heap.size w w' := by
  have hl : l.length = n := h.len
  have HL := Lib.hid hl
  have hw0 : IntKind.i64.wrap ((n : Int) - 1) = (n : Int) - 1 := by rw [IntKind.wrap_i64]; omega
  have hstart : Falls l ((n : Int) - 1) := fun k x y hk hx _ => by
    have := (List.getElem?_eq_some_iff.1 hx).1
    omega
  clear hl
  go_enter Try.func36, Try.ntmps36
  go_wp2_with fail
  go_loopw [5] (fun v wr => ∃ i : Int, v = .int .i64 i ∧ -1 ≤ i ∧ i < n ∧ Falls l i ∧ Below w.heap.size w wr) (fun v _ => (intOf v + 1).toNat)
  case atStart => exact ⟨(n : Int) - 1, rfl, by omega, by omega, hstart, Below.refl _ _⟩
  case round =>
    obtain ⟨i, rfl, hi1, hi2, hf, hb⟩ := hrel
    clear hstart hw0
    by_cases hlt : 0 < i
    · obtain ⟨k, rfl⟩ : ∃ k : Nat, i = (k : Int) := ⟨i.toNat, by omega⟩
      obtain ⟨q, hq⟩ : ∃ q : Nat, k = q + 1 := ⟨k - 1, by omega⟩
      obtain ⟨x, hx⟩ : ∃ x, l[k]? = some x := ⟨_, List.getElem?_eq_getElem (by have := HL.out; omega)⟩
      obtain ⟨y, hy⟩ : ∃ x, l[q]? = some x := ⟨_, List.getElem?_eq_getElem (by have := HL.out; omega)⟩
      obtain ⟨g, o, hA, _⟩ := (h.on hb).at_ hx
      have hA : A = some ⟨g, o, none⟩ := hA
      subst hA
      have hr : ∀ W, Below wr.heap.size wr W → W.rangeAt g (o + k * 3) x.cs := fun W hW => by
        obtain ⟨g', o', e, h2⟩ := ((h.on hb).on hW).at_ hx
        injection e with e
        injection e with e1 e2
        subst e1 e2
        exact h2
      have hr' : ∀ W, Below wr.heap.size wr W → W.rangeAt g (o + q * 3) y.cs := fun W hW => by
        obtain ⟨g', o', e, h2⟩ := ((h.on hb).on hW).at_ hy
        injection e with e
        injection e with e1 e2
        subst e1 e2
        exact h2
      have t0 : decide (0 < (k : Int)) = true := decide_eq_true hlt
      have hkp : (k : Int) - 1 = (q : Int) := by omega
      have hwp : IntKind.i64.wrap (q : Int) = (q : Int) := by rw [IntKind.wrap_i64]; omega
      have b1 : (0 : Int) ≤ (k : Int) := by omega
      have b2 : (k : Int) < (n : Int) := by omega
      have b3 : (0 : Int) ≤ (q : Int) := by omega
      have b4 : (q : Int) < (n : Int) := by omega
      have k0 : Below wr.heap.size wr wr.drew := (Below.refl _ wr).drew
      have hcmp := fun W => compare_any x y W
      obtain ⟨M, eM⟩ : ∃ M, M = cmpP x y := ⟨_, rfl⟩
      rw [← eM] at hcmp
      have HX := Lib.hid (And.intro hq (And.intro hx (And.intro hy (And.intro eM (And.intro hf hb)))))
      clear hq hx hy eM hf hb h hlt
      go_wp2_with fail
      refine wp_region_noPanic ?_
      refine wp_region_held_drew (S := (fun W => Below wr.heap.size wr W)) (by kernel_rfl) k0 (fun hHeld => ?_)
      refine wpAnyH_take (i := 0) (oi := ⟨some 13, _, _, _, _, _⟩) (v := ?_) rfl (by kernel_rfl) (by kernel_rfl) (by kernel_rfl) (fun _ _ _ h => h) (Or.inl ⟨by rfl, ?_⟩) (by assumption) ?_
      rotate_left 1
      · (intro W hSw; go_simp <;> with_reducible rfl)
      try simp only [Act.put, List.setIfInBounds_toArray, List.set_cons_zero, List.set_cons_succ]
      refine wpAnyH_take (i := 1) (oi := ⟨some 14, _, _, _, _, _⟩) (v := ?_) rfl (by kernel_rfl) (by kernel_rfl) (by kernel_rfl) (fun _ _ _ h => h) (Or.inl ⟨by rfl, ?_⟩) (by assumption) ?_
      rotate_left 1
      · (intro W hSw; go_simp <;> with_reducible rfl)
      try simp only [Act.put, List.setIfInBounds_toArray, List.set_cons_zero, List.set_cons_succ]
      refine wpAnyH_take (i := 2) (oi := ⟨some 15, _, _, _, _, _⟩) (v := ?_) rfl (by kernel_rfl) (by kernel_rfl) (by kernel_rfl) (fun _ _ _ h => h) (Or.inl ⟨by rfl, ?_⟩) (by assumption) ?_
      rotate_left 1
      · (intro W hSw; go_simp <;> with_reducible rfl)
      try simp only [Act.put, List.setIfInBounds_toArray, List.set_cons_zero, List.set_cons_succ]
      refine wpAnyH_take (i := 3) (oi := ⟨some 16, _, _, _, _, _⟩) (v := ?_) rfl (by kernel_rfl) (by kernel_rfl) (by kernel_rfl) (fun _ _ _ h => h) (Or.inl ⟨by rfl, ?_⟩) (by assumption) ?_
      rotate_left 1
      · (intro W hSw; go_simp <;> with_reducible rfl)
      try simp only [Act.put, List.setIfInBounds_toArray, List.set_cons_zero, List.set_cons_succ]
      refine wpAnyH_take (i := 4) (oi := ⟨some 17, _, _, _, _, _⟩) (v := .agg (List.toArray (x.cs))) rfl (by kernel_rfl) (by kernel_rfl) (by kernel_rfl) (fun _ _ _ h => h) (yieldsIf_load_mid (by rfl) 32 (.tmp 16) rfl g (o + k * 3) rfl (x.cs) _ (fun W hW => hr W hW) Try.underlying32 rfl (load32 x)) (by assumption) ?_
      try simp only [Act.put, List.setIfInBounds_toArray, List.set_cons_zero, List.set_cons_succ]
      refine wpAnyH_take (i := 5) (oi := ⟨some 18, _, _, _, _, _⟩) (v := ?_) rfl (by kernel_rfl) (by kernel_rfl) (by kernel_rfl) (fun _ _ _ h => h) (Or.inl ⟨by rfl, ?_⟩) (by assumption) ?_
      rotate_left 1
      · (intro W hSw; go_simp <;> with_reducible rfl)
      try simp only [Act.put, List.setIfInBounds_toArray, List.set_cons_zero, List.set_cons_succ]
      refine wpAnyH_take (i := 6) (oi := ⟨some 19, _, _, _, _, _⟩) (v := ?_) rfl (by kernel_rfl) (by kernel_rfl) (by kernel_rfl) (fun _ _ _ h => h) (Or.inl ⟨by rfl, ?_⟩) (by assumption) ?_
      rotate_left 1
      · (intro W hSw; go_simp <;> with_reducible rfl)
      try simp only [Act.put, List.setIfInBounds_toArray, List.set_cons_zero, List.set_cons_succ]
      refine wpAnyH_take (i := 7) (oi := ⟨some 20, _, _, _, _, _⟩) (v := ?_) rfl (by kernel_rfl) (by kernel_rfl) (by kernel_rfl) (fun _ _ _ h => h) (Or.inl ⟨by rfl, ?_⟩) (by assumption) ?_
      rotate_left 1
      · (intro W hSw; go_simp <;> with_reducible rfl)
      try simp only [Act.put, List.setIfInBounds_toArray, List.set_cons_zero, List.set_cons_succ]
      refine wpAnyH_take (i := 8) (oi := ⟨some 21, _, _, _, _, _⟩) (v := ?_) rfl (by kernel_rfl) (by kernel_rfl) (by kernel_rfl) (fun _ _ _ h => h) (Or.inl ⟨by rfl, ?_⟩) (by assumption) ?_
      rotate_left 1
      · (intro W hSw; go_simp <;> with_reducible rfl)
      try simp only [Act.put, List.setIfInBounds_toArray, List.set_cons_zero, List.set_cons_succ]
      refine wpAnyH_take (i := 9) (oi := ⟨some 22, _, _, _, _, _⟩) (v := .agg (List.toArray (y.cs))) rfl (by kernel_rfl) (by kernel_rfl) (by kernel_rfl) (fun _ _ _ h => h) (yieldsIf_load_mid (by rfl) 32 (.tmp 21) rfl g (o + q * 3) rfl (y.cs) _ (fun W hW => hr' W hW) Try.underlying32 rfl (load32 y)) (by assumption) ?_
      try simp only [Act.put, List.setIfInBounds_toArray, List.set_cons_zero, List.set_cons_succ]
      refine wpAnyH_ready (rs := [10]) (by kernel_rfl) (by simp) ?_
      refine AllReadyH.cons rfl (fun K hK => ?_) AllReadyH.nil
      go_simp
      refine (hcmp _).mono ?_
      rintro e w' ⟨rfl, hg⟩
      have hbk : Below wr.heap.size wr w' := k0.trans (hg.below.mono k0.size)
      refine hK.out _ _ hbk (fun hHeld1 => ?_)
      clear hHeld hK K
      try simp only [Act.put, List.setIfInBounds_toArray, List.set_cons_zero, List.set_cons_succ]
      refine wpAnyH_take (i := 11) (oi := ⟨some 24, _, _, _, _, _⟩) (v := ?_) rfl (by kernel_rfl) (by kernel_rfl) (by kernel_rfl) (fun _ _ _ h => h) (Or.inl ⟨by rfl, ?_⟩) (by assumption) ?_
      rotate_left 1
      · (intro W hSw; go_simp <;> with_reducible rfl)
      try simp only [Act.put, List.setIfInBounds_toArray, List.set_cons_zero, List.set_cons_succ]
      refine wpAnyH_done (by kernel_rfl) ?_ _
      refine NoPanic.normal ?_
      obtain ⟨hq, hx, hy, eM, hf, hb⟩ := HX.out
      have hb2 := hb.trans (hbk.mono hb.size)
      by_cases hM : M < 0
      · have t1 : decide (M < 0) = true := decide_eq_true hM
        have HB := Lib.hid hb2
        clear hq hx hy eM hf hb hb2
        go_wp2
        go_ret
        exact ⟨false, rfl, fun h => (by cases h), HB.out⟩
      · have t1 : decide (M < 0) = false := decide_eq_false hM
        have hf2 : Falls l (q : Int) := fun k' a b h1 h2 h3 => by
          by_cases e : k' = q
          · subst e
            rw [← hq, hx] at h2
            rw [hy] at h3
            injection h2 with h2
            injection h3 with h3
            subst h2 h3
            rw [← cmpP_neg, ← eM]
            exact hM
          · exact hf k' a b (by omega) h2 h3
        have HB := Lib.hid (And.intro hb2 (And.intro hf2 hq))
        clear hq hx hy eM hf hb hb2 hf2
        go_wp2
        go_roundw
        case rel => exact ⟨(q : Int), rfl, by omega, by omega, HB.out.2.1, HB.out.1⟩
        case measure => simp [intOf]; omega
    · have t0 : decide (0 < i) = false := decide_eq_false hlt
      have hs := falls_sorted (by omega) hf
      have HS := Lib.hid (And.intro hs hb)
      clear hs hb hf h
      go_wp2
      go_ret
      first | exact ⟨true, rfl, fun _ => HS.out.1, HS.out.2⟩ | exact .inr ⟨rfl, HS.out.1, HS.out.2⟩
end Go.Proofs.Ytmhogmhdgbdpbaa
