/- The walk of ShowInstrs. Conditions: the variables lie as they are laid; operands of 64 bits. -/
import Derived.Test.YtlgkldfeiakehaaDoorCount
namespace Go.Proofs.YtlgkldfeiakehaaDoor
open Go.RowKit Nine
set_option linter.unusedSimpArgs false

theorem nameAt_some (k : Nat) (h1 : 1 ≤ k) (h2 : k ≤ 25) : nameAt k ≠ [] :=
  (by decide +kernel : ∀ k, k < 26 → 1 ≤ k → nameAt k ≠ []) k (by omega) h1
theorem isOp_cases (o : Int) : (isOp o = false ∧ shapeZ o = [] ∧ nameZ o = []) ∨ (isOp o = true ∧ (shapeZ o).length = 4 ∧ nameZ o ≠ []) := by
  cases ho : isOp o with
  | false => exact .inl ⟨rfl, by simp [shapeZ, ho], by simp [nameZ, ho]⟩
  | true =>
    have hb : 1 ≤ o ∧ o ≤ 25 := of_decide_eq_true ho
    exact .inr ⟨rfl, by simp only [shapeZ, ho, if_true]; exact shapes_four o.toNat (by omega) (by omega), by simp only [nameZ, ho, if_true]; exact nameAt_some o.toNat (by omega) (by omega)⟩
theorem empty_no {l : List UInt8} (h : l ≠ []) : (txt l).toList.isEmpty = false := by
  rw [toList_txt]
  cases l with
  | nil => exact absurd rfl h
  | cons x l => rfl
set_option maxRecDepth 100000 in
set_option maxHeartbeats 2000000 in
theorem instrs_any (o a b c n : Int) (ha : Wide a) (hb : Wide b) (hc : Wide c) (hn : Wide n) (w : World) (hL : Laid w) :
    Calls Tryd.prog 3 #[.agg #[.int .i64 o, .int .i64 a, .int .i64 b, .int .i64 c, .int .i64 n]] w fun e w' => e = .returned (.bool true) ∧ Below w.heap.size w w' := by
  obtain ⟨W0, eW0⟩ : ∃ W0, W0 = w.alloc (.cells #[.int .i64 o, .int .i64 a, .int .i64 b, .int .i64 c, .int .i64 n] 23) := ⟨_, rfl⟩
  have b0 : Below w.heap.size w W0 := by rw [eW0]; exact (Below.refl _ w).alloc (Nat.le_refl _) _
  have h0 : At5 W0 w.heap.size o a b c n := by rw [eW0]; exact At5.new w o a b c n
  have hA := alive_any W0 (hL.on b0)
  go_enter Tryd.func3, Tryd.ntmps3
  go_wp2_with fail
  rw [← eW0]
  clear eW0
  go_wp2_with fail
  refine hA.mono ?_
  rintro e w1 ⟨rfl, hb1⟩
  have h1 := h0.on hb1
  have q1 := b0.trans (hb1.mono b0.size)
  obtain ⟨d0, d1, d2, d3, d4⟩ := id h1
  clear h0 b0 hb1 hA
  rcases isOp_cases o with ⟨_, hs, hm⟩ | ⟨_, h4, hm⟩
  · have te : (txt []).toList.isEmpty = true := by rw [toList_txt]; rfl
    go_wp2_with fail
    refine (show_none o a b c n _ (hL.on q1) hs).mono ?_
    rintro e w2 ⟨rfl, hb2⟩
    have h2 := h1.on hb2
    have q2 := q1.trans (hb2.mono q1.size)
    clear d0 d1 d2 d3 d4
    obtain ⟨d0, d1, d2, d3, d4⟩ := id h2
    have hR := refname_any o w2
    rw [hm] at hR
    go_wp2_with fail
    refine hR.mono ?_
    rintro e w3 ⟨rfl, hb3⟩
    go_wp2
    go_ret
    exact ⟨by simp, q2.trans (hb3.mono q2.size)⟩
  · have te := empty_no hm
    go_wp2_with fail
    refine (show_some o a b c n ha hb hc hn _ (hL.on q1) h4).mono ?_
    rintro e w2 ⟨rfl, hb2⟩
    have h2 := h1.on hb2
    have q2 := q1.trans (hb2.mono q1.size)
    clear d0 d1 d2 d3 d4
    obtain ⟨d0, d1, d2, d3, d4⟩ := id h2
    go_wp2_with fail
    refine (refname_any o _).mono ?_
    rintro e w3 ⟨rfl, hb3⟩
    have h3 := h2.on hb3
    have q3 := q2.trans (hb3.mono q2.size)
    clear d0 d1 d2 d3 d4
    obtain ⟨d0, d1, d2, d3, d4⟩ := id h3
    go_wp2_with fail
    refine (refline_any o a b c n ha hb hc hn _ h4).mono ?_
    rintro e w4 ⟨rfl, hb4⟩
    go_wp2
    go_ret
    exact ⟨by simp, q3.trans (hb4.mono q3.size)⟩
end Go.Proofs.YtlgkldfeiakehaaDoor
