/- What an instruction's octets tell, and what may be: plain facts; the contract of Check over any instruction; the front of a slice of octets that came in. Conditions: the variable 'rows' lies as it is laid. -/
import Derived.Test.YtodklfjoeehinaaDoorChecks
import Derived.DataShut
namespace Go.Proofs.YtodklfjoeehinaaDoor
open Go.RowKit

theorem shapes_four (k : Nat) (h1 : 1 ≤ k) (h2 : k ≤ 25) : (shapeAt k).length = 4 :=
  (by decide : ∀ k, k < 26 → 1 ≤ k → (shapeAt k).length = 4) k (by omega) h1
/-- Of an instruction's A, B and C the letter is never n. -/
theorem shapes_abc (k : Nat) (h1 : 1 ≤ k) (h2 : k ≤ 25) : ∀ i, i < 3 → (shapeAt k).getD i 0 ≠ 110 :=
  (by decide +kernel : ∀ k, k < 26 → 1 ≤ k → ∀ i, i < 3 → (shapeAt k).getD i 0 ≠ 110) k (by omega) h1
theorem shape_cases (o : Int) : (isOp o = false ∧ shapeZ o = []) ∨ (isOp o = true ∧ ∃ k l0 l1 l2 l3, 1 ≤ k ∧ k ≤ 25 ∧ shapeZ o = shapeAt k ∧ shapeAt k = [l0, l1, l2, l3]) := by
  cases ho : isOp o with
  | false => exact .inl ⟨rfl, by simp [shapeZ, ho]⟩
  | true =>
    have hb : 1 ≤ o ∧ o ≤ 25 := of_decide_eq_true ho
    have h4 := shapes_four o.toNat (by omega) (by omega)
    have e : shapeZ o = shapeAt o.toNat := by simp [shapeZ, ho]
    match hs : shapeAt o.toNat, h4 with
    | [l0, l1, l2, l3], _ => exact .inr ⟨rfl, o.toNat, l0, l1, l2, l3, by omega, by omega, e, hs⟩
theorem check_any (o a b c n r q s k : Int) (A : Option Addr) (l m : Nat) (w : World) (hL : Laid w) :
    Calls Tryd.prog 59 #[.agg #[.int .i64 o, .int .i64 a, .int .i64 b, .int .i64 c, .int .i64 n], .agg #[.int .i64 r, .int .i64 q, .int .i64 s, .slice A l m], .int .i64 k] w
      fun e w' => e = .returned (.int .i64 (chk o a b c n r s k)) ∧ Below w.heap.size w w' := by
  unfold chk
  rcases shape_cases o with ⟨_, h⟩ | ⟨_, i, l0, l1, l2, l3, _, _, h, h4⟩
  · rw [h]
    exact check_none o a b c n r q s k A l m w hL h
  · rw [h, h4]
    exact check_some o a b c n r q s k l0 l1 l2 l3 A l m w hL (h.trans h4)

/-! ### octets -/
/-! ### a slice of octets that came in -/
end Go.Proofs.YtodklfjoeehinaaDoor
