/- What the calls answer, feet as the laws hold them. Conditions: none. -/
import Derived.Test.YtmhogmhdgbdpbaaLawC
namespace Go.Proofs.Ytmhogmhdgbdpbaa
open Go.ChangeShapes Go.WideShapes Go.RowKit

section
variable {w : World} {A B C D : Option Addr} {n m k j a b c d : Nat} {R X Q Y : List Pl}
theorem norm_lit (h : Foot w ⟨⟨A, n, a⟩, ⟨B, m, b⟩⟩ R X) (h1 : n ≤ 24) (h2 : m ≤ 24) :
    Calls Try.prog 13 #[.agg #[.slice A n a, .slice B m b]] w fun e w' => ∃ A' n' a' B' m' b', e = .returned (.agg #[.slice A' n' a', .slice B' m' b']) ∧ (Foot w' ⟨⟨A', n', a'⟩, ⟨B', m', b'⟩⟩ (normP R) (normP X)) ∧ (n' ≤ 24 ∧ m' ≤ 24) ∧ Below w.heap.size w w' := by
  refine (norm_any h (by simp only; omega) (by simp only; omega)).mono ?_
  rintro e w' ⟨⟨⟨A', n', a'⟩, ⟨B', m', b'⟩⟩, rfl, hF, hb⟩
  have l1 : R.length = n := h.r.len
  have l2 : X.length = m := h.w.len
  have l3 : (normP R).length = n' := hF.r.len
  have l4 : (normP X).length = m' := hF.w.len
  have l5 := normP_len R
  have l6 := normP_len X
  exact ⟨A', n', a', B', m', b', rfl, hF, ⟨by omega, by omega⟩, hb⟩
theorem both_lit (h : Foot w ⟨⟨A, n, a⟩, ⟨B, m, b⟩⟩ R X) (h' : Foot w ⟨⟨C, k, c⟩, ⟨D, j, d⟩⟩ Q Y) (h1 : n ≤ 12) (h2 : m ≤ 12) (h3 : k ≤ 12) (h4 : j ≤ 12) :
    Calls Try.prog 9 #[.agg #[.slice A n a, .slice B m b], .agg #[.slice C k c, .slice D j d]] w fun e w' => ∃ A' n' a' B' m' b', e = .returned (.agg #[.slice A' n' a', .slice B' m' b']) ∧ (Foot w' ⟨⟨A', n', a'⟩, ⟨B', m', b'⟩⟩ (R ++ Q) (X ++ Y)) ∧ (n' ≤ 24 ∧ m' ≤ 24) ∧ Below w.heap.size w w' := by
  refine (both_any h h' (by simp only; omega) (by simp only; omega) (by simp only; omega) (by simp only; omega)).mono ?_
  rintro e w' ⟨⟨⟨A', n', a'⟩, ⟨B', m', b'⟩⟩, rfl, hF, hb⟩
  have l1 : R.length = n := h.r.len
  have l2 : X.length = m := h.w.len
  have l3 : Q.length = k := h'.r.len
  have l4 : Y.length = j := h'.w.len
  have l5 : (R ++ Q).length = n' := hF.r.len
  have l6 : (X ++ Y).length = m' := hF.w.len
  rw [List.length_append] at l5 l6
  exact ⟨A', n', a', B', m', b', rfl, hF, ⟨by omega, by omega⟩, hb⟩
theorem join_lit (h : Foot w ⟨⟨A, n, a⟩, ⟨B, m, b⟩⟩ R X) (h' : Foot w ⟨⟨C, k, c⟩, ⟨D, j, d⟩⟩ Q Y) (h1 : n ≤ 12) (h2 : m ≤ 12) (h3 : k ≤ 12) (h4 : j ≤ 12) :
    Calls Try.prog 11 #[.agg #[.slice A n a, .slice B m b], .agg #[.slice C k c, .slice D j d]] w fun e w' => ∃ A' n' a' B' m' b', e = .returned (.agg #[.slice A' n' a', .slice B' m' b']) ∧ (Foot w' ⟨⟨A', n', a'⟩, ⟨B', m', b'⟩⟩ (normP (R ++ Q)) (normP (X ++ Y))) ∧ (n' ≤ 24 ∧ m' ≤ 24) ∧ Below w.heap.size w w' := by
  refine (join_any h h' (by simp only; omega) (by simp only; omega) (by simp only; omega) (by simp only; omega)).mono ?_
  rintro e w' ⟨⟨⟨A', n', a'⟩, ⟨B', m', b'⟩⟩, rfl, hF, hb⟩
  have l1 : R.length = n := h.r.len
  have l2 : X.length = m := h.w.len
  have l3 : Q.length = k := h'.r.len
  have l4 : Y.length = j := h'.w.len
  have l5 : (normP (R ++ Q)).length = n' := hF.r.len
  have l6 : (normP (X ++ Y)).length = m' := hF.w.len
  have l7 := normP_len (R ++ Q)
  have l8 := normP_len (X ++ Y)
  rw [List.length_append] at l7 l8
  exact ⟨A', n', a', B', m', b', rfl, hF, ⟨by omega, by omega⟩, hb⟩
theorem of_lit2 (h : Foot w ⟨⟨A, n, a⟩, ⟨B, m, b⟩⟩ R X) (h1 : n ≤ 12) (h2 : m ≤ 12) :
    Calls Try.prog 10 #[.slice A n a, .slice B m b] w fun e w' => ∃ A' n' a' B' m' b', e = .returned (.agg #[.slice A' n' a', .slice B' m' b']) ∧ (Foot w' ⟨⟨A', n', a'⟩, ⟨B', m', b'⟩⟩ (normP R) (normP X)) ∧ (n' ≤ 24 ∧ m' ≤ 24) ∧ Below w.heap.size w w' := by
  refine (of_any h.r h.w (by omega) (by omega)).mono ?_
  rintro e w' ⟨⟨⟨A', n', a'⟩, ⟨B', m', b'⟩⟩, rfl, hF, hb⟩
  have l1 : R.length = n := h.r.len
  have l2 : X.length = m := h.w.len
  have l3 : (normP R).length = n' := hF.r.len
  have l4 : (normP X).length = m' := hF.w.len
  have l5 := normP_len R
  have l6 := normP_len X
  exact ⟨A', n', a', B', m', b', rfl, hF, ⟨by omega, by omega⟩, hb⟩
theorem same_lit {T : Bool} (h : Foot w ⟨⟨A, n, a⟩, ⟨B, m, b⟩⟩ R X) (h' : Foot w ⟨⟨C, k, c⟩, ⟨D, j, d⟩⟩ Q Y) (h1 : n ≤ 24) (h2 : m ≤ 24) (h3 : k ≤ 24) (h4 : j ≤ 24) (eT : T = (decide (normP R = normP Q) && decide (normP X = normP Y))) :
    Calls Try.prog 16 #[.agg #[.slice A n a, .slice B m b], .agg #[.slice C k c, .slice D j d]] w fun e w' => e = .returned (.bool T) ∧ Below w.heap.size w w' := by
  refine (same_any h h' (by simp only; omega) (by simp only; omega) (by simp only; omega) (by simp only; omega)).mono ?_
  rintro e w' ⟨rfl, hb⟩
  exact ⟨by rw [eT], hb⟩
theorem foot_lit {T : Bool} (h : Foot w ⟨⟨A, n, a⟩, ⟨B, m, b⟩⟩ R X) (h' : Foot w ⟨⟨C, k, c⟩, ⟨D, j, d⟩⟩ Q Y) (h1 : n ≤ 24 ∧ m ≤ 24) (h3 : k ≤ 24 ∧ j ≤ 24) (eT : T = (decide (R = Q) && decide (X = Y))) :
    Calls Try.prog 12 #[.agg #[.slice A n a, .slice B m b], .agg #[.slice C k c, .slice D j d]] w fun e w' => e = .returned (.bool T) ∧ Below w.heap.size w w' := by
  refine (plainfoot_any h h' (by simp only; omega) (by simp only; omega) (by simp only; omega) (by simp only; omega)).mono ?_
  rintro e w' ⟨rfl, hb⟩
  exact ⟨by rw [eT], hb⟩
theorem clash_lit {T : Bool} (h : Foot w ⟨⟨A, n, a⟩, ⟨B, m, b⟩⟩ R X) (h' : Foot w ⟨⟨C, k, c⟩, ⟨D, j, d⟩⟩ Q Y) (h1 : n ≤ 24 ∧ m ≤ 24) (h3 : k ≤ 24 ∧ j ≤ 24) (eT : T = clashP R X Q Y) :
    Calls Try.prog 15 #[.agg #[.slice A n a, .slice B m b], .agg #[.slice C k c, .slice D j d]] w fun e w' => e = .returned (.bool T) ∧ Below w.heap.size w w' := by
  refine (clash_any h h' ⟨by simp only; omega, by simp only; omega⟩ ⟨by simp only; omega, by simp only; omega⟩).mono ?_
  rintro e w' ⟨rfl, hb⟩
  exact ⟨by rw [eT], hb⟩
end
end Go.Proofs.Ytmhogmhdgbdpbaa
