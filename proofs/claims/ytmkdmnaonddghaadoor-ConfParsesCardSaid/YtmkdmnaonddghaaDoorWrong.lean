/- Where octets are wrong first, and what is: plainly. Conditions: none. -/
import Derived.Test.YtmkdmnaonddghaaDoorCtake
namespace Go.Proofs.YtmkdmnaonddghaaDoor
open Go.RowKit

def badAt (xs : List Int) (k : Nat) : Option (Int × Int) := if xs.length ≤ k then some (xs.length, 1) else if inB (xs.getD k 0) (leastAt k) (mostAt k) then none else some (k, 3)
def badK (xs : List Int) : Nat → Option (Int × Int)
  | 0 => none
  | k + 1 => (badK xs k).or (badAt xs k)
theorem badK_stays {xs : List Int} {x : Int × Int} : ∀ (k j : Nat), badK xs k = some x → badK xs (k + j) = some x
  | _, 0, h => h
  | k, j + 1, h => by
    show (badK xs (k + j)).or _ = _
    rw [badK_stays k j h]
    rfl
theorem badK_some {xs : List Int} {x : Int × Int} {k : Nat} (h : badK xs k = none) (hk : badAt xs k = some x) (h6 : k < 6) : badK xs 6 = some x := by
  have h1 : badK xs (k + 1) = some x := by show (badK xs k).or _ = _; rw [h, hk]; rfl
  have := badK_stays (k + 1) (6 - (k + 1)) h1
  rwa [show k + 1 + (6 - (k + 1)) = 6 by omega] at this
theorem badK_none {xs : List Int} {k : Nat} (h : badK xs k = none) (hk : badAt xs k = none) : badK xs (k + 1) = none := by
  show (badK xs k).or _ = _
  rw [h, hk]
  rfl
theorem badK_all {xs : List Int} : ∀ {k : Nat}, badK xs k = none → ∀ j, j < k → badAt xs j = none
  | 0, _, j, hj => by omega
  | k + 1, h, j, hj => by
    have h1 : badK xs k = none ∧ badAt xs k = none := by
      have : (badK xs k).or (badAt xs k) = none := h
      simpa using this
    rcases Nat.lt_or_ge j k with hl | hl
    · exact badK_all h1.1 j hl
    · obtain rfl : j = k := by omega
      exact h1.2
/-- Behind the first six. -/
def restL14 (xs : List Int) : Int × Int :=
  if xs.length < 9 then (xs.length, 1) else if 1048576 < vAt xs 6 3 then (6, 3) else if xs.length < 10 ∨ 1 < xs.getD 9 0 then (9, 1) else if 10 < xs.length then (10, 1) else (10, 0)
def wrongL (xs : List Int) : Int × Int := (badK xs 6).getD (restL14 xs)
theorem wrong_some {xs : List Int} {x : Int × Int} {k : Nat} (h : badK xs k = none) (hk : badAt xs k = some x) (h6 : k < 6) : wrongL xs = x := by
  unfold wrongL
  rw [badK_some h hk h6]
  rfl
theorem wrong_rest {xs : List Int} (h : badK xs 6 = none) : wrongL xs = restL14 xs := by
  unfold wrongL
  rw [h]
  rfl
theorem vAt_one {xs : List Int} (hs : Small xs) (a : Nat) (h : a + 1 ≤ xs.length) : vAt xs a 1 = xs.getD a 0 := by
  have e1 : (xs.drop a).take 1 = [xs.getD a 0] := by
    rw [List.drop_eq_getElem_cons (by omega), List.take_succ_cons, List.take_zero]
    simp [List.getD, show a < xs.length by omega]
  have hb := hs.at_ a
  have e2 : xs[a]?.getD 0 = xs.getD a 0 := rfl
  rw [e2] at hb
  unfold vAt
  rw [e1]
  generalize xs.getD a 0 = x at *
  simp only [val, List.foldl_cons, List.foldl_nil]
  unfold wrap64
  omega
theorem vAt_three {xs : List Int} (hs : Small xs) (h : 9 ≤ xs.length) : vAt xs 6 3 = (xs.getD 6 0 * 256 + xs.getD 7 0) * 256 + xs.getD 8 0 ∧ 0 ≤ vAt xs 6 3 := by
  have e1 : (xs.drop 6).take 3 = [xs.getD 6 0, xs.getD 7 0, xs.getD 8 0] := by
    rw [List.drop_eq_getElem_cons (by omega), List.take_succ_cons, List.drop_eq_getElem_cons (by omega), List.take_succ_cons, List.drop_eq_getElem_cons (by omega), List.take_succ_cons, List.take_zero]
    simp [List.getD, show 6 < xs.length by omega, show 7 < xs.length by omega, show 8 < xs.length by omega]
  have b6 : 0 ≤ xs.getD 6 0 ∧ xs.getD 6 0 ≤ 255 := hs.at_ 6
  have b7 : 0 ≤ xs.getD 7 0 ∧ xs.getD 7 0 ≤ 255 := hs.at_ 7
  have b8 : 0 ≤ xs.getD 8 0 ∧ xs.getD 8 0 ≤ 255 := hs.at_ 8
  unfold vAt
  rw [e1]
  generalize xs.getD 6 0 = x at *
  generalize xs.getD 7 0 = y at *
  generalize xs.getD 8 0 = z at *
  simp only [val, List.foldl_cons, List.foldl_nil]
  unfold wrap64
  omega
theorem getD_take (xs : List Int) (k : Nat) (h : k < 11) : (xs.take 11).getD k 0 = xs.getD k 0 := by
  simp [List.getD, h]
theorem vAt_take (xs : List Int) : vAt (xs.take 11) 6 3 = vAt xs 6 3 := by
  unfold vAt
  rw [List.drop_take, List.take_take]
  rfl
/-- More than one behind the last one tells nothing new. -/
theorem wrong_take (xs : List Int) : wrongL (xs.take 11) = wrongL xs := by
  rcases Nat.lt_or_ge 11 xs.length with h | h
  · have hl : (xs.take 11).length = 11 := by rw [List.length_take]; omega
    have hA : ∀ k, k < 6 → badAt (xs.take 11) k = badAt xs k := fun k hk => by
      unfold badAt
      rw [getD_take xs k (by omega), if_neg (show ¬ (xs.take 11).length ≤ k by omega), if_neg (show ¬ xs.length ≤ k by omega)]
    have hK : ∀ k, k ≤ 6 → badK (xs.take 11) k = badK xs k := by
      intro k
      induction k with
      | zero => intro _; rfl
      | succ k ih =>
        intro hk
        show (badK _ k).or _ = (badK _ k).or _
        rw [ih (by omega), hA k (by omega)]
    unfold wrongL
    rw [hK 6 (Nat.le_refl _)]
    congr 1
    unfold restL14
    rw [vAt_take, getD_take xs 9 (by omega), hl, if_neg (show ¬ 11 < 9 by omega), if_neg (show ¬ xs.length < 9 by omega), if_pos (show 10 < 11 by omega), if_pos (show 10 < xs.length by omega)]
    by_cases h9 : 1 < xs.getD 9 0
    · rw [if_pos (show 11 < 10 ∨ 1 < xs.getD 9 0 from .inr h9), if_pos (show xs.length < 10 ∨ 1 < xs.getD 9 0 from .inr h9)]
    · rw [if_neg (show ¬ (11 < 10 ∨ 1 < xs.getD 9 0) by omega), if_neg (show ¬ (xs.length < 10 ∨ 1 < xs.getD 9 0) by omega)]
  · rw [List.take_of_length_le h]
/-- What octets tell. -/
def cfgOf (xs : List Int) : Cfg := ⟨xs.getD 0 0, xs.getD 1 0, xs.getD 2 0, xs.getD 3 0, xs.getD 4 0⟩
def askOf (xs : List Int) : Ask := ⟨xs.getD 5 0, vAt xs 6 3, decide (xs.getD 9 0 = 1)⟩
theorem ten_of {xs : List Int} (h : (wrongL xs).2 = 0) (hs : Small xs) : xs.length = 10 ∧ wrongL xs = (10, 0) ∧ okC (cfgOf xs) = true ∧ okA (askOf xs) = true ∧ octC (cfgOf xs) (askOf xs) = xs := by
  have h6 : badK xs 6 = none := by
    cases hb : badK xs 6 with
    | none => rfl
    | some x =>
      exfalso
      have hx : wrongL xs = x := by unfold wrongL; rw [hb]; rfl
      have : ∀ k, badK xs k = some x → x.2 ≠ 0 := by
        intro k
        induction k with
        | zero => intro h; cases h
        | succ k ih =>
          intro h
          have h : (badK xs k).or (badAt xs k) = some x := h
          cases hk : badK xs k with
          | some y =>
            rw [hk] at h
            exact ih (by rw [hk]; simpa using h)
          | none =>
            rw [hk] at h
            have h : badAt xs k = some x := by simpa using h
            unfold badAt at h
            split at h
            · injection h with h; subst h; simp
            · split at h
              · cases h
              · injection h with h; subst h; simp
      exact this 6 hb (by rw [← hx]; exact h)
  rw [wrong_rest h6] at h ⊢
  unfold restL14 at h
  split at h
  · simp at h
  split at h
  · simp at h
  split at h
  · simp at h
  split at h
  · simp at h
  rename_i g1 g2 g3 g4
  have hl : xs.length = 10 := by omega
  have hin := fun k hk => badK_all h6 k hk
  have hI : ∀ k, k < 6 → inB (xs.getD k 0) (leastAt k) (mostAt k) = true := fun k hk => by
    have := hin k hk
    unfold badAt at this
    rw [if_neg (by omega)] at this
    cases hx : inB (xs.getD k 0) (leastAt k) (mostAt k) with
    | true => rfl
    | false => rw [hx] at this; simp at this
  obtain ⟨hv, hv0⟩ := vAt_three hs (by omega)
  refine ⟨hl, ?_, ?_, ?_, ?_⟩
  · unfold restL14
    rw [if_neg g1, if_neg g2, if_neg g3, if_neg g4]
  · have i0 := hI 0 (by omega)
    have i1 := hI 1 (by omega)
    have i2 := hI 2 (by omega)
    have i3 := hI 3 (by omega)
    have i4 := hI 4 (by omega)
    simp only [okC, cfgOf, Bool.and_eq_true]
    exact ⟨i0, i1, i2, i3, i4⟩
  · simp only [okA, askOf, Bool.and_eq_true]
    exact ⟨hI 5 (by omega), (inB_iff _ _ _).2 ⟨hv0, by omega⟩⟩
  · have hx : xs = [xs.getD 0 0, xs.getD 1 0, xs.getD 2 0, xs.getD 3 0, xs.getD 4 0, xs.getD 5 0, xs.getD 6 0, xs.getD 7 0, xs.getD 8 0, xs.getD 9 0] := by
      match xs, hl with
      | [a, b, c, d, e, f, g, h, i, j], _ => rfl
    have hb : ∀ k, 0 ≤ xs.getD k 0 ∧ xs.getD k 0 ≤ 255 := fun k => hs.at_ k
    have b0 := hb 0
    have b1 := hb 1
    have b2 := hb 2
    have b3 := hb 3
    have b4 := hb 4
    have b5 := hb 5
    have b6 := hb 6
    have b7 := hb 7
    have b8 := hb 8
    have b9 := hb 9
    unfold octC cfgOf askOf
    simp only [hv]
    clear hv hv0 hI hin h6 hb hs g2
    have hf : flagI (decide (xs.getD 9 0 = 1)) = xs.getD 9 0 := by
      by_cases h9 : xs.getD 9 0 = 1
      · rw [h9]; rfl
      · rw [show decide (xs.getD 9 0 = 1) = false from decide_eq_false h9]
        show (0 : Int) = _
        omega
    rw [hf]
    conv => rhs; rw [hx]
    generalize xs.getD 0 0 = x0 at *
    generalize xs.getD 1 0 = x1 at *
    generalize xs.getD 2 0 = x2 at *
    generalize xs.getD 3 0 = x3 at *
    generalize xs.getD 4 0 = x4 at *
    generalize xs.getD 5 0 = x5 at *
    generalize xs.getD 6 0 = x6 at *
    generalize xs.getD 7 0 = x7 at *
    generalize xs.getD 8 0 = x8 at *
    generalize xs.getD 9 0 = x9 at *
    simp only [digs, dig, List.cons_append, List.nil_append, List.cons.injEq, and_true]
    refine ⟨by omega, by omega, by omega, by omega, by omega, by omega, ?_, ?_, ?_⟩ <;> simp <;> omega
end Go.Proofs.YtmkdmnaonddghaaDoor
