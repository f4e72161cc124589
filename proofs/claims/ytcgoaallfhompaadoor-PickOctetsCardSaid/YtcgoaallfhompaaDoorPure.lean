/- Schedules as lists: switches, some picks left out, two exchanged. Conditions: none. -/
import Derived.Test.YtcgoaallfhompaaDoorTConcatI
namespace Go.Proofs.YtcgoaallfhompaaDoor
open Go.RowKit Go.ChangeShapes Go.WideShapes
set_option linter.unusedSimpArgs false
set_option linter.unusedVariables false

/-- How many switches. -/
def swL : List Int → Nat
  | [] => 0
  | [_] => 0
  | x :: y :: r => (if x = y then 0 else 1) + swL (y :: r)
theorem sw_tri (x y : Int) (c : List Int) : swL (x :: c) ≤ (if x = y then 0 else 1) + swL (y :: c) := by
  cases c with
  | nil => simp [swL]
  | cons z r =>
    simp only [swL]
    split <;> split <;> split <;> simp_all
    all_goals omega
theorem sw_back (b c : List Int) : ∀ x : Int, swL (x :: c) ≤ swL (x :: (b ++ c)) := by
  induction b with
  | nil => intro x; exact Nat.le_refl _
  | cons y b ih =>
    intro x
    have h1 := ih y
    have h2 := sw_tri x y c
    simp only [List.cons_append, swL]
    omega
theorem sw_head (y : Int) (c : List Int) : swL c ≤ swL (y :: c) := by
  cases c with
  | nil => simp [swL]
  | cons z r => simp only [swL]; omega
theorem sw_less (a b c : List Int) : swL (a ++ c) ≤ swL (a ++ (b ++ c)) := by
  cases a with
  | nil =>
    cases b with
    | nil => exact Nat.le_refl _
    | cons y b => exact Nat.le_trans (sw_head y c) (sw_back b c y)
  | cons x a =>
    induction a generalizing x with
    | nil => exact sw_back b c x
    | cons z a ih =>
      have := ih z
      simp only [List.cons_append, swL] at this ⊢
      omega
theorem sw_len (l : List Int) : swL l ≤ l.length := by
  induction l with
  | nil => simp [swL]
  | cons x r ih =>
    cases r with
    | nil => simp [swL]
    | cons y r =>
      simp only [swL, List.length_cons] at ih ⊢
      split <;> omega
theorem drop_two (l : List Int) (k : Nat) (h : k + 1 < l.length) : l.drop k = l.getD k 0 :: l.getD (k + 1) 0 :: l.drop (k + 2) := by
  rw [List.drop_eq_getElem_cons (by omega), List.drop_eq_getElem_cons h]
  simp [List.getD, List.getElem?_eq_getElem (show k < l.length by omega), List.getElem?_eq_getElem h]
theorem drop_one (l : List Int) (k : Nat) (h : k < l.length) : l.drop k = l.getD k 0 :: l.drop (k + 1) := by
  rw [List.drop_eq_getElem_cons h]
  simp [List.getD, List.getElem?_eq_getElem h]
theorem sw_step (l : List Int) (k : Nat) (h : k + 1 < l.length) : swL (l.drop k) = (if l.getD k 0 = l.getD (k + 1) 0 then 0 else 1) + swL (l.drop (k + 1)) := by
  rw [drop_two l k h, drop_one l (k + 1) h]
  rfl
theorem sw_last (l : List Int) (k : Nat) (h : l.length ≤ k + 1) : swL (l.drop k) = 0 := by
  rcases Nat.lt_or_ge k l.length with hk | hk
  · rw [drop_one l k hk, List.drop_eq_nil_of_le (by omega)]
    rfl
  · rw [List.drop_eq_nil_of_le hk]
    rfl
/-- Some are left out, from i on. -/
def outB (l : List Int) (i n : Int) : Prop := 1 ≤ n ∧ 0 ≤ i ∧ i < l.length
instance (l : List Int) (i n : Int) : Decidable (outB l i n) := by unfold outB; infer_instance
def woL (l : List Int) (i n : Int) : List Int := if outB l i n then l.take i.toNat ++ l.drop (i.toNat + n.toNat) else l
theorem sw_wo (l : List Int) (i n : Int) : swL (woL l i n) ≤ swL l := by
  unfold woL
  split
  · have h := sw_less (l.take i.toNat) ((l.drop i.toNat).take n.toNat) (l.drop (i.toNat + n.toNat))
    have e : (l.drop i.toNat).take n.toNat ++ l.drop (i.toNat + n.toNat) = l.drop i.toNat := by
      rw [← List.drop_drop]
      exact List.take_append_drop _ _
    rw [e, List.take_append_drop] at h
    exact h
  · exact Nat.le_refl _
theorem wo_len (l : List Int) (i n : Int) : (woL l i n).length ≤ l.length := by
  unfold woL
  split
  · rw [List.length_append, List.length_take, List.length_drop]; omega
  · exact Nat.le_refl _
/-- Two are exchanged. -/
def exB (l : List Int) (i : Int) : Prop := 0 ≤ i ∧ i + 1 < l.length
instance (l : List Int) (i : Int) : Decidable (exB l i) := by unfold exB; infer_instance
def exL (l : List Int) (i : Int) : List Int := if exB l i then (l.set i.toNat (l.getD (i.toNat + 1) 0)).set (i.toNat + 1) (l.getD i.toNat 0) else l
theorem ex_len (l : List Int) (i : Int) : (exL l i).length = l.length := by
  unfold exL
  split <;> simp
/-- The first k, less some. -/
def keepL (l : List Int) (p : Nat → Bool) : Nat → List Int
  | 0 => []
  | k + 1 => if p k then keepL l p k else keepL l p k ++ [l.getD k 0]
def gone (l : List Int) (i n : Int) (k : Nat) : Bool := decide (outB l i n) && (decide (i ≤ k) && decide ((k : Int) - i < n))
theorem take_snoc (l : List Int) (k : Nat) (h : k < l.length) : l.take (k + 1) = l.take k ++ [l.getD k 0] := by
  rw [List.take_succ_eq_append_getElem h]
  simp [List.getD, List.getElem?_eq_getElem h]
theorem keep_none (l : List Int) (i n : Int) (h : ¬ outB l i n) : ∀ k, k ≤ l.length → keepL l (gone l i n) k = l.take k := by
  intro k
  induction k with
  | zero => intro _; simp [keepL]
  | succ k ih =>
    intro hk
    have e : gone l i n k = false := by unfold gone; rw [decide_eq_false h]; rfl
    rw [keepL, e, ih (by omega), take_snoc l k (by omega)]
    rfl
theorem keep_some (l : List Int) (i n : Int) (h : outB l i n) : ∀ k, k ≤ l.length → keepL l (gone l i n) k = (l.take k).take i.toNat ++ (l.take k).drop (i.toNat + n.toNat) := by
  have h' := h
  obtain ⟨h1, h0, h2⟩ := h'
  intro k
  induction k with
  | zero => intro _; simp [keepL]
  | succ k ih =>
    intro hk
    rw [keepL, ih (by omega)]
    have hl : (l.take k).length = k := by rw [List.length_take]; omega
    by_cases c0 : i ≤ k
    · by_cases c1 : (k : Int) - i < n
      · have e : gone l i n k = true := by unfold gone; rw [decide_eq_true h, decide_eq_true c0, decide_eq_true c1]; rfl
        rw [e, take_snoc l k (by omega)]
        simp only [if_true]
        rw [List.take_append_of_le_length (by omega), List.drop_eq_nil_of_le (by omega : (l.take k).length ≤ _), List.drop_eq_nil_of_le (by rw [List.length_append, hl]; simp; omega)]
      · have e : gone l i n k = false := by unfold gone; rw [decide_eq_false c1, Bool.and_false, Bool.and_false]
        rw [e, take_snoc l k (by omega), List.take_append_of_le_length (by omega), List.drop_append_of_le_length (by omega)]
        simp
    · have e : gone l i n k = false := by unfold gone; rw [decide_eq_false c0, Bool.false_and, Bool.and_false]
      rw [e, take_snoc l k (by omega), List.drop_eq_nil_of_le (by omega : (l.take k).length ≤ _), List.drop_eq_nil_of_le (by rw [List.length_append, hl]; simp; omega)]
      simp only [Bool.false_eq_true, if_false, List.append_nil]
      have e1 : (l.take k).take i.toNat = l.take k := List.take_of_length_le (by omega)
      have e2 : (l.take k ++ [l.getD k 0]).take i.toNat = l.take k ++ [l.getD k 0] := List.take_of_length_le (by rw [List.length_append, hl]; simp; omega)
      rw [e1, e2]
theorem keep_all (l : List Int) (i n : Int) : keepL l (gone l i n) l.length = woL l i n := by
  unfold woL
  split
  · rename_i h
    rw [keep_some l i n h _ (Nat.le_refl _), List.take_length]
  · rename_i h
    rw [keep_none l i n h _ (Nat.le_refl _), List.take_length]
theorem keep_len (l : List Int) (p : Nat → Bool) (k : Nat) : (keepL l p k).length ≤ k := by
  induction k with
  | zero => simp [keepL]
  | succ k ih =>
    rw [keepL]
    split
    · omega
    · rw [List.length_append]; simp; omega
end Go.Proofs.YtcgoaallfhompaaDoor
