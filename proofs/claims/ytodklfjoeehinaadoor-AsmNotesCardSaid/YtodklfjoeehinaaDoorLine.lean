/- An instruction's line as octets, and that it has no line feed; what op's Name and the reference's Name answer. Conditions: the variables lie as they are laid, for op's. -/
import Derived.Test.YtodklfjoeehinaaDoorSplit
import Derived.Laws.OwnMore
namespace Go.Proofs.YtodklfjoeehinaaDoor
open Go.RowKit Nine

set_option maxRecDepth 100000 in
theorem refname_some (k j : Nat) (h1 : 1 ≤ k) (h2 : k ≤ 25) (hj : 2 * k - 2 = j) (w : World) : Calls Tryd.prog 40 #[.int .i64 k] w fun e w' => e = .returned (.string (txt (nameAt k))) ∧ Below w.heap.size w w' := by
  have t0 : decide ((k : Int) < 1) = false := decide_eq_false (by omega)
  have t1 : decide ((25 : Int) < k) = false := decide_eq_false (by omega)
  have hn := page_name k h1 h2
  rw [hj] at hn
  have HN := Lib.hid hn
  have j0 : j < 50 := by omega
  have e1 : 2 * (k : Int) - 2 = j := by omega
  clear hn hj
  go_enter Tryd.func40, Tryd.ntmps40
  go_wp2_with fail
  refine (page_row w).mono ?_
  rintro e w1 ⟨ad, cap, rfl, hc1, hc2, hcell, hb⟩
  have hz := hcell j j0
  rw [HN.out] at hz
  clear hcell
  go_wp2
  go_ret
  exact ⟨rfl, hb⟩
theorem refname_none (n : Int) (hn : n < 1 ∨ 25 < n) (w : World) : Calls Tryd.prog 40 #[.int .i64 n] w fun e w' => e = .returned (.string ⟨#[]⟩) ∧ Below w.heap.size w w' := by
  rcases hn with h | h
  · have t0 : decide (n < 1) = true := decide_eq_true (by omega)
    go_enter Tryd.func40, Tryd.ntmps40
    go_wp2
    go_ret
    exact ⟨rfl, Below.refl _ _⟩
  · have t0 : decide (n < 1) = false := decide_eq_false (by omega)
    have t1 : decide (25 < n) = true := decide_eq_true (by omega)
    go_enter Tryd.func40, Tryd.ntmps40
    go_wp2
    go_ret
    exact ⟨rfl, Below.refl _ _⟩
theorem refname_any (n : Int) (w : World) : Calls Tryd.prog 40 #[.int .i64 n] w fun e w' => e = .returned (.string (txt (nameZ n))) ∧ Below w.heap.size w w' := by
  cases hn : isOp n with
  | false =>
    have e0 : nameZ n = [] := by simp [nameZ, hn]
    have := of_decide_eq_false hn
    rw [e0]
    exact refname_none n (by omega) w
  | true =>
    have e0 : nameZ n = nameAt n.toNat := by simp [nameZ, hn]
    have hb := of_decide_eq_true hn
    obtain ⟨k, rfl⟩ : ∃ k : Nat, n = k := ⟨n.toNat, by omega⟩
    rw [e0]
    exact refname_some k _ (by omega) (by omega) rfl w

/-! ### a line -/
/-- The word of an operand, none where its letter is '-'. -/
def wordAt (ls : List UInt8) (a b c n : Int) (k : Nat) : List (List UInt8) := if ls[k]?.getD 45 = 45 then [] else [Lib.itoa (opd a b c n k)]
def wordsK (ls : List UInt8) (a b c n : Int) : Nat → List (List UInt8)
  | 0 => []
  | k + 1 => wordsK ls a b c n k ++ wordAt ls a b c n k
/-- A line's words, up to an operand, and the line. -/
def wordsZ (o a b c n : Int) (k : Nat) : List (List UInt8) := nameZ o :: wordsK (shapeZ o) a b c n k
def lineZ (o a b c n : Int) : List UInt8 := joinL (wordsZ o a b c n 4)
theorem opd_wide {a b c n : Int} (ha : Wide a) (hb : Wide b) (hc : Wide c) (hn : Wide n) (k : Nat) : Wide (opd a b c n k) := by
  unfold opd
  split
  · exact ha
  split
  · exact hb
  split
  · exact hc
  exact hn
theorem itoa_short {n : Int} (h : Wide n) : (Lib.itoa n).length ≤ 21 := Lib.itoa_length_le n h.1 h.2
theorem wordAt_short {a b c n : Int} (ha : Wide a) (hb : Wide b) (hc : Wide c) (hn : Wide n) (ls : List UInt8) (k : Nat) : (wordAt ls a b c n k).length ≤ 1 ∧ ∀ x ∈ wordAt ls a b c n k, x.length ≤ 21 := by
  unfold wordAt
  split
  · exact ⟨by simp, by simp⟩
  · refine ⟨by simp, fun x hx => ?_⟩
    simp at hx
    subst hx
    exact itoa_short (opd_wide ha hb hc hn k)
theorem wordsK_short {a b c n : Int} (ha : Wide a) (hb : Wide b) (hc : Wide c) (hn : Wide n) (ls : List UInt8) : ∀ k, (wordsK ls a b c n k).length ≤ k ∧ ∀ x ∈ wordsK ls a b c n k, x.length ≤ 21
  | 0 => ⟨by simp [wordsK], by simp [wordsK]⟩
  | k + 1 => by
    obtain ⟨h1, h2⟩ := wordsK_short ha hb hc hn ls k
    obtain ⟨h3, h4⟩ := wordAt_short ha hb hc hn ls k
    refine ⟨by rw [wordsK, List.length_append]; omega, fun x hx => ?_⟩
    rcases List.mem_append.1 hx with hx | hx
    · exact h2 x hx
    · exact h4 x hx
theorem wordsZ_short {o a b c n : Int} (ha : Wide a) (hb : Wide b) (hc : Wide c) (hn : Wide n) (k : Nat) : (wordsZ o a b c n k).length ≤ k + 1 ∧ ∀ x ∈ wordsZ o a b c n k, x.length ≤ 21 := by
  obtain ⟨h1, h2⟩ := wordsK_short ha hb hc hn (shapeZ o) k
  refine ⟨by simp [wordsZ]; omega, fun x hx => ?_⟩
  rcases List.mem_cons.1 hx with rfl | hx
  · have := nameZ_len o; omega
  · exact h2 x hx
theorem join_small (m : Nat) : ∀ (l : List (List UInt8)), (∀ x ∈ l, x.length ≤ m) → (joinL l).length ≤ (m + 1) * l.length
  | [], _ => by simp [joinL]
  | [x], h => by have := h x (by simp); simp [joinL]; omega
  | x :: y :: r, h => by
    have h1 := h x (by simp)
    have h2 := join_small m (y :: r) fun z hz => h z (List.mem_cons_of_mem _ hz)
    simp only [joinL, List.length_append, List.length_cons, Nat.mul_add] at h2 ⊢
    omega
theorem joinZ_short {o a b c n : Int} (ha : Wide a) (hb : Wide b) (hc : Wide c) (hn : Wide n) {k : Nat} (hk : k ≤ 4) : (joinL (wordsZ o a b c n k)).length ≤ 110 := by
  obtain ⟨h1, h2⟩ := wordsZ_short (o := o) ha hb hc hn k
  have h3 := join_small 21 _ h2
  have h4 : (21 + 1) * (wordsZ o a b c n k).length ≤ (21 + 1) * 5 := Nat.mul_le_mul_left _ (by omega)
  omega
theorem lineZ_short {o a b c n : Int} (ha : Wide a) (hb : Wide b) (hc : Wide c) (hn : Wide n) : (lineZ o a b c n).length ≤ 110 := joinZ_short ha hb hc hn (Nat.le_refl _)

/-! ### no line feed -/
theorem decD_nofeed (u : Nat) : (10 : UInt8) ∉ decD u := by
  induction u using Nat.strongRecOn with
  | _ u ih =>
    by_cases h : u = 0
    · subst h; simp [decD]
    · rw [decD_step u h]
      simp only [List.mem_append, List.mem_singleton, not_or]
      refine ⟨ih (u / 10) (by omega), fun e => ?_⟩
      have h1 := digit_nat (u % 10) (by omega)
      rw [← e] at h1
      have : (10 : UInt8).toNat = 10 := rfl
      omega
theorem itoa_nofeed (n : Int) : (10 : UInt8) ∉ Lib.itoa n := by
  rcases Int.lt_trichotomy n 0 with h | h | h
  · rw [itoa_neg n h]
    simp only [List.mem_cons, not_or]
    exact ⟨by decide, decD_nofeed _⟩
  · subst h
    rw [itoa_zero]
    decide
  · rw [itoa_pos n h]
    exact decD_nofeed _
theorem nameAt_nofeed (i : Nat) : (10 : UInt8) ∉ nameAt i := by
  by_cases h : i < 26
  · exact (by decide +kernel : ∀ i, i < 26 → (10 : UInt8) ∉ nameAt i) i h
  · simp [nameAt, List.getD, List.getElem?_eq_none (show tab.length ≤ i by rw [tab_len]; omega)]
theorem nameZ_nofeed (o : Int) : (10 : UInt8) ∉ nameZ o := by
  unfold nameZ
  split
  · exact nameAt_nofeed _
  · simp
theorem join_nofeed : ∀ (l : List (List UInt8)), (∀ x ∈ l, (10 : UInt8) ∉ x) → (10 : UInt8) ∉ joinL l
  | [], _ => by simp [joinL]
  | [x], h => h x (by simp)
  | x :: y :: r, h => by
    have h1 := h x (by simp)
    have h2 := join_nofeed (y :: r) fun z hz => h z (List.mem_cons_of_mem _ hz)
    simp only [joinL, List.mem_append, List.mem_cons, not_or] at h2 ⊢
    exact ⟨h1, by decide, h2⟩
theorem wordsK_nofeed (ls : List UInt8) (a b c n : Int) : ∀ k, ∀ x ∈ wordsK ls a b c n k, (10 : UInt8) ∉ x
  | 0, x, hx => by simp [wordsK] at hx
  | k + 1, x, hx => by
    rcases List.mem_append.1 hx with hx | hx
    · exact wordsK_nofeed ls a b c n k x hx
    · unfold wordAt at hx
      split at hx
      · simp at hx
      · simp at hx
        subst hx
        exact itoa_nofeed _
theorem lineZ_nofeed (o a b c n : Int) : (10 : UInt8) ∉ lineZ o a b c n := join_nofeed _ fun x hx => by
  rcases List.mem_cons.1 hx with rfl | hx
  · exact nameZ_nofeed o
  · exact wordsK_nofeed _ _ _ _ _ _ _ hx
theorem sp_app (q y : List UInt8) : txt q ++ (⟨#[32]⟩ : ByteArray) ++ txt y = txt (q ++ 32 :: y) := by
  have e : (⟨#[32]⟩ : ByteArray) = txt [32] := rfl
  rw [e, txt_app, txt_app]
  simp
theorem nameAt_some (k : Nat) (h1 : 1 ≤ k) (h2 : k ≤ 25) : nameAt k ≠ [] :=
  (by decide +kernel : ∀ k, k < 26 → 1 ≤ k → nameAt k ≠ []) k (by omega) h1
theorem isOp_cases (o : Int) : (isOp o = false ∧ shapeZ o = [] ∧ nameZ o = []) ∨ (isOp o = true ∧ (shapeZ o).length = 4 ∧ nameZ o ≠ []) := by
  cases ho : isOp o with
  | false => exact .inl ⟨rfl, by simp [shapeZ, ho], by simp [nameZ, ho]⟩
  | true =>
    have hb : 1 ≤ o ∧ o ≤ 25 := of_decide_eq_true ho
    exact .inr ⟨rfl, by simp only [shapeZ, ho, if_true]; exact shapes_four o.toNat (by omega) (by omega), by simp only [nameZ, ho, if_true]; exact nameAt_some o.toNat (by omega) (by omega)⟩
end Go.Proofs.YtodklfjoeehinaaDoor
