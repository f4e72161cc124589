/- Sets of numbers below 64 as the bits of one number: with, without, the list of the members, how many there are. Conditions: none. -/
import Derived.Lib.TrailingZeros
namespace Go.Proofs.YteonjolmnbbhfaaDoor

/-- The bit of i: none where i is not from 0 to 63. -/
def bitN (i : Int) : Nat := if 0 ≤ i ∧ i ≤ 63 then 2 ^ i.toNat else 0
def withN (s : Nat) (i : Int) : Nat := s ||| bitN i
def lessN (s : Nat) (i : Int) : Nat := s &&& (18446744073709551615 - bitN i)
def hasN (s : Nat) (i : Int) : Bool := (s &&& bitN i) != 0
/-- The members, rising. -/
def mem (s : Nat) : List Nat := (List.range 64).filter s.testBit

theorem bit_le (i : Int) : bitN i < 18446744073709551616 := by
  unfold bitN
  split
  · have : 2 ^ i.toNat ≤ 2 ^ 63 := Nat.pow_le_pow_right (by decide) (by omega)
    omega
  · omega
theorem bit_in (k : Nat) (h : k < 64) : bitN (k : Int) = 2 ^ k := by
  unfold bitN
  rw [if_pos (by omega)]
  simp
theorem bit_out (i : Int) (h : ¬ (0 ≤ i ∧ i ≤ 63)) : bitN i = 0 := by
  unfold bitN
  rw [if_neg h]
theorem with_lt (s : Nat) (i : Int) (hs : s < 18446744073709551616) : withN s i < 18446744073709551616 := by
  have h := bit_le i
  exact Nat.or_lt_two_pow (n := 64) (by omega) (by omega)
theorem less_lt (s : Nat) (i : Int) (hs : s < 18446744073709551616) : lessN s i < 18446744073709551616 := by
  have : lessN s i ≤ s := Nat.and_le_left
  omega
theorem top_bit (j : Nat) (h : 64 ≤ j) (s : Nat) (hs : s < 18446744073709551616) : s.testBit j = false :=
  Nat.testBit_lt_two_pow (Nat.lt_of_lt_of_le (show s < 2 ^ 64 by omega) (Nat.pow_le_pow_right (by decide) h))
theorem with_bit (s k j : Nat) (hk : k < 64) : (withN s (k : Int)).testBit j = (s.testBit j || decide (k = j)) := by
  unfold withN
  rw [bit_in k hk, Nat.testBit_or, Nat.testBit_two_pow]
theorem less_bit (s k j : Nat) (hk : k < 64) (hs : s < 18446744073709551616) : (lessN s (k : Int)).testBit j = (s.testBit j && !decide (k = j)) := by
  unfold lessN
  rw [bit_in k hk, Nat.testBit_and]
  by_cases hj : j < 64
  · have h2 : 2 ^ k < 2 ^ 64 := Nat.pow_lt_pow_right (by decide) hk
    have e : 18446744073709551615 - 2 ^ k = 2 ^ 64 - (2 ^ k + 1) := by omega
    rw [e, Nat.testBit_two_pow_sub_succ h2, Nat.testBit_two_pow]
    simp [hj]
  · rw [top_bit j (by omega) s hs]
    simp
theorem has_in (s k : Nat) (hk : k < 64) : hasN s (k : Int) = s.testBit k := by
  unfold hasN
  rw [bit_in k hk]
  cases h : s.testBit k
  · have e : s &&& 2 ^ k = 0 := by
      apply Nat.eq_of_testBit_eq
      intro j
      rw [Nat.testBit_and, Nat.testBit_two_pow]
      by_cases e : k = j
      · subst e
        simp [h]
      · simp [e]
    simp [e]
  · have e : (s &&& 2 ^ k).testBit k = true := by
      rw [Nat.testBit_and, Nat.testBit_two_pow]
      simp [h]
    have : s &&& 2 ^ k ≠ 0 := by
      intro h0
      rw [h0] at e
      simp at e
    simp [this]
theorem has_out (s : Nat) (i : Int) (h : ¬ (0 ≤ i ∧ i ≤ 63)) : hasN s i = false := by
  unfold hasN
  rw [bit_out i h]
  simp
theorem with_out (s : Nat) (i : Int) (h : ¬ (0 ≤ i ∧ i ≤ 63)) : withN s i = s := by
  unfold withN
  rw [bit_out i h]
  simp
theorem less_out (s : Nat) (i : Int) (h : ¬ (0 ≤ i ∧ i ≤ 63)) (hs : s < 18446744073709551616) : lessN s i = s := by
  unfold lessN
  rw [bit_out i h]
  have : s &&& (2 ^ 64 - 1) = s % 2 ^ 64 := Nat.and_two_pow_sub_one_eq_mod s 64
  simp at this ⊢
  omega
theorem same_bits (s t : Nat) (hs : s < 18446744073709551616) (ht : t < 18446744073709551616) (h : ∀ j, j < 64 → s.testBit j = t.testBit j) : s = t := by
  apply Nat.eq_of_testBit_eq
  intro j
  by_cases hj : j < 64
  · exact h j hj
  · rw [top_bit j (by omega) s hs, top_bit j (by omega) t ht]

/-- The lowest member. -/
theorem ctz_bit (s : Nat) (h0 : s ≠ 0) (hs : s < 18446744073709551616) : s.testBit (Lib.ctz 64 s) = true ∧ Lib.ctz 64 s < 64 ∧ ∀ j, j < Lib.ctz 64 s → s.testBit j = false := by
  obtain ⟨m, hm, hk⟩ := Lib.ctzFrom_spec 64 s (by omega) (by omega)
  have e : Lib.ctz 64 s = Lib.ctzFrom 64 s := by simp [Lib.ctz, h0]
  rw [e]
  generalize Lib.ctzFrom 64 s = k at *
  refine ⟨?_, hk, fun j hj => ?_⟩
  · rw [hm, Nat.mul_comm, Nat.testBit_mul_two_pow]
    simp
  · rw [hm, Nat.mul_comm, Nat.testBit_mul_two_pow]
    simp
    omega
theorem range_split (k : Nat) (hk : k < 64) : List.range 64 = List.range k ++ k :: List.range' (k + 1) (63 - k) := by
  rw [List.range_eq_range', List.range_eq_range', show 64 = k + (1 + (63 - k)) by omega, ← List.range'_append_1 (m := k), Nat.add_comm 1]
  simp [List.range'_succ]
theorem mem_zero : mem 0 = [] := by
  unfold mem
  simp
theorem mem_step (s : Nat) (h0 : s ≠ 0) (hs : s < 18446744073709551616) : mem s = Lib.ctz 64 s :: mem (lessN s (Lib.ctz 64 s : Nat)) := by
  obtain ⟨h1, hk, hlow⟩ := ctz_bit s h0 hs
  generalize Lib.ctz 64 s = k at *
  unfold mem
  rw [range_split k hk, List.filter_append, List.filter_append, List.filter_cons, List.filter_cons, h1]
  have ek : (lessN s (k : Int)).testBit k = false := by
    rw [less_bit s k k hk hs]
    simp
  have e1 : List.filter s.testBit (List.range k) = [] := List.filter_eq_nil_iff.2 fun j hj => by
    rw [hlow j (by simpa using hj)]
    simp
  have e2 : List.filter (lessN s (k : Int)).testBit (List.range k) = [] := List.filter_eq_nil_iff.2 fun j hj => by
    rw [less_bit s k j hk hs, hlow j (by simpa using hj)]
    simp
  have e3 : List.filter (lessN s (k : Int)).testBit (List.range' (k + 1) (63 - k)) = List.filter s.testBit (List.range' (k + 1) (63 - k)) := List.filter_congr fun j hj => by
    have : k + 1 ≤ j := (List.mem_range'_1.1 hj).1
    rw [less_bit s k j hk hs]
    have : ¬ k = j := by omega
    simp [this]
  rw [e1, e2, e3, ek]
  simp
theorem mem_len (s : Nat) : (mem s).length ≤ 64 := by
  unfold mem
  exact Nat.le_trans (List.length_filter_le _ _) (by simp)
theorem mem_iff (s k : Nat) (hk : k < 64) : k ∈ mem s ↔ s.testBit k = true := by
  unfold mem
  simp [hk]

/-! How many there are: the sum of the bits. -/
def pop : Nat → Nat → Nat
  | 0, _ => 0
  | k + 1, s => s % 2 + pop k (s / 2)
theorem len_pop (k : Nat) : ∀ s : Nat, ((List.range k).filter s.testBit).length = pop k s := by
  induction k with
  | zero => intro s; rfl
  | succ k ih =>
    intro s
    rw [List.range_succ_eq_map, List.filter_cons, List.filter_map, pop, ← ih]
    have e : (s.testBit ∘ Nat.succ) = (s / 2).testBit := by
      funext j
      simp [Nat.testBit_succ]
    rw [e]
    simp only [Nat.testBit_zero]
    rcases Nat.mod_two_eq_zero_or_one s with h | h <;> simp [h, List.length_map]
    omega
theorem mem_pop (s : Nat) : (mem s).length = pop 64 s := len_pop 64 s
theorem pop_four (k s : Nat) : pop (k + 4) s = (s % 2 + s / 2 % 2 + s / 4 % 2 + s / 8 % 2) + pop k (s / 16) := by
  simp only [pop, Nat.div_div_eq_div_mul, Nat.reduceMul]
  omega

end Go.Proofs.YteonjolmnbbhfaaDoor
