/- The sum of the bits of a number below 2^64, as it is reckoned in halves: pairs, fours, octets, and so on. Conditions: none. -/
import Derived.Test.YteonjolmnbbhfaaDoorMath
namespace Go.Proofs.YteonjolmnbbhfaaDoor

theorem and_split (k a b c d : Nat) (ha : a < 2 ^ k) (hc : c < 2 ^ k) : (a + 2 ^ k * b) &&& (c + 2 ^ k * d) = (a &&& c) + 2 ^ k * (b &&& d) := by
  have hac : a &&& c < 2 ^ k := Nat.and_lt_two_pow _ hc
  apply Nat.eq_of_testBit_eq
  intro j
  rw [Nat.testBit_and, Nat.add_comm a, Nat.add_comm c, Nat.add_comm (a &&& c), Nat.testBit_two_pow_mul_add _ ha, Nat.testBit_two_pow_mul_add _ hc, Nat.testBit_two_pow_mul_add _ hac]
  split <;> simp [Nat.testBit_and]

/-- Pairs of bits, then fours: what a digit of four bits becomes. -/
def four (d : Nat) : Nat := d % 2 + d / 2 % 2 + d / 4 % 2 + d / 8 % 2

/-- The masks of n fours. -/
def m1 : Nat → Nat
  | 0 => 0
  | n + 1 => 5 + 16 * m1 n
def m2 : Nat → Nat
  | 0 => 0
  | n + 1 => 3 + 16 * m2 n
def fours : Nat → Nat → Nat
  | 0, _ => 0
  | n + 1, s => four (s % 16) + 16 * fours n (s / 16)
def one (n s : Nat) : Nat := (s / 2 &&& m1 n) + (s &&& m1 n)
def two (n s : Nat) : Nat := (s / 4 &&& m2 n) + (s &&& m2 n)

theorem small_one : ∀ d, d < 16 → ∀ b, b < 2 → (((d / 2 + 8 * b) &&& 5) + (d &&& 5) = (d / 2 &&& 5) + (d &&& 5)) ∧ ((d / 2 &&& 5) + (d &&& 5) < 16) := by decide
theorem small_two : ∀ d, d < 16 → ∀ b, b < 4 → (((((d / 2 &&& 5) + (d &&& 5)) / 4 + 4 * b) &&& 3) + (((d / 2 &&& 5) + (d &&& 5)) &&& 3) = four d) := by decide

theorem one_step (n s : Nat) : one (n + 1) s = ((s % 16 / 2 &&& 5) + (s % 16 &&& 5)) + 16 * one n (s / 16) := by
  have hs : s = s % 16 + 16 * (s / 16) := by omega
  have h2 : s / 2 = (s % 16 / 2 + 8 * (s / 16 % 2)) + 16 * (s / 16 / 2) := by omega
  have hd : s % 16 < 16 := Nat.mod_lt _ (by decide)
  have hb : s / 16 % 2 < 2 := Nat.mod_lt _ (by decide)
  have e := (small_one _ hd _ hb).1
  have a1 := and_split 4 (s % 16 / 2 + 8 * (s / 16 % 2)) (s / 16 / 2) 5 (m1 n) (by omega) (by decide)
  have a2 := and_split 4 (s % 16) (s / 16) 5 (m1 n) (by omega) (by decide)
  simp only [Nat.reducePow] at a1 a2
  rw [← h2] at a1
  rw [← hs] at a2
  unfold one
  rw [m1, a1, a2]
  omega
theorem two_step (n s : Nat) : two (n + 1) (one (n + 1) s) = four (s % 16) + 16 * two n (one n (s / 16)) := by
  rw [one_step]
  have hd : s % 16 < 16 := Nat.mod_lt _ (by decide)
  have hs := (small_one _ hd 0 (by decide)).2
  generalize hx : (s % 16 / 2 &&& 5) + (s % 16 &&& 5) = x at *
  generalize one n (s / 16) = y at *
  have hb : y % 4 < 4 := Nat.mod_lt _ (by decide)
  have e := small_two _ hd _ hb
  rw [hx] at e
  have h4 : (x + 16 * y) / 4 = (x / 4 + 4 * (y % 4)) + 16 * (y / 4) := by omega
  have a1 := and_split 4 (x / 4 + 4 * (y % 4)) (y / 4) 3 (m2 n) (by omega) (by decide)
  have a2 := and_split 4 x y 3 (m2 n) (by omega) (by decide)
  simp only [Nat.reducePow] at a1 a2
  unfold two
  rw [h4, m2, a1, a2]
  omega
theorem two_fours (n : Nat) : ∀ s, two n (one n s) = fours n s := by
  induction n with
  | zero => intro s; simp [two, m2, fours]
  | succ n ih => intro s; rw [two_step, fours, ih]

/-- The digits, and their sum. -/
theorem four_le (d : Nat) : four d ≤ 4 := by unfold four; omega
theorem pop_fours (k s : Nat) : pop (k + 4) s = four (s % 16) + pop k (s / 16) := by
  rw [pop_four]
  unfold four
  omega

theorem and15 (k lo hi r : Nat) (hlo : lo < 16) (hhi : hi < 16) : (lo + 16 * (hi + 16 * r)) &&& (15 + 256 * k) = lo + 256 * (r &&& k) := by
  have a1 := and_split 8 (lo + 16 * hi) r 15 k (by omega) (by decide)
  have a2 := and_split 4 lo hi 15 0 (by omega) (by decide)
  have h15 : lo &&& 15 = lo := by
    have := Nat.and_two_pow_sub_one_eq_mod lo 4
    simp at this
    omega
  simp only [Nat.reducePow, Nat.and_zero, Nat.mul_zero, Nat.add_zero] at a1 a2
  have e : lo + 16 * (hi + 16 * r) = lo + 16 * hi + 256 * r := by omega
  rw [e, a1, a2, h15]

/-- From the fours on: sixteen digits of at most 4; their sum is in the last octet. -/
theorem octets_sum (n0 n1 n2 n3 n4 n5 n6 n7 n8 n9 n10 n11 n12 n13 n14 n15 y y3 y4 y5 y6 : Nat)
    (h0 : n0 ≤ 4) (h1 : n1 ≤ 4) (h2 : n2 ≤ 4) (h3 : n3 ≤ 4) (h4 : n4 ≤ 4) (h5 : n5 ≤ 4) (h6 : n6 ≤ 4) (h7 : n7 ≤ 4)
    (h8 : n8 ≤ 4) (h9 : n9 ≤ 4) (h10 : n10 ≤ 4) (h11 : n11 ≤ 4) (h12 : n12 ≤ 4) (h13 : n13 ≤ 4) (h14 : n14 ≤ 4) (h15 : n15 ≤ 4)
    (hy : y = n0 + 16 * (n1 + 16 * (n2 + 16 * (n3 + 16 * (n4 + 16 * (n5 + 16 * (n6 + 16 * (n7 + 16 * (n8 + 16 * (n9 + 16 * (n10 + 16 * (n11 + 16 * (n12 + 16 * (n13 + 16 * (n14 + 16 * n15)))))))))))))))
    (e3 : y3 = (y / 16 + y) &&& 1085102592571150095) (e4 : y4 = y3 + y3 / 256) (e5 : y5 = y4 + y4 / 65536) (e6 : y6 = y5 + y5 / 4294967296) :
    y3 < 2 ^ 60 ∧ y6 % 128 = n0 + n1 + n2 + n3 + n4 + n5 + n6 + n7 + n8 + n9 + n10 + n11 + n12 + n13 + n14 + n15 := by
  have hz : y / 16 + y = (n0 + n1) + 16 * ((n1 + n2) + 16 * ((n2 + n3) + 16 * ((n3 + n4) + 16 * ((n4 + n5) + 16 * ((n5 + n6) + 16 * ((n6 + n7) + 16 * ((n7 + n8) + 16 * ((n8 + n9) + 16 * ((n9 + n10) + 16 * ((n10 + n11) + 16 * ((n11 + n12) + 16 * ((n12 + n13) + 16 * ((n13 + n14) + 16 * ((n14 + n15) + 16 * n15)))))))))))))) := by omega
  have hm : (1085102592571150095 : Nat) = 15 + 256 * (15 + 256 * (15 + 256 * (15 + 256 * (15 + 256 * (15 + 256 * (15 + 256 * (15 + 256 * 0))))))) := by decide
  have hw : n15 = n15 + 16 * 0 := by omega
  rw [hz, hm] at e3
  rw [and15 _ _ _ _ (by omega) (by omega), and15 _ _ _ _ (by omega) (by omega), and15 _ _ _ _ (by omega) (by omega), and15 _ _ _ _ (by omega) (by omega),
    and15 _ _ _ _ (by omega) (by omega), and15 _ _ _ _ (by omega) (by omega), and15 _ _ _ _ (by omega) (by omega), hw, and15 _ _ _ 0 (by omega) (by omega)] at e3
  simp only [Nat.and_zero, Nat.mul_zero, Nat.add_zero] at e3
  clear hz hm hw hy
  obtain ⟨c0, hc0⟩ : ∃ c, c = n0 + n1 := ⟨_, rfl⟩
  obtain ⟨c1, hc1⟩ : ∃ c, c = n2 + n3 := ⟨_, rfl⟩
  obtain ⟨c2, hc2⟩ : ∃ c, c = n4 + n5 := ⟨_, rfl⟩
  obtain ⟨c3, hc3⟩ : ∃ c, c = n6 + n7 := ⟨_, rfl⟩
  obtain ⟨c4, hc4⟩ : ∃ c, c = n8 + n9 := ⟨_, rfl⟩
  obtain ⟨c5, hc5⟩ : ∃ c, c = n10 + n11 := ⟨_, rfl⟩
  obtain ⟨c6, hc6⟩ : ∃ c, c = n12 + n13 := ⟨_, rfl⟩
  obtain ⟨c7, hc7⟩ : ∃ c, c = n14 + n15 := ⟨_, rfl⟩
  rw [← hc0, ← hc1, ← hc2, ← hc3, ← hc4, ← hc5, ← hc6, ← hc7] at e3
  have b0 : c0 ≤ 8 := by omega
  have b1 : c1 ≤ 8 := by omega
  have b2 : c2 ≤ 8 := by omega
  have b3 : c3 ≤ 8 := by omega
  have b4 : c4 ≤ 8 := by omega
  have b5 : c5 ≤ 8 := by omega
  have b6 : c6 ≤ 8 := by omega
  have b7 : c7 ≤ 8 := by omega
  have hsum : n0 + n1 + n2 + n3 + n4 + n5 + n6 + n7 + n8 + n9 + n10 + n11 + n12 + n13 + n14 + n15 = c0 + c1 + c2 + c3 + c4 + c5 + c6 + c7 := by omega
  rw [hsum]
  clear hsum hc0 hc1 hc2 hc3 hc4 hc5 hc6 hc7 h0 h1 h2 h3 h4 h5 h6 h7 h8 h9 h10 h11 h12 h13 h14 h15
  have d3 : y3 / 256 = c1 + 256 * (c2 + 256 * (c3 + 256 * (c4 + 256 * (c5 + 256 * (c6 + 256 * c7))))) := by omega
  have f4 : y4 = (c0 + c1) + 256 * ((c1 + c2) + 256 * ((c2 + c3) + 256 * ((c3 + c4) + 256 * ((c4 + c5) + 256 * ((c5 + c6) + 256 * ((c6 + c7) + 256 * c7)))))) := by omega
  have d4 : y4 / 65536 = (c2 + c3) + 256 * ((c3 + c4) + 256 * ((c4 + c5) + 256 * ((c5 + c6) + 256 * ((c6 + c7) + 256 * c7)))) := by omega
  have f5 : y5 = (c0 + c1 + c2 + c3) + 256 * ((c1 + c2 + c3 + c4) + 256 * ((c2 + c3 + c4 + c5) + 256 * ((c3 + c4 + c5 + c6) + 256 * ((c4 + c5 + c6 + c7) + 256 * ((c5 + c6 + c7) + 256 * ((c6 + c7) + 256 * c7)))))) := by omega
  have d5 : y5 / 4294967296 = (c4 + c5 + c6 + c7) + 256 * ((c5 + c6 + c7) + 256 * ((c6 + c7) + 256 * c7)) := by omega
  refine ⟨by omega, ?_⟩
  omega

def popf : Nat → Nat → Nat
  | 0, _ => 0
  | n + 1, s => four (s % 16) + popf n (s / 16)
theorem pop_popf (n : Nat) : ∀ s, pop (4 * n) s = popf n s := by
  induction n with
  | zero => intro s; rfl
  | succ n ih => intro s; rw [show 4 * (n + 1) = 4 * n + 4 by omega, pop_fours, popf, ih]
theorem m1_16 : m1 16 = 6148914691236517205 := by decide
theorem m2_16 : m2 16 = 3689348814741910323 := by decide
/-- The sum of the bits of s. -/
theorem ones (s y1 y2 y3 y4 y5 y6 : Nat) (e1 : y1 = (s / 2 &&& 6148914691236517205) + (s &&& 6148914691236517205))
    (e2 : y2 = (y1 / 4 &&& 3689348814741910323) + (y1 &&& 3689348814741910323)) (e3 : y3 = (y2 / 16 + y2) &&& 1085102592571150095)
    (e4 : y4 = y3 + y3 / 256) (e5 : y5 = y4 + y4 / 65536) (e6 : y6 = y5 + y5 / 4294967296) : y3 < 2 ^ 60 ∧ y6 % 128 = (mem s).length := by
  have h2 : y2 = fours 16 s := by
    rw [← two_fours, two, one, m1_16, m2_16, e2, e1]
  have hp : (mem s).length = popf 16 s := (mem_pop s).trans (pop_popf 16 s)
  rw [hp]
  simp only [fours, Nat.mul_zero, Nat.add_zero] at h2
  simp only [popf, Nat.add_zero]
  have := octets_sum _ _ _ _ _ _ _ _ _ _ _ _ _ _ _ _ y2 y3 y4 y5 y6 (four_le _) (four_le _) (four_le _) (four_le _) (four_le _) (four_le _) (four_le _) (four_le _) (four_le _) (four_le _) (four_le _) (four_le _) (four_le _) (four_le _) (four_le _) (four_le _) h2 e3 e4 e5 e6
  refine ⟨this.1, this.2.trans ?_⟩
  simp only [Nat.add_assoc]

end Go.Proofs.YteonjolmnbbhfaaDoor
