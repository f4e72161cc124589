/- Decimals as lists of octets: a number's decimal is parsed as the number, by the library's parser and by the reference's. Conditions: none. -/
import Derived.Test.YtmkdmnaonddghaaDoorDecs
import Derived.Lib.ItoaNum
import Derived.Lib.ParseIntBTie
import Derived.Lib.ItoaMem
namespace Go.Proofs.YtmkdmnaonddghaaDoor
open Go.Lib

/-- The number that digits spell behind acc; none where something else stands. -/
def spell (acc : Nat) : List UInt8 → Option Nat
  | [] => some acc
  | c :: r => if 48 ≤ c.toNat ∧ c.toNat ≤ 57 then spell (acc * 10 + (c.toNat - 48)) r else none
theorem spell_snoc (c : UInt8) : ∀ (l : List UInt8) (acc : Nat), spell acc (l ++ [c]) = (spell acc l).bind fun n => spell n [c]
  | [], acc => by simp [spell]
  | x :: l, acc => by
    simp only [List.cons_append, spell]
    split
    · exact spell_snoc c l _
    · rfl
theorem spell_dec (u : Nat) : spell 0 (decD u) = some u := by
  induction u using Nat.strongRecOn with
  | _ u ih =>
    by_cases h : u = 0
    · subst h; rfl
    · rw [decD_step u h, spell_snoc, ih (u / 10) (by omega)]
      have hd := digit_nat (u % 10) (by omega)
      simp only [Option.bind_some, spell, hd]
      rw [if_pos (by omega)]
      congr 1
      omega
theorem spell_digits (u : Nat) : spell 0 (decDigits u) = some u := by
  by_cases h : u = 0
  · subst h; rw [dec_zero]; rfl
  · rw [dec_pos u h, spell_dec]
theorem spell_ge : ∀ (l : List UInt8) (acc u : Nat), spell acc l = some u → acc ≤ u
  | [], acc, u, h => by simp [spell] at h; omega
  | c :: r, acc, u, h => by
    simp only [spell] at h
    split at h
    · have := spell_ge r _ u h
      omega
    · cases h
theorem parse_spell (M : Nat) (hM : M ≤ 18446744073709551615) : ∀ (l : List UInt8) (acc u : Nat), spell acc l = some u → u ≤ M → parseUintM M acc l = .ok u
  | [], acc, u, h, _ => by simp [spell] at h; subst h; rfl
  | c :: r, acc, u, h, hu => by
    simp only [spell] at h
    split at h
    · rename_i hc
      have hg := spell_ge r _ u h
      have ih := parse_spell M hM r _ u h hu
      simp only [parseUintM]
      rw [if_pos hc, if_neg (by omega), if_neg (by omega), ih]
    · cases h
theorem head_digit (u : Nat) : ∃ (c : UInt8) (r : List UInt8), decDigits u = c :: r ∧ 48 ≤ c.toNat ∧ c.toNat ≤ 57 := by
  have hs := spell_digits u
  cases hd : decDigits u with
  | nil =>
    have := decDigits_length u
    rw [hd] at this
    have := nDigits_pos u
    simp at *
    omega
  | cons c r =>
    rw [hd] at hs
    simp only [spell] at hs
    split at hs
    · rename_i hc; exact ⟨c, r, rfl, hc⟩
    · cases hs
theorem parse_digits (u : Nat) (h : u ≤ 18446744073709551615) : parseUintB 64 (decDigits u) = .ok u := by
  obtain ⟨c, r, e, _⟩ := head_digit u
  unfold parseUintB
  rw [if_neg (by rw [e]; simp)]
  exact parse_spell _ (by decide) _ 0 u (spell_digits u) h

theorem parse_itoa (n : Int) (h : Wide n) : parseIntB 64 (itoa n) = .ok n := by
  obtain ⟨h0, h1⟩ := h
  unfold itoa
  by_cases hn : n < 0
  · rw [if_pos hn]
    have hp := parse_digits n.natAbs (by omega)
    have e45 : (45 : UInt8).toNat = 45 := rfl
    have big : (2 : Nat) ^ (64 - 1) = 9223372036854775808 := by decide
    have hle : n.natAbs ≤ 9223372036854775808 := by omega
    simp only [parseIntB, e45, or_true, if_true, hp, big]
    rw [if_neg (by simp), if_neg (by simp; omega)]
    congr 1
    omega
  · rw [if_neg hn]
    have hp := parse_digits n.toNat (by omega)
    obtain ⟨c, r, e, hc⟩ := head_digit n.toNat
    have big : (2 : Nat) ^ (64 - 1) = 9223372036854775808 := by decide
    rw [e] at hp ⊢
    have e43 : ¬ (c.toNat = 43 ∨ c.toNat = 45) := by omega
    have e45 : ¬ c.toNat = 45 := by omega
    have hlt : ¬ 9223372036854775808 ≤ n.toNat := by omega
    unfold parseIntB
    simp only [if_neg e43, hp, big]
    rw [if_neg (fun x => hlt x.2), if_neg (fun x => e45 x.1), if_neg e45]
    congr 1
    omega

/-- The number whose decimal it is, and true; 0, false. -/
def numL (l : List UInt8) : Int × Bool := match parseIntB 64 l with
  | .ok v => if itoa v = l then (v, true) else (0, false)
  | _ => (0, false)
theorem num_itoa (n : Int) (h : Wide n) : numL (itoa n) = (n, true) := by
  unfold numL
  rw [parse_itoa n h]
  simp
theorem num_none (l : List UInt8) (h : ∀ n, Wide n → itoa n ≠ l) : numL l = (0, false) := by
  unfold numL
  split
  · rename_i v hv
    have hb := parseIntB_bounds hv
    have big : (2 : Nat) ^ (64 - 1) = 9223372036854775808 := by decide
    rw [big] at hb
    rw [if_neg (h v ⟨by omega, by omega⟩)]
  · rfl

/-! ### the reference's parser -/
/-- The number that digits spell behind acc, going round beyond 64 bits. -/
def spellW (acc : Nat) : List UInt8 → Option Nat
  | [] => some acc
  | c :: r => if 48 ≤ c.toNat ∧ c.toNat ≤ 57 then spellW ((acc * 10 + (c.toNat - 48)) % 18446744073709551616) r else none
theorem spellW_of : ∀ (l : List UInt8) (acc u : Nat), spell acc l = some u → u < 18446744073709551616 → spellW acc l = some u
  | [], acc, u, h, _ => h
  | c :: r, acc, u, h, hu => by
    simp only [spell] at h
    split at h
    · rename_i hc
      have hg := spell_ge r _ u h
      simp only [spellW]
      rw [if_pos hc, Nat.mod_eq_of_lt (by omega)]
      exact spellW_of r _ u h hu
    · cases h
theorem spellW_snoc (c : UInt8) : ∀ (l : List UInt8) (acc : Nat), spellW acc (l ++ [c]) = (spellW acc l).bind fun n => spellW n [c]
  | [], acc => by simp [spellW]
  | x :: l, acc => by
    simp only [List.cons_append, spellW]
    split
    · exact spellW_snoc c l _
    · rfl
theorem spellW_none (c : UInt8) (hc : ¬ (48 ≤ c.toNat ∧ c.toNat ≤ 57)) : ∀ (l r : List UInt8) (acc : Nat), spellW acc (l ++ c :: r) = none
  | [], r, acc => by simp only [List.nil_append, spellW]; rw [if_neg hc]
  | x :: l, r, acc => by
    simp only [List.cons_append, spellW]
    split
    · exact spellW_none c hc l r _
    · rfl
theorem spellW_lt : ∀ (l : List UInt8) (acc u : Nat), acc < 18446744073709551616 → spellW acc l = some u → u < 18446744073709551616
  | [], acc, u, ha, h => by simp [spellW] at h; omega
  | c :: r, acc, u, ha, h => by
    simp only [spellW] at h
    split at h
    · exact spellW_lt r _ u (by omega) h
    · cases h
/-- What the reference's digits answer. -/
def digN (l : List UInt8) : Nat := (spellW 0 l).getD 0
def digB (l : List UInt8) : Bool := (spellW 0 l).isSome && (decide (0 < l.length) && decide (l.length < 20))
theorem digN_lt (l : List UInt8) : digN l < 18446744073709551616 := by
  unfold digN
  cases h : spellW 0 l with
  | none => simp
  | some u => exact spellW_lt l 0 u (by omega) h

theorem dig_of (u : Nat) (h : u ≤ 9223372036854775808) : digN (decDigits u) = u ∧ digB (decDigits u) = true := by
  have e := spellW_of _ 0 u (spell_digits u) (by omega)
  have hl := decDigits_length u
  have h1 := nDigits_pos u
  have h2 := nDigits_le 18 u (by omega)
  unfold digN digB
  rw [e, hl]
  refine ⟨rfl, ?_⟩
  simp
  omega
/-- A number of 64 bits, read with its sign. -/
def sgn (m : Nat) : Int := if m < 9223372036854775808 then (m : Int) else (m : Int) - 18446744073709551616
def negW (n : Int) : Int := if n = -9223372036854775808 then n else -n
/-- The text behind its sign. -/
def restL (l : List UInt8) : List UInt8 := match l with
  | [] => []
  | c :: r => if c = 45 then r else c :: r
def isNeg (l : List UInt8) : Bool := match l with
  | [] => false
  | c :: _ => c == 45
def refN (l : List UInt8) : Int := if isNeg l then negW (sgn (digN (restL l))) else sgn (digN (restL l))
theorem sgn_wide (m : Nat) (h : m < 18446744073709551616) : Wide (sgn m) := by
  unfold sgn Wide
  split <;> omega
theorem negW_wide (n : Int) (h : Wide n) : Wide (negW n) := by
  unfold negW Wide at *
  split <;> omega
theorem refN_wide (l : List UInt8) : Wide (refN l) := by
  unfold refN
  split
  · exact negW_wide _ (sgn_wide _ (digN_lt _))
  · exact sgn_wide _ (digN_lt _)
theorem refN_itoa (v : Int) (h : Wide v) : refN (itoa v) = v ∧ digB (restL (itoa v)) = true := by
  obtain ⟨h0, h1⟩ := h
  unfold itoa
  by_cases hn : v < 0
  · rw [if_pos hn]
    have hd := dig_of v.natAbs (by omega)
    have e1 : restL (45 :: decDigits v.natAbs) = decDigits v.natAbs := by simp [restL]
    have e2 : isNeg (45 :: decDigits v.natAbs) = true := by simp [isNeg]
    unfold refN
    rw [e1, e2, hd.1]
    refine ⟨?_, hd.2⟩
    simp only [if_true, sgn, negW]
    split <;> split <;> omega
  · rw [if_neg hn]
    have hd := dig_of v.toNat (by omega)
    obtain ⟨c, r, e, hc⟩ := head_digit v.toNat
    have hc45 : c ≠ 45 := by
      intro he
      subst he
      have : (45 : UInt8).toNat = 45 := rfl
      omega
    have e1 : restL (decDigits v.toNat) = decDigits v.toNat := by rw [e]; simp [restL, hc45]
    have e2 : isNeg (decDigits v.toNat) = false := by rw [e]; simp [isNeg, hc45]
    unfold refN
    rw [e1, e2, hd.1]
    refine ⟨?_, hd.2⟩
    simp only [Bool.false_eq_true, if_false, sgn]
    split <;> omega
theorem num_ref (l : List UInt8) (_ : digB (restL l) = true) (he : itoa (refN l) = l) : numL l = (refN l, true) := by
  have := num_itoa (refN l) (refN_wide l)
  rw [he] at this
  exact this
theorem num_ref_none (l : List UInt8) (h : digB (restL l) = false ∨ itoa (refN l) ≠ l) : numL l = (0, false) := by
  refine num_none l fun n hn e => ?_
  have := refN_itoa n hn
  rw [e] at this
  rcases h with h | h
  · rw [this.2] at h; cases h
  · rw [this.1] at h; exact h e
end Go.Proofs.YtmkdmnaonddghaaDoor
