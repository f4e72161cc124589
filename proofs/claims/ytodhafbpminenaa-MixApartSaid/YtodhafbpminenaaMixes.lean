/- Contracts of mix.Mix and of the statement's own step, for all numbers: they answer one and the same, and turn nothing; and of one number two that differ are mixed to two that differ. Conditions: as each row says. -/
import Derived.Test.YtodhafbpminenaaWords
import Derived.DataShut
import Derived.Laws.Bits64
namespace Go.Proofs.Ytodhafbpminenaa
open Go.RowKit

def fold (x d : Int) : Int := bits .xor .u64 x (x / d)
def mid (a b : Int) : Int := IntKind.u64.wrap (IntKind.u64.wrap (11400714819323198485 * a) + b)
def mixd (a b : Int) : Int := fold (IntKind.u64.wrap (fold (mid a b) 4294967296 * 13787848793156543929)) 536870912

theorem mix_any (a b : Int) (w : World) : Calls Try.prog 7 #[.int .u64 a, .int .u64 b] w fun e w' => e = .returned (.int .u64 (mixd a b)) ∧ w = w' := by
  go_enter Try.func7, Try.ntmps7
  go_wp2
  go_ret
  exact ⟨rfl, rfl⟩
/-- The same by quotients, as the statement's step says it. -/
def quot (x d : Int) : Int := bits .xor .u64 x (IntKind.u64.wrap (x.tdiv d))
def mixt (a b : Int) : Int := quot (IntKind.u64.wrap (quot (IntKind.u64.wrap (IntKind.u64.wrap (a * 11400714819323198485) + b)) 4294967296 * 13787848793156543929)) 536870912
theorem u64_mod (n : Int) : IntKind.u64.wrap n = n % 18446744073709551616 := IntKind.wrap_u64 n
theorem quot_eq (n d : Int) (hd : 1 ≤ d) : quot (IntKind.u64.wrap n) d = fold (IntKind.u64.wrap n) d := by
  unfold quot fold
  have h0 : 0 ≤ IntKind.u64.wrap n := by rw [u64_mod]; omega
  have h1 : IntKind.u64.wrap n < 18446744073709551616 := by rw [u64_mod]; omega
  generalize IntKind.u64.wrap n = x at *
  have e : IntKind.u64.wrap (x.tdiv d) = x / d := by
    rw [Int.tdiv_eq_ediv_of_nonneg h0, u64_mod, Int.emod_eq_of_lt (Int.ediv_nonneg h0 (by omega)) (Int.lt_of_le_of_lt (Int.ediv_le_self d h0) h1)]
  rw [e]
theorem mixt_eq (a b : Int) : mixt a b = mixd a b := by
  unfold mixt mixd mid
  rw [quot_eq _ _ (by decide), quot_eq _ _ (by decide), Int.mul_comm a]
theorem step_any (a b : Int) (w : World) : Calls Try.prog 8 #[.int .u64 a, .int .u64 b] w fun e w' => e = .returned (.int .u64 (mixd a b)) ∧ w = w' := by
  go_enter Try.func8, Try.ntmps8
  go_wp2
  go_ret
  rw [← mixt_eq]
  exact ⟨rfl, rfl⟩

theorem fold_same (k : Nat) (hk : 0 < k) (x y : Nat) (h : x ^^^ (x >>> k) = y ^^^ (y >>> k)) : x = y := by
  have e : x ^^^ y = (x ^^^ y) >>> k := by
    rw [Nat.shiftRight_xor_distrib]
    have h2 : x ^^^ (x >>> k) ^^^ (x >>> k ^^^ y) = y ^^^ (y >>> k) ^^^ (x >>> k ^^^ y) := by rw [h]
    have a1 : x ^^^ (x >>> k) ^^^ (x >>> k ^^^ y) = x ^^^ y := by
      rw [Nat.xor_assoc, ← Nat.xor_assoc (x >>> k), Nat.xor_self, Nat.zero_xor]
    have a2 : y ^^^ (y >>> k) ^^^ (x >>> k ^^^ y) = x >>> k ^^^ y >>> k := by
      rw [Nat.xor_comm y (y >>> k), Nat.xor_assoc, Nat.xor_comm (x >>> k) y, ← Nat.xor_assoc y y, Nat.xor_self, Nat.zero_xor, Nat.xor_comm]
    rw [← a1, h2, a2]
  have z : x ^^^ y = 0 := by
    rw [Nat.shiftRight_eq_div_pow] at e
    rcases Nat.eq_zero_or_pos (x ^^^ y) with h0 | h0
    · exact h0
    · have hp : 1 < 2 ^ k := Nat.one_lt_two_pow (by omega)
      have := Nat.div_lt_self h0 hp
      omega
  have e2 : (x ^^^ y) ^^^ y = x := by rw [Nat.xor_assoc, Nat.xor_self, Nat.xor_zero]
  rw [← e2, z, Nat.zero_xor]
theorem in_u64 {x : Int} (h : (Lit.int .u64 x).wf = true) : 0 ≤ x ∧ x ≤ 18446744073709551615 := (Lit.wf_int_iff .u64 x).1 h
theorem fold_nat (x k : Nat) (hx : x < 18446744073709551616) : fold (x : Int) ((2 ^ k : Nat) : Int) = ((x ^^^ (x >>> k) : Nat) : Int) := by
  unfold fold
  rw [← Int.natCast_ediv, u64_xor_nat x _ hx (Nat.lt_of_le_of_lt (Nat.div_le_self _ _) hx), Nat.shiftRight_eq_div_pow]
theorem fold_inj (x y : Int) (k : Nat) (hk : 0 < k) (hx : 0 ≤ x ∧ x < 18446744073709551616) (hy : 0 ≤ y ∧ y < 18446744073709551616) (h : fold x ((2 ^ k : Nat) : Int) = fold y ((2 ^ k : Nat) : Int)) : x = y := by
  obtain ⟨x, rfl⟩ := Int.eq_ofNat_of_zero_le hx.1
  obtain ⟨y, rfl⟩ := Int.eq_ofNat_of_zero_le hy.1
  rw [fold_nat x k (by omega), fold_nat y k (by omega)] at h
  rw [fold_same k hk x y (by exact_mod_cast h)]
theorem fold_range (x : Int) (k : Nat) (hx : 0 ≤ x ∧ x < 18446744073709551616) : 0 ≤ fold x ((2 ^ k : Nat) : Int) ∧ fold x ((2 ^ k : Nat) : Int) < 18446744073709551616 := by
  obtain ⟨x, rfl⟩ := Int.eq_ofNat_of_zero_le hx.1
  rw [fold_nat x k (by omega)]
  have : x ^^^ (x >>> k) < 2 ^ 64 := Nat.xor_lt_two_pow (by omega) (by rw [Nat.shiftRight_eq_div_pow]; exact Nat.lt_of_le_of_lt (Nat.div_le_self _ _) (by omega))
  omega
theorem back_mul (n : Int) : n * 13787848793156543929 % 18446744073709551616 * 10871156337175269513 % 18446744073709551616 = n % 18446744073709551616 := by
  have hc : (13787848793156543929 : Int) * 10871156337175269513 = 1 + 18446744073709551616 * 8125545580553827436 := by decide +kernel
  have h1 : n * 13787848793156543929 * 10871156337175269513 = n + 18446744073709551616 * (n * 8125545580553827436) := by
    rw [Int.mul_assoc, hc, Int.mul_add, Int.mul_one, Int.mul_left_comm]
  rw [← Int.emod_add_mul_ediv (n * 13787848793156543929) 18446744073709551616] at h1
  rw [Int.add_mul, Int.mul_assoc] at h1
  generalize n * 13787848793156543929 % 18446744073709551616 * 10871156337175269513 = u at *
  rw [← Int.add_mul_emod_self_left u 18446744073709551616 (n * 13787848793156543929 / 18446744073709551616 * 10871156337175269513), h1, Int.add_mul_emod_self_left]
theorem mul_inj (x y : Int) (hx : 0 ≤ x ∧ x < 18446744073709551616) (hy : 0 ≤ y ∧ y < 18446744073709551616) (h : IntKind.u64.wrap (x * 13787848793156543929) = IntKind.u64.wrap (y * 13787848793156543929)) : x = y := by
  simp only [u64_mod] at h
  have h2 : x * 13787848793156543929 % 18446744073709551616 * 10871156337175269513 % 18446744073709551616 = y * 13787848793156543929 % 18446744073709551616 * 10871156337175269513 % 18446744073709551616 := by rw [h]
  rw [back_mul x, back_mul y] at h2
  rwa [Int.emod_eq_of_lt hx.1 hx.2, Int.emod_eq_of_lt hy.1 hy.2] at h2
theorem mixd_inj (a b c : Int) (hb : 0 ≤ b ∧ b ≤ 18446744073709551615) (hc : 0 ≤ c ∧ c ≤ 18446744073709551615) (h : mixd a b = mixd a c) : b = c := by
  have r : ∀ n : Int, 0 ≤ IntKind.u64.wrap n ∧ IntKind.u64.wrap n < 18446744073709551616 := fun n => by rw [u64_mod]; omega
  have h1 := fold_inj _ _ 29 (by decide) (r _) (r _) h
  have h2 := mul_inj _ _ (fold_range _ 32 (r _)) (fold_range _ 32 (r _)) h1
  have h3 := fold_inj _ _ 32 (by decide) (r _) (r _) h2
  simp only [u64_mod] at h3
  omega
theorem mixd_00 : mixd 0 0 = 0 := by decide +kernel
theorem mixd_01 : mixd 0 1 = 13787848775058251473 := by decide +kernel
end Go.Proofs.Ytodhafbpminenaa
