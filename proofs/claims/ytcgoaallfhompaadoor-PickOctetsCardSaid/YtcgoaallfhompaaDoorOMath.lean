/- The plain mathematics of numbers as octets: what a list of octets tells, with and without a sign, and the octets of a number. Conditions: none. -/
import Derived.Test.YtcgoaallfhompaaDoorOWords
namespace Go.Proofs.YtcgoaallfhompaaDoor.O
set_option linter.unusedSimpArgs false
set_option linter.unusedVariables false
open Go.RowKit
def _root_.Go.Proofs.YtcgoaallfhompaaDoor.val (xs : List Int) : Int := xs.foldl (fun n b => n * 256 + b) 0
theorem _root_.Go.Proofs.YtcgoaallfhompaaDoor.val_snoc (xs : List Int) (b : Int) : val (xs ++ [b]) = val xs * 256 + b := by simp [val]
theorem _root_.Go.Proofs.YtcgoaallfhompaaDoor.val_succ (xs : List Int) (k : Nat) (hk : k < xs.length) : val (xs.take (k + 1)) = val (xs.take k) * 256 + xs[k]?.getD 0 := by
  rw [List.take_succ_eq_append_getElem hk, val_snoc, List.getElem?_eq_getElem hk]
  rfl
theorem _root_.Go.Proofs.YtcgoaallfhompaaDoor.u64_wrap (n : Int) : IntKind.u64.wrap n = n % 18446744073709551616 := by simp [IntKind.wrap, IntKind.bits, IntKind.signed]
theorem _root_.Go.Proofs.YtcgoaallfhompaaDoor.ofInt64 (a : Int) : (BitVec.ofInt 64 a).toNat = (a % 18446744073709551616).toNat := by
  rw [BitVec.toNat_ofInt, show ((2 ^ 64 : Nat) : Int) = 18446744073709551616 from rfl]
theorem _root_.Go.Proofs.YtcgoaallfhompaaDoor.or_step (V b : Int) (h0 : 0 ≤ b) (h1 : b ≤ 255) : bits .or .i64 (wrap64 (wrap64 V * 256)) b = wrap64 (V * 256 + b) := by
  obtain ⟨b, rfl⟩ := Int.eq_ofNat_of_zero_le h0
  show IntKind.i64.wrap ((BitVec.ofInt 64 (wrap64 (wrap64 V * 256)) ||| BitVec.ofInt 64 (b : Int)).toNat : Int) = _
  rw [BitVec.toNat_or, ofInt64, ofInt64, nat_join 8 _ _ (by unfold wrap64; omega) (by omega), IntKind.wrap_i64]
  unfold wrap64
  omega
theorem _root_.Go.Proofs.YtcgoaallfhompaaDoor.u64_step (V b : Int) : IntKind.u64.wrap (IntKind.u64.wrap (IntKind.u64.wrap V * 256) + b) = IntKind.u64.wrap (V * 256 + b) := by
  simp only [u64_wrap]
  omega
theorem _root_.Go.Proofs.YtcgoaallfhompaaDoor.wrap_u64 (V : Int) : wrap64 (IntKind.u64.wrap V) = wrap64 V := by
  rw [u64_wrap]
  unfold wrap64
  omega
/-- The i-th octet from the end. -/
def _root_.Go.Proofs.YtcgoaallfhompaaDoor.dig (n : Int) (i : Nat) : Int := n / 2 ^ (8 * i) % 256
theorem _root_.Go.Proofs.YtcgoaallfhompaaDoor.dig_in (n : Int) (i : Nat) : 0 ≤ dig n i ∧ dig n i ≤ 255 := by unfold dig; omega
theorem _root_.Go.Proofs.YtcgoaallfhompaaDoor.dig_ref (n : Int) (i : Nat) (hi : i ≤ 7) : bits .and .u64 (IntKind.u64.wrap n / 2 ^ (8 * (i : Int)).toNat) 255 % 256 = dig n i := by
  have key : ∀ m : Int, 0 ≤ m → m < 18446744073709551616 → bits .and .u64 m 255 % 256 = m % 256 := by
    intro m h0 h1
    rw [u64_and m 255 h0 h1 (by omega) (by omega)]
    show ((m.toNat &&& 255 : Nat) : Int) % 256 = _
    rw [nat_mask8]
    omega
  have e : (8 * (i : Int)).toNat = 8 * i := by omega
  rw [e]
  have hw : 0 ≤ IntKind.u64.wrap n / 2 ^ (8 * i) ∧ IntKind.u64.wrap n / 2 ^ (8 * i) < 18446744073709551616 := by
    rw [u64_wrap]
    rcases (by omega : i = 0 ∨ i = 1 ∨ i = 2 ∨ i = 3 ∨ i = 4 ∨ i = 5 ∨ i = 6 ∨ i = 7) with rfl | rfl | rfl | rfl | rfl | rfl | rfl | rfl <;> simp only [Nat.reduceMul, Int.reducePow] <;> omega
  rw [key _ hw.1 hw.2, u64_wrap]
  unfold dig
  rcases (by omega : i = 0 ∨ i = 1 ∨ i = 2 ∨ i = 3 ∨ i = 4 ∨ i = 5 ∨ i = 6 ∨ i = 7) with rfl | rfl | rfl | rfl | rfl | rfl | rfl | rfl <;> simp only [Nat.reduceMul, Int.reducePow] <;> omega
/-- The w lowest octets, the highest first. -/
def _root_.Go.Proofs.YtcgoaallfhompaaDoor.digs (n : Int) : Nat → List Int
  | 0 => []
  | w + 1 => dig n w :: digs n w
theorem _root_.Go.Proofs.YtcgoaallfhompaaDoor.digs_len (n : Int) (w : Nat) : (digs n w).length = w := by
  induction w with
  | zero => rfl
  | succ w ih => simp [digs, ih]
theorem _root_.Go.Proofs.YtcgoaallfhompaaDoor.digs_small (n : Int) (w : Nat) : Small (digs n w) := by
  induction w with
  | zero => intro x hx; cases hx
  | succ w ih =>
    intro x hx
    rcases List.mem_cons.1 hx with rfl | hx
    · exact dig_in n w
    · exact ih x hx
theorem _root_.Go.Proofs.YtcgoaallfhompaaDoor.fold_from (ys : List Int) : ∀ n : Int, ys.foldl (fun n b => n * 256 + b) n = n * 256 ^ ys.length + val ys := by
  induction ys with
  | nil => intro n; simp [val]
  | cons b ys ih =>
    intro n
    have e := ih (0 * 256 + b)
    simp only [val, List.foldl_cons, List.length_cons] at e ⊢
    rw [ih (n * 256 + b), e, Int.pow_succ]
    simp only [Int.add_mul, Int.mul_assoc, Int.mul_comm 256]
    simp [Int.add_assoc]
    rfl
theorem _root_.Go.Proofs.YtcgoaallfhompaaDoor.val_cons (b : Int) (ys : List Int) : val (b :: ys) = b * 256 ^ ys.length + val ys := by
  have h := fold_from ys (0 * 256 + b)
  simp only [val, List.foldl_cons]
  rw [h]
  simp [val]
theorem _root_.Go.Proofs.YtcgoaallfhompaaDoor.val_in (ys : List Int) (h : Small ys) : 0 ≤ val ys ∧ val ys < 256 ^ ys.length := by
  induction ys with
  | nil => simp [val]
  | cons b ys ih =>
    have ih := ih fun x hx => h x (List.mem_cons_of_mem _ hx)
    have hb := h b (List.mem_cons_self ..)
    have hp : (0 : Int) < 256 ^ ys.length := Int.pow_pos (by omega)
    rw [val_cons, List.length_cons, Int.pow_succ]
    have h1 := Int.mul_le_mul_of_nonneg_right hb.2 (Int.le_of_lt hp)
    have h0 := Int.mul_nonneg hb.1 (Int.le_of_lt hp)
    omega
/-- What w octets are with a sign. -/
def _root_.Go.Proofs.YtcgoaallfhompaaDoor.sg (xs : List Int) : Int := if xs.length < 8 ∧ (128 : Int) ≤ xs[0]?.getD 0 then val xs - 256 ^ xs.length else wrap64 (val xs)
theorem _root_.Go.Proofs.YtcgoaallfhompaaDoor.sg_facts (b : Int) (ys : List Int) (h : Small (b :: ys)) (k : Nat) (hk : ys.length = k) : 0 ≤ b ∧ b ≤ 255 ∧ val (b :: ys) = b * 256 ^ k + val ys ∧ 0 ≤ val ys ∧ val ys < 256 ^ k := by
  have hb := h b (List.mem_cons_self ..)
  have hv := val_in ys fun x hx => h x (List.mem_cons_of_mem _ hx)
  rw [hk] at hv
  exact ⟨hb.1, hb.2, by rw [val_cons, hk], hv.1, hv.2⟩
theorem _root_.Go.Proofs.YtcgoaallfhompaaDoor.sg_code (xs : List Int) (h : Small xs) (k : Nat) (hk : xs.length = k) (h1 : 1 ≤ k) (h8 : k ≤ 8) : wrap64 (wrap64 (val xs) * 2 ^ (8 * (8 - k))) / 2 ^ (8 * (8 - k)) = sg xs := by
  cases xs with
  | nil => simp at hk; omega
  | cons b ys =>
    have hl : ys.length = k - 1 := by simp at hk; omega
    obtain ⟨f1, f2, f3, f4, f5⟩ := sg_facts b ys h (k - 1) hl
    unfold sg
    rw [hk]
    simp only [List.getElem?_cons_zero, Option.getD_some]
    rw [f3]
    clear f3 hk hl h
    generalize val ys = v at *
    rcases (by omega : k = 1 ∨ k = 2 ∨ k = 3 ∨ k = 4 ∨ k = 5 ∨ k = 6 ∨ k = 7 ∨ k = 8) with rfl | rfl | rfl | rfl | rfl | rfl | rfl | rfl <;>
      simp only [Nat.reduceMul, Nat.reduceSub, Int.reducePow] at f5 ⊢ <;> unfold wrap64 <;> split <;> omega
theorem _root_.Go.Proofs.YtcgoaallfhompaaDoor.sg_ref (xs : List Int) (h : Small xs) (k : Nat) (hk : xs.length = k) (h1 : 1 ≤ k) (h8 : k ≤ 8) :
    ((128 : Int) ≤ xs[0]?.getD 0 → k < 8 → wrap64 (wrap64 (val xs) - wrap64 (2 ^ (8 * k))) = sg xs) ∧ (¬ ((128 : Int) ≤ xs[0]?.getD 0 ∧ k < 8) → wrap64 (val xs) = sg xs) := by
  cases xs with
  | nil => simp at hk; omega
  | cons b ys =>
    have hl : ys.length = k - 1 := by simp at hk; omega
    obtain ⟨f1, f2, f3, f4, f5⟩ := sg_facts b ys h (k - 1) hl
    unfold sg
    rw [hk]
    simp only [List.getElem?_cons_zero, Option.getD_some]
    rw [f3]
    clear f3 hk hl h
    generalize val ys = v at *
    constructor
    · intro hb h7
      rw [if_pos ⟨h7, hb⟩]
      rcases (by omega : k = 1 ∨ k = 2 ∨ k = 3 ∨ k = 4 ∨ k = 5 ∨ k = 6 ∨ k = 7) with rfl | rfl | rfl | rfl | rfl | rfl | rfl <;>
        simp only [Nat.reduceMul, Nat.reduceSub, Int.reducePow] at f5 ⊢ <;> unfold wrap64 <;> omega
    · intro hn
      rw [if_neg (fun hh => hn ⟨hh.2, hh.1⟩)]
end Go.Proofs.YtcgoaallfhompaaDoor.O
