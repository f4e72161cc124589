/- Contracts of mix.Mix and of the plain Mix, of mix.Sum and of the plain Sum, for all numbers and octets: they answer one and the same, and turn nothing. Conditions: none. -/
import Derived.Test.YtfmkmmmaoiepmaaMath
import Derived.Laws.Bits64
namespace Go.Proofs.Ytfmkmmmaoiepmaa
open Go.RowKit

def fold (x d : Int) : Int := bits .xor .u64 x (x / d)
def mid (a b : Int) : Int := IntKind.u64.wrap (IntKind.u64.wrap (11400714819323198485 * a) + b)
def mixd (a b : Int) : Int := fold (IntKind.u64.wrap (fold (mid a b) 4294967296 * 13787848793156543929)) 536870912

theorem mix_any (a b : Int) (w : World) : Calls Try.prog 55 #[.int .u64 a, .int .u64 b] w fun e w' => e = .returned (.int .u64 (mixd a b)) ∧ w = w' := by
  go_enter Try.func55, Try.ntmps55
  go_wp2
  go_ret
  exact ⟨rfl, rfl⟩
/-- The same by quotients, as the statement's step says it. -/
def quot (x d : Int) : Int := bits .xor .u64 x (IntKind.u64.wrap (x.tdiv d))
def mixt (a b : Int) : Int := quot (IntKind.u64.wrap (quot (IntKind.u64.wrap (IntKind.u64.wrap (11400714819323198485 * a) + b)) 4294967296 * 13787848793156543929)) 536870912
theorem u64_mod (n : Int) : IntKind.u64.wrap n = n % 18446744073709551616 := IntKind.wrap_u64 n
theorem quot_eq (n d : Int) (hd : 1 ≤ d) : quot (IntKind.u64.wrap n) d = fold (IntKind.u64.wrap n) d := by
  unfold quot fold
  have h0 : 0 ≤ IntKind.u64.wrap n := by rw [u64_mod]; omega
  have h1 : IntKind.u64.wrap n < 18446744073709551616 := by rw [u64_mod]; omega
  generalize IntKind.u64.wrap n = x at *
  have e : IntKind.u64.wrap (x.tdiv d) = x / d := by
    rw [Int.tdiv_eq_ediv_of_nonneg h0, u64_mod, Int.emod_eq_of_lt (Int.ediv_nonneg h0 (by omega)) (Int.lt_of_le_of_lt (Int.ediv_le_self d h0) h1)]
  rw [e]
theorem mixt_eq (a b : Int) : mixt a b = mixd a b := by
  unfold mixt mixd mid
  rw [quot_eq _ _ (by decide), quot_eq _ _ (by decide)]
theorem step_any (a b : Int) (w : World) : Calls Try.prog 33 #[.int .u64 a, .int .u64 b] w fun e w' => e = .returned (.int .u64 (mixd a b)) ∧ w = w' := by
  go_enter Try.func33, Try.ntmps33
  go_wp2
  go_ret
  rw [← mixt_eq]
  exact ⟨rfl, rfl⟩

/-- The sum gone on with octets. -/
def goes (x : Int) (xs : List Int) : Int := xs.foldl mixd x
theorem goes_succ (x : Int) (xs : List Int) (k : Nat) (h : k < xs.length) : goes x (xs.take (k + 1)) = mixd (goes x (xs.take k)) (xs[k]?.getD 0) := by
  unfold goes
  rw [List.take_add_one, List.foldl_append, List.getElem?_eq_getElem h]
  rfl
theorem sum_any (s : Int) (xs : List Int) (A : Option Addr) (n cap : Nat) (w : World) (B : Nat) (h : Oct w B A n cap xs) :
    Calls Try.prog 32 #[.int .u64 s, .slice A n cap] w fun e w' => e = .returned (.int .u64 (goes (mixd s n) xs)) ∧ w = w' := by
  have hl := h.len
  have hm := Nat.le_trans h.room h.most
  unfold maxLen at hm
  have HL := Lib.hid hl
  clear hl
  go_enter Try.func32, Try.ntmps32
  go_wp2_with (first
    | (go_at_call 55; refine (mix_any _ _ _).mono ?_; rintro e w' ⟨rfl, rfl⟩))
  go_loop [5, 7, 15] (fun x _ i => ∃ k : Nat, k ≤ n ∧ i = .int .i64 k ∧ x = .int .u64 (goes (mixd s n) (xs.take k))) (fun _ _ i => n - (intOf i).toNat)
  case atStart => exact ⟨0, Nat.zero_le _, rfl, rfl⟩
  case round =>
    obtain ⟨k, hk, rfl, rfl⟩ := hrel
    by_cases hlt : k < n
    · obtain ⟨ad, rfl⟩ : ∃ ad, A = some ad := by
        cases A with
        | none => have := h.zero.1; omega
        | some ad => exact ⟨ad, rfl⟩
      have hcy := (h.cell ad rfl k hlt).2
      have hb := h.small.at_ k
      obtain ⟨hb0, hb1⟩ := hb
      have HV := Lib.hid (goes_succ (mixd s n) xs k (by rw [HL.out]; exact hlt))
      go_wp2_with (first
        | (go_at_call 55; refine (mix_any _ _ _).mono ?_; rintro e w' ⟨rfl, rfl⟩))
      go_round
      case rel => exact ⟨k + 1, by omega, by go_num, by rw [HV.out]⟩
      case measure => simp [intOf]; omega
    · go_wp2
      go_ret
      exact ⟨by rw [List.take_of_length_le (by rw [HL.out]; omega)]; rfl, rfl⟩

theorem refsum_any (s : Int) (xs : List Int) (A : Option Addr) (n cap : Nat) (w : World) (B : Nat) (h : Oct w B A n cap xs) :
    Calls Try.prog 19 #[.int .u64 s, .slice A n cap] w fun e w' => e = .returned (.int .u64 (goes (mixd s n) xs)) ∧ w = w' := by
  have hl := h.len
  have hm := Nat.le_trans h.room h.most
  unfold maxLen at hm
  have HL := Lib.hid hl
  clear hl
  go_enter Try.func19, Try.ntmps19
  go_wp2_with (first
    | (go_at_call 33; refine (step_any _ _ _).mono ?_; rintro e w' ⟨rfl, rfl⟩))
  go_loop [5, 6] (fun x i => ∃ k : Nat, k ≤ n ∧ i = .int .i64 k ∧ x = .int .u64 (goes (mixd s n) (xs.take k))) (fun _ i => n - (intOf i).toNat)
  case atStart => exact ⟨0, Nat.zero_le _, rfl, rfl⟩
  case round =>
    obtain ⟨k, hk, rfl, rfl⟩ := hrel
    by_cases hlt : k < n
    · obtain ⟨ad, rfl⟩ : ∃ ad, A = some ad := by
        cases A with
        | none => have := h.zero.1; omega
        | some ad => exact ⟨ad, rfl⟩
      have hcy := (h.cell ad rfl k hlt).2
      have hb := h.small.at_ k
      obtain ⟨hb0, hb1⟩ := hb
      have HV := Lib.hid (goes_succ (mixd s n) xs k (by rw [HL.out]; exact hlt))
      go_wp2_with (first
        | (go_at_call 33; refine (step_any _ _ _).mono ?_; rintro e w' ⟨rfl, rfl⟩))
      go_round
      case rel => exact ⟨k + 1, by omega, by go_num, by rw [HV.out]⟩
      case measure => simp [intOf]; omega
    · go_wp2
      go_ret
      exact ⟨by rw [List.take_of_length_le (by rw [HL.out]; omega)]; rfl, rfl⟩

end Go.Proofs.Ytfmkmmmaoiepmaa
