/- Contracts of mix.Sum and of the statements' own trial. Conditions: none. -/
import Derived.Test.YtodhafbpminenaaMixes
namespace Go.Proofs.Ytodhafbpminenaa
open Go.RowKit

/-- The sum gone on with octets. -/
def goes (x : Int) (xs : List Int) : Int := xs.foldl mixd x
theorem goes_succ (x : Int) (xs : List Int) (k : Nat) (h : k < xs.length) : goes x (xs.take (k + 1)) = mixd (goes x (xs.take k)) (xs[k]?.getD 0) := by
  unfold goes
  rw [List.take_add_one, List.foldl_append, List.getElem?_eq_getElem h]
  rfl
theorem sum_any (s : Int) (xs : List Int) (A : Option Addr) (n cap : Nat) (w : World) (B : Nat) (h : Oct w B A n cap xs) :
    Calls Try.prog 9 #[.int .u64 s, .slice A n cap] w fun e w' => e = .returned (.int .u64 (goes (mixd s n) xs)) ∧ w = w' := by
  have hl := h.len
  have hm := Nat.le_trans h.room h.most
  unfold maxLen at hm
  have HL := Lib.hid hl
  clear hl
  go_enter Try.func9, Try.ntmps9
  go_wp2_with (first
    | (go_at_call 7; refine (mix_any _ _ _).mono ?_; rintro e w' ⟨rfl, rfl⟩))
  go_loop [5, 7, 15] (fun x _ i => ∃ k : Nat, k ≤ n ∧ i = .int .i64 k ∧ x = .int .u64 (goes (mixd s n) (xs.take k))) (fun _ _ i => n - (intOf i).toNat)
  case atStart => exact ⟨0, Nat.zero_le _, rfl, rfl⟩
  case round =>
    obtain ⟨k, hk, rfl, rfl⟩ := hrel
    by_cases hlt : k < n
    · obtain ⟨ad, rfl⟩ : ∃ ad, A = some ad := by
        cases A with
        | none => have := h.zero.1; omega
        | some ad => exact ⟨ad, rfl⟩
      have hcy := (h.cell ad rfl k hlt).2
      have hb := h.small.at_ k
      obtain ⟨hb0, hb1⟩ := hb
      have HV := Lib.hid (goes_succ (mixd s n) xs k (by rw [HL.out]; exact hlt))
      go_wp2_with (first
        | (go_at_call 7; refine (mix_any _ _ _).mono ?_; rintro e w' ⟨rfl, rfl⟩))
      go_round
      case rel => exact ⟨k + 1, by omega, by go_num, by rw [HV.out]⟩
      case measure => simp [intOf]; omega
    · go_wp2
      go_ret
      exact ⟨by rw [List.take_of_length_le (by rw [HL.out]; omega)]; rfl, rfl⟩

theorem alive_any (w : World) : Calls Try.prog 6 #[] w fun e w' => e = .returned (.bool true) ∧ w = w' := by
  have h0 := Lib.hid mixd_00
  have h1 := Lib.hid mixd_01
  go_enter Try.func6, Try.ntmps6
  go_wp2_with (first
    | (go_at_call 7; refine (mix_any _ _ _).mono ?_; rintro e w' ⟨rfl, rfl⟩; first | rw [h0.out] | rw [h1.out])
    | (go_at_call 9; refine (sum_any _ [] _ _ _ _ w.heap.size (Oct.nil _ _)).mono ?_; rintro e w' ⟨rfl, rfl⟩))
  go_ret
  refine ⟨?_, rfl⟩
  show Ending.returned (.bool (goes (mixd 0 0) [] == 0)) = _
  rw [h0.out]
  rfl
end Go.Proofs.Ytodhafbpminenaa
