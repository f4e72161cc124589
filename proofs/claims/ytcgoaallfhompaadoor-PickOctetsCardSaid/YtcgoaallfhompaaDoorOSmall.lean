/- Contracts of the small functions: fits, split, Digit, join, Take. Conditions: as each says. -/
import Derived.Test.YtcgoaallfhompaaDoorOMath
namespace Go.Proofs.YtcgoaallfhompaaDoor.O
set_option linter.unusedSimpArgs false
set_option linter.unusedVariables false
open Go.RowKit
theorem _root_.Go.Proofs.YtcgoaallfhompaaDoor.fits_yes (k : Int) (h1 : 1 ≤ k) (h8 : k ≤ 8) (w : World) : Calls Tryd.prog 32 #[.int .i64 k] w fun e w' => e = .returned (.bool true) ∧ w = w' := by
  go_enter Tryd.func32, Tryd.ntmps32
  go_wp2
  go_ret
  exact ⟨by simp, rfl⟩
theorem _root_.Go.Proofs.YtcgoaallfhompaaDoor.fits_no (k : Int) (h : k < 1 ∨ 8 < k) (w : World) : Calls Tryd.prog 32 #[.int .i64 k] w fun e w' => e = .returned (.bool false) ∧ w = w' := by
  rcases h with h | h
  · go_enter Tryd.func32, Tryd.ntmps32
    go_wp2
    go_ret
    exact ⟨rfl, rfl⟩
  · have h1 : 1 ≤ k := by omega
    have h2 : decide (k ≤ 8) = false := by simp; omega
    go_enter Tryd.func32, Tryd.ntmps32
    go_wp2
    go_ret
    exact ⟨rfl, rfl⟩
def _root_.Go.Proofs.YtcgoaallfhompaaDoor.digAgg (n : Int) : Array Value := #[.int .u8 (n / 72057594037927936 % 256), .int .u8 (n / 281474976710656 % 256), .int .u8 (n / 1099511627776 % 256), .int .u8 (n / 4294967296 % 256), .int .u8 (n / 16777216 % 256), .int .u8 (n / 65536 % 256), .int .u8 (n / 256 % 256), .int .u8 (n % 256)]
theorem _root_.Go.Proofs.YtcgoaallfhompaaDoor.digAgg_eq (n : Int) : digAgg n = (nums (digs n 8)).toArray := by simp [digAgg, nums, digs, dig]
theorem _root_.Go.Proofs.YtcgoaallfhompaaDoor.digs_drop (n : Int) (k : Nat) (hk : k ≤ 8) : (digs n 8).drop (8 - k) = digs n k := by
  rcases (by omega : k = 0 ∨ k = 1 ∨ k = 2 ∨ k = 3 ∨ k = 4 ∨ k = 5 ∨ k = 6 ∨ k = 7 ∨ k = 8) with rfl | rfl | rfl | rfl | rfl | rfl | rfl | rfl | rfl <;> rfl
set_option maxHeartbeats 4000000 in
theorem _root_.Go.Proofs.YtcgoaallfhompaaDoor.split_any (n : Int) (w : World) : Calls Tryd.prog 33 #[.int .i64 n] w fun e w' => e = .returned (.agg #[.int .u8 (n / 72057594037927936 % 256), .int .u8 (n / 281474976710656 % 256), .int .u8 (n / 1099511627776 % 256), .int .u8 (n / 4294967296 % 256), .int .u8 (n / 16777216 % 256), .int .u8 (n / 65536 % 256), .int .u8 (n / 256 % 256), .int .u8 (n % 256)]) ∧ Below w.heap.size w w' := by
  go_enter Tryd.func33, Tryd.ntmps33
  go_wp2
  refine wp_loop_rounds 9 ?_
  iterate 9 (rw [rounds_succ]; go_wp2)
  refine bodyPost_ret (v := .agg #[.int .u8 (n / 72057594037927936 % 256), .int .u8 (n / 281474976710656 % 256), .int .u8 (n / 1099511627776 % 256), .int .u8 (n / 4294967296 % 256), .int .u8 (n / 16777216 % 256), .int .u8 (n / 65536 % 256), .int .u8 (n / 256 % 256), .int .u8 (n % 256)]) (by simp [results, Tryd.results33, go_sem]) rfl ⟨rfl, ?_⟩
  exact ((Below.refl _ _).alloc (Nat.le_refl _) _).alloc (by simp) _
theorem _root_.Go.Proofs.YtcgoaallfhompaaDoor.ojoin_any (xs : List Int) (A : Option Addr) (n cap : Nat) (w : World) (B : Nat) (h : Oct w B A n cap xs) (hn : n ≤ 8) :
    Calls Tryd.prog 37 #[.slice A n cap] w fun e w' => e = .returned (.int .i64 (wrap64 (val xs))) ∧ w = w' := by
  have hl := h.len
  have HL := Lib.hid hl
  clear hl
  go_enter Tryd.func37, Tryd.ntmps37
  go_wp2
  go_loop [3, 4, 7] (fun x _ i => ∃ k : Nat, k ≤ n ∧ i = .int .i64 k ∧ x = .int .i64 (wrap64 (val (xs.take k)))) (fun _ _ i => n - (intOf i).toNat)
  case atStart => exact ⟨0, Nat.zero_le _, rfl, by simp [val, wrap64]⟩
  case round =>
    obtain ⟨k, hk, rfl, rfl⟩ := hrel
    by_cases hlt : k < n
    · obtain ⟨ad, rfl⟩ : ∃ ad, A = some ad := by
        cases A with
        | none => have := h.zero.1; omega
        | some ad => exact ⟨ad, rfl⟩
      have hcy := (h.cell ad rfl k hlt).2
      have hb := h.small.at_ k
      obtain ⟨hb0, hb1⟩ := hb
      have HS := Lib.hid (or_step (val (xs.take k)) _ hb0 hb1)
      have HV := Lib.hid (val_succ xs k (by rw [HL.out]; exact hlt))
      go_wp2
      go_round
      case rel => exact ⟨k + 1, by omega, by go_num, by rw [HS.out, HV.out]⟩
      case measure => simp [intOf]; omega
    · go_wp2
      go_ret
      exact ⟨by rw [List.take_of_length_le (by rw [HL.out]; omega)]; rfl, rfl⟩
theorem _root_.Go.Proofs.YtcgoaallfhompaaDoor.take_ref (xs : List Int) (A : Option Addr) (n cap : Nat) (w : World) (B : Nat) (h : Oct w B A n cap xs) (hn : n ≤ 8) :
    Calls Tryd.prog 25 #[.slice A n cap] w fun e w' => e = .returned (.int .i64 (wrap64 (val xs))) ∧ w = w' := by
  have hl := h.len
  have HL := Lib.hid hl
  clear hl
  go_enter Tryd.func25, Tryd.ntmps25
  go_wp2
  go_loop [3, 4] (fun x i => ∃ k : Nat, k ≤ n ∧ i = .int .i64 k ∧ x = .int .u64 (IntKind.u64.wrap (val (xs.take k)))) (fun _ i => n - (intOf i).toNat)
  case atStart => exact ⟨0, Nat.zero_le _, rfl, rfl⟩
  case round =>
    obtain ⟨k, hk, rfl, rfl⟩ := hrel
    by_cases hlt : k < n
    · obtain ⟨ad, rfl⟩ : ∃ ad, A = some ad := by
        cases A with
        | none => have := h.zero.1; omega
        | some ad => exact ⟨ad, rfl⟩
      have hcy := (h.cell ad rfl k hlt).2
      have hb := h.small.at_ k
      obtain ⟨hb0, hb1⟩ := hb
      have HS := Lib.hid (u64_step (val (xs.take k)) (xs[k]?.getD 0))
      have HV := Lib.hid (val_succ xs k (by rw [HL.out]; exact hlt))
      go_wp2
      go_round
      case rel => exact ⟨k + 1, by omega, by go_num, by rw [HV.out, ← HS.out]⟩
      case measure => simp [intOf]; omega
    · have HW := Lib.hid (wrap_u64 (val (xs.take k)))
      go_wp2
      go_ret
      refine ⟨?_, rfl⟩
      show Ending.returned (.int .i64 (wrap64 (IntKind.u64.wrap (val (xs.take k))))) = _
      rw [HW.out, List.take_of_length_le (by rw [HL.out]; omega)]
end Go.Proofs.YtcgoaallfhompaaDoor.O
