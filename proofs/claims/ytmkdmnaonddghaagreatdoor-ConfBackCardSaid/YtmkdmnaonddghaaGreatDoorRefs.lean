/- What the law's words, the reference's Join and warrenerplain's Texts (of two equal rows) answer. Conditions: texts of at most 2000 octets; at most 1000 words of at most 1000 octets each. -/
import Derived.Test.YtmkdmnaonddghaaGreatDoorJoin
import Derived.OwnWalk
import Derived.Deep.QuietTactic
import Derived.BigQuiet
namespace Go.Proofs.YtmkdmnaonddghaaGreatDoor
open Go.RowKit Nine

theorem refjoin_any (A : Option Addr) (n cap : Nat) (xs : List (List UInt8)) (B : Nat) (w : World) (h : Row w B A n cap xs) (hn : n ≤ 1000) (hx : ∀ x ∈ xs, x.length ≤ 1000) :
    Calls Tryz.prog 22 #[.slice A n cap] w fun e w' => e = .returned (.string (txt (joinL xs))) ∧ w = w' := by
  have hl := h.len
  have hmx := h.most
  have hrm := h.room
  unfold maxLen at hmx
  have HL := Lib.hid hl
  clear hl
  go_enter Tryz.func22, Tryz.ntmps22
  go_wp2
  go_loop [3, 4] (fun s i => ∃ k : Nat, k ≤ n ∧ i = .int .i64 k ∧ s = .string (txt (joinL (xs.take k)))) (fun _ i => n - (intOf i).toNat)
  case atStart => exact ⟨0, Nat.zero_le _, rfl, rfl⟩
  case round =>
    obtain ⟨k, hk, rfl, rfl⟩ := hrel
    have hs1 : (txt (joinL (xs.take k))).size ≤ 1001000 := by rw [txt_size]; exact take_small hx k (by omega)
    by_cases hlt : k < n
    · obtain ⟨ad, rfl, _, hcy⟩ := h.at_ k hlt
      have HT := Lib.hid (join_take HL.out hlt)
      have hs2 : (txt (xs.getD k [])).size ≤ 1000 := by rw [txt_size]; exact getD_small hx k
      have HE0 : Hid (k = 0 → joinL (xs.take k) = []) := Lib.hid fun h0 => by rw [h0]; rfl
      generalize xs.getD k [] = y at *
      generalize joinL (xs.take k) = q at *
      by_cases h0 : k = 0
      · have HQ : Hid (joinL (xs.take (k + 1)) = y) := Lib.hid (by rw [HT.out, if_pos h0])
        have HE : Hid (q = []) := Lib.hid (HE0.out h0)
        have t1 : decide ((0 : Int) < (k : Int)) = false := decide_eq_false (by omega)
        have hz : k ≤ 0 := by omega
        clear h0
        go_wp2
        go_round
        case rel => exact ⟨k + 1, by omega, by go_num, by rw [HQ.out, HE.out, txt_app]; rfl⟩
        case measure => simp [intOf]; omega
      · have HQ : Hid (joinL (xs.take (k + 1)) = q ++ 32 :: y) := Lib.hid (by rw [HT.out, if_neg h0])
        have t1 : decide ((0 : Int) < (k : Int)) = true := decide_eq_true (by omega)
        have hz : 0 < k := by omega
        clear h0
        go_wp2
        go_round
        case rel => exact ⟨k + 1, by omega, by go_num, by rw [HQ.out, sp_app]⟩
        case measure => simp [intOf]; omega
    · go_wp2
      go_ret
      have ek : k = n := by omega
      refine ⟨?_, rfl⟩
      rw [List.take_of_length_le (by rw [HL.out]; omega)]
      rfl

end Go.Proofs.YtmkdmnaonddghaaGreatDoor
