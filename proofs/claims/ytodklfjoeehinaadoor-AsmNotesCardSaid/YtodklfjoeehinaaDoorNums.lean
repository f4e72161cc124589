/- Numbers as decimals: what the reference and package lines answer of them. Conditions: the library's variables lie as they are laid; no text is longer than memory bears. -/
import Derived.Test.YtodklfjoeehinaaDoorDec8
namespace Go.Proofs.YtodklfjoeehinaaDoor
open Go.RowKit Nine

theorem cut_any (s : ByteArray) (k : Nat) (hk : k ≤ 1000) (w : World) :
    Calls Tryd.prog 7 #[.string s, .int .i64 (k : Int)] w fun e w' => e = .returned (.string (txt ((oct s).take k))) ∧ w = w' := by
  rcases Nat.lt_or_ge k s.size with h | h
  · have t1 : decide ((k : Int) < (s.size : Int)) = true := by simp; omega
    go_enter Tryd.func7, Tryd.ntmps7
    go_wp2
    go_ret
    refine ⟨?_, rfl⟩
    rw [extract_txt]
    simp
  · have t1 : decide ((k : Int) < (s.size : Int)) = false := by simp; omega
    go_enter Tryd.func7, Tryd.ntmps7
    go_wp2
    go_ret
    refine ⟨?_, rfl⟩
    rw [List.take_of_length_le (by rw [oct_len]; exact h), txt_oct]
    rfl

theorem dig_step (u c : Nat) (h : 48 ≤ c) (hc : c ≤ 57) : IntKind.u64.wrap (IntKind.u64.wrap ((u : Int) * 10) + ((c : Int) - 48)) = (((u * 10 + (c - 48)) % 18446744073709551616 : Nat) : Int) := by
  simp only [IntKind.wrap_u64]
  omega
set_option maxRecDepth 100000 in
theorem dig_any (s : ByteArray) (hs : s.size ≤ 1000) (w : World) :
    Calls Tryd.prog 37 #[.string s] w fun e w' => e = .returned (.tuple #[.int .u64 (digN (oct s)), .bool (digB (oct s))]) ∧ w = w' := by
  go_enter Tryd.func37, Tryd.ntmps37
  go_wp2
  go_loop [4, 5] (fun x i => ∃ k u : Nat, k ≤ s.size ∧ i = .int .i64 k ∧ x = .int .u64 (u : Int) ∧ spellW 0 ((oct s).take k) = some u) (fun _ i => s.size - (intOf i).toNat)
  case atStart => exact ⟨0, 0, Nat.zero_le _, rfl, rfl, rfl⟩
  case round =>
    obtain ⟨k, u, hk, rfl, rfl, hu⟩ := hrel
    by_cases hlt : k < s.size
    · have hT := Lib.hid (oct_take s k hlt)
      have hD := Lib.hid (oct_drop s k hlt)
      have HU := Lib.hid hu
      clear hu
      by_cases hc : 48 ≤ s[k].toNat ∧ s[k].toNat ≤ 57
      · have t1 : decide ((s[k].toNat : Int) < 48) = false := by simp; omega
        have t2 : decide ((57 : Int) < (s[k].toNat : Int)) = false := by simp; omega
        obtain ⟨b0, b1⟩ := hc
        have HS := Lib.hid (dig_step u s[k].toNat b0 b1)
        go_wp2
        go_round
        case rel =>
          refine ⟨k + 1, (u * 10 + (s[k].toNat - 48)) % 18446744073709551616, by omega, by go_num, by rw [HS.out], ?_⟩
          rw [hT.out, spellW_snoc, HU.out]
          simp only [Option.bind_some, spellW]
          rw [if_pos ⟨b0, b1⟩]
        case measure => simp [intOf]; omega
      · have hn : spellW 0 (oct s) = none := by
          rw [← List.take_append_drop k (oct s), hD.out]
          exact spellW_none _ hc _ _ _
        have eN : digN (oct s) = 0 := by simp [digN, hn]
        have eB : digB (oct s) = false := by simp [digB, hn]
        have HN := Lib.hid eN
        have HB := Lib.hid eB
        clear hn eN eB
        by_cases h1 : s[k].toNat < 48
        · have t1 : decide ((s[k].toNat : Int) < 48) = true := by simp; omega
          go_wp2
          go_ret2
          rw [HN.out, HB.out]
          exact ⟨rfl, rfl⟩
        · have t1 : decide ((s[k].toNat : Int) < 48) = false := by simp; omega
          have t2 : decide ((57 : Int) < (s[k].toNat : Int)) = true := by simp; omega
          go_wp2
          go_ret2
          rw [HN.out, HB.out]
          exact ⟨rfl, rfl⟩
    · obtain rfl : k = s.size := by omega
      rw [List.take_of_length_le (by rw [oct_len]; exact Nat.le_refl _)] at hu
      have eN : digN (oct s) = u := by simp [digN, hu]
      have eB : digB (oct s) = (decide (0 < s.size) && decide (s.size < 20)) := by simp [digB, hu, oct_len]
      have HE := Lib.hid eN
      have HB := Lib.hid eB
      clear hu eN eB
      rcases Nat.eq_zero_or_pos s.size with h0 | h0
      · have t1 : decide ((0 : Int) < (s.size : Int)) = false := decide_eq_false (by omega)
        have e1 : decide (0 < s.size) = false := decide_eq_false (by omega)
        go_wp2
        go_ret2
        rw [HE.out, HB.out, e1]
        exact ⟨rfl, rfl⟩
      · have t1 : decide ((0 : Int) < (s.size : Int)) = true := decide_eq_true (by omega)
        have e1 : decide (0 < s.size) = true := decide_eq_true (by omega)
        have e2 : decide ((s.size : Int) < 20) = decide (s.size < 20) := decide_eq_decide.2 (by omega)
        have H2 := Lib.hid e2
        clear e2
        go_wp2
        all_goals go_ret2
        all_goals rw [HE.out, HB.out, e1]
        all_goals refine ⟨?_, rfl⟩
        all_goals simp
        all_goals omega

/-! ### the reference's decimal -/
end Go.Proofs.YtodklfjoeehinaaDoor
