/- Numbers as decimals: what the reference and package lines answer of them. Conditions: the library's variables lie as they are laid; no text is longer than memory bears. -/
import Derived.Test.YtaillbmmkiklcaaDoorBase
namespace Go.Proofs.YtaillbmmkiklcaaDoor
open Go.RowKit

theorem cut_any (s : ByteArray) (k : Nat) (hk : k ≤ 1000) (w : World) :
    Calls Tryd.prog 8 #[.string s, .int .i64 (k : Int)] w fun e w' => e = .returned (.string (txt ((oct s).take k))) ∧ w = w' := by
  rcases Nat.lt_or_ge k s.size with h | h
  · have t1 : decide ((k : Int) < (s.size : Int)) = true := by simp; omega
    go_enter Tryd.func8, Tryd.ntmps8
    go_wp2
    go_ret
    refine ⟨?_, rfl⟩
    rw [extract_txt]
    simp
  · have t1 : decide ((k : Int) < (s.size : Int)) = false := by simp; omega
    go_enter Tryd.func8, Tryd.ntmps8
    go_wp2
    go_ret
    refine ⟨?_, rfl⟩
    rw [List.take_of_length_le (by rw [oct_len]; exact h), txt_oct]
    rfl

theorem dig_step (u c : Nat) (h : 48 ≤ c) (hc : c ≤ 57) : IntKind.u64.wrap (IntKind.u64.wrap ((u : Int) * 10) + ((c : Int) - 48)) = (((u * 10 + (c - 48)) % 18446744073709551616 : Nat) : Int) := by
  simp only [IntKind.wrap_u64]
  omega
set_option maxRecDepth 100000 in
theorem dig_any (s : ByteArray) (hs : s.size ≤ 1000) (w : World) :
    Calls Tryd.prog 24 #[.string s] w fun e w' => e = .returned (.tuple #[.int .u64 (digN (oct s)), .bool (digB (oct s))]) ∧ w = w' := by
  go_enter Tryd.func24, Tryd.ntmps24
  go_wp2
  go_loop [4, 5] (fun x i => ∃ k u : Nat, k ≤ s.size ∧ i = .int .i64 k ∧ x = .int .u64 (u : Int) ∧ spellW 0 ((oct s).take k) = some u) (fun _ i => s.size - (intOf i).toNat)
  case atStart => exact ⟨0, 0, Nat.zero_le _, rfl, rfl, rfl⟩
  case round =>
    obtain ⟨k, u, hk, rfl, rfl, hu⟩ := hrel
    by_cases hlt : k < s.size
    · have hT := Lib.hid (oct_take s k hlt)
      have hD := Lib.hid (oct_drop s k hlt)
      have HU := Lib.hid hu
      clear hu
      by_cases hc : 48 ≤ s[k].toNat ∧ s[k].toNat ≤ 57
      · have t1 : decide ((s[k].toNat : Int) < 48) = false := by simp; omega
        have t2 : decide ((57 : Int) < (s[k].toNat : Int)) = false := by simp; omega
        obtain ⟨b0, b1⟩ := hc
        have HS := Lib.hid (dig_step u s[k].toNat b0 b1)
        go_wp2
        go_round
        case rel =>
          refine ⟨k + 1, (u * 10 + (s[k].toNat - 48)) % 18446744073709551616, by omega, by go_num, by rw [HS.out], ?_⟩
          rw [hT.out, spellW_snoc, HU.out]
          simp only [Option.bind_some, spellW]
          rw [if_pos ⟨b0, b1⟩]
        case measure => simp [intOf]; omega
      · have hn : spellW 0 (oct s) = none := by
          rw [← List.take_append_drop k (oct s), hD.out]
          exact spellW_none _ hc _ _ _
        have eN : digN (oct s) = 0 := by simp [digN, hn]
        have eB : digB (oct s) = false := by simp [digB, hn]
        have HN := Lib.hid eN
        have HB := Lib.hid eB
        clear hn eN eB
        by_cases h1 : s[k].toNat < 48
        · have t1 : decide ((s[k].toNat : Int) < 48) = true := by simp; omega
          go_wp2
          go_ret2
          rw [HN.out, HB.out]
          exact ⟨rfl, rfl⟩
        · have t1 : decide ((s[k].toNat : Int) < 48) = false := by simp; omega
          have t2 : decide ((57 : Int) < (s[k].toNat : Int)) = true := by simp; omega
          go_wp2
          go_ret2
          rw [HN.out, HB.out]
          exact ⟨rfl, rfl⟩
    · obtain rfl : k = s.size := by omega
      rw [List.take_of_length_le (by rw [oct_len]; exact Nat.le_refl _)] at hu
      have eN : digN (oct s) = u := by simp [digN, hu]
      have eB : digB (oct s) = (decide (0 < s.size) && decide (s.size < 20)) := by simp [digB, hu, oct_len]
      have HE := Lib.hid eN
      have HB := Lib.hid eB
      clear hu eN eB
      rcases Nat.eq_zero_or_pos s.size with h0 | h0
      · have t1 : decide ((0 : Int) < (s.size : Int)) = false := decide_eq_false (by omega)
        have e1 : decide (0 < s.size) = false := decide_eq_false (by omega)
        go_wp2
        go_ret2
        rw [HE.out, HB.out, e1]
        exact ⟨rfl, rfl⟩
      · have t1 : decide ((0 : Int) < (s.size : Int)) = true := decide_eq_true (by omega)
        have e1 : decide (0 < s.size) = true := decide_eq_true (by omega)
        have e2 : decide ((s.size : Int) < 20) = decide (s.size < 20) := decide_eq_decide.2 (by omega)
        have H2 := Lib.hid e2
        clear e2
        go_wp2
        all_goals go_ret2
        all_goals rw [HE.out, HB.out, e1]
        all_goals refine ⟨?_, rfl⟩
        all_goals simp
        all_goals omega

/-! ### the reference's decimal -/
theorem byte_of (u : Nat) : ((UInt8.ofNat (48 + u % 10)).toNat : Int) = 48 + (u : Int) % 10 := by
  rw [digit_nat (u % 10) (by omega)]
  omega
theorem conv_one (u : Nat) (w : World) : (convert 50 9 (.slice (some ⟨w.heap.size, 0, none⟩) 1 1)).run Tryd.prog (w.alloc (.cells #[.int .u8 (48 + (u : Int) % 10)] 5)) = .ok (.string (txt [UInt8.ofNat (48 + u % 10)])) (w.alloc (.cells #[.int .u8 (48 + (u : Int) % 10)] 5)) := by
  refine run_convert_bytes_back _ 50 9 5 ⟨w.heap.size, 0, none⟩ 1 [UInt8.ofNat (48 + u % 10)] Tryd.underlying50 Tryd.underlying5 Tryd.underlying9 fun j hj => ?_
  obtain rfl : j = 0 := by simpa using hj
  have e : (⟨w.heap.size, 0, none⟩ : Addr).add 0 = ⟨w.heap.size, 0, none⟩ := rfl
  rw [e, World.cell?_alloc_new]
  show some (Value.int .u8 (48 + (u : Int) % 10)) = _
  rw [← byte_of]
  rfl
theorem txt_app (a b : List UInt8) : txt a ++ txt b = txt (a ++ b) := by
  have h : oct (txt a ++ txt b) = a ++ b := by simp [oct, txt]
  rw [← h, txt_oct]
theorem decD_len (u : Nat) (h : u < 18446744073709551616) : (decD u).length ≤ 20 := by
  unfold decD
  split
  · simp
  · rw [Lib.decDigits_length]
    exact nDigits_le 19 u (by omega)
theorem itoa_neg (n : Int) (h : n < 0) : Lib.itoa n = 45 :: decD n.natAbs := by
  unfold Lib.itoa
  rw [if_pos h, dec_pos _ (by omega)]
theorem itoa_pos (n : Int) (h : 0 < n) : Lib.itoa n = decD n.natAbs := by
  unfold Lib.itoa
  rw [if_neg (by omega), dec_pos _ (by omega)]
  congr 1
  omega
theorem itoa_zero : Lib.itoa 0 = [48] := by
  unfold Lib.itoa
  rw [if_neg (by omega)]
  exact dec_zero

set_option maxRecDepth 100000 in
theorem refdec_any (n : Int) (hn : Wide n) (w : World) :
    Calls Tryd.prog 18 #[.int .i64 n] w fun e w' => e = .returned (.string (txt (Lib.itoa n))) ∧ Below w.heap.size w w' := by
  obtain ⟨hn0, hn1⟩ := hn
  by_cases h0 : n = 0
  · subst h0
    go_enter Tryd.func18, Tryd.ntmps18
    go_wp2
    go_ret
    refine ⟨?_, Below.refl _ _⟩
    rw [itoa_zero]
    rfl
  · have t1 : (n == 0) = false := by simpa using h0
    have hu0 : n.natAbs < 18446744073709551616 := by omega
    rcases Int.lt_or_gt_of_ne h0 with hs | hs
    all_goals first
      | (have t2 : decide (n < 0) = true := decide_eq_true hs
         have e1 : IntKind.u64.wrap n = n + 18446744073709551616 := by rw [IntKind.wrap_u64]; omega
         have e2 : IntKind.u64.wrap (-(n + 18446744073709551616)) = (n.natAbs : Int) := by rw [IntKind.wrap_u64]; omega
         have HI : Hid (txt (Lib.itoa n) = ⟨#[45]⟩ ++ txt (decD n.natAbs)) := Lib.hid (by rw [itoa_neg n hs]; exact (txt_app [45] _).symm)
         generalize n.natAbs = u0 at *
         clear hs
         go_enter Tryd.func18, Tryd.ntmps18
         go_wp2)
      | (have t2 : decide (n < 0) = false := decide_eq_false (by omega)
         have e1 : IntKind.u64.wrap n = (n.natAbs : Int) := by rw [IntKind.wrap_u64]; omega
         have HI : Hid (txt (Lib.itoa n) = ⟨#[]⟩ ++ txt (decD n.natAbs)) := Lib.hid (by rw [itoa_pos n hs]; exact (txt_app [] _).symm)
         generalize n.natAbs = u0 at *
         clear hs
         go_enter Tryd.func18, Tryd.ntmps18
         go_wp2)
    all_goals
      go_loopw [3, 5] (fun x s wr => ∃ (u : Nat) (q : List UInt8), x = .int .u64 (u : Int) ∧ s = .string (txt q) ∧ u < 18446744073709551616 ∧ decD u ++ q = decD u0 ∧ Below w.heap.size w wr) (fun x _ _ => (intOf x).toNat)
      case atStart => exact ⟨u0, [], rfl, rfl, hu0, by simp, Below.refl _ _⟩
      case round =>
        obtain ⟨u, q, rfl, rfl, hu, hd, hb⟩ := hrel
        have hq : q.length ≤ 20 := by
          have h1 := congrArg List.length hd
          rw [List.length_append] at h1
          have := decD_len u0 hu0
          omega
        have HD := Lib.hid hd
        clear hd
        have hs2 : (txt q).size ≤ 20 := by rw [txt_size]; exact hq
        have hbs := hb.size
        by_cases hlt : u = 0
        · have t3 : decide ((0 : Int) < (u : Int)) = false := decide_eq_false (by omega)
          have HZ : Hid (txt q = txt (decD u0)) := Lib.hid (by rw [← HD.out, hlt]; rfl)
          have hz : u ≤ 0 := by omega
          clear hlt
          go_wp2
          go_ret
          refine ⟨?_, hb⟩
          rw [HI.out, ← HZ.out]
          try rfl
        · have t3 : decide ((0 : Int) < (u : Int)) = true := decide_eq_true (by omega)
          have hcv := conv_one u wr
          have HS := Lib.hid (decD_step u hlt)
          obtain ⟨c, hc⟩ : ∃ c, c = UInt8.ofNat (48 + u % 10) := ⟨_, rfl⟩
          rw [← hc] at hcv HS
          have hs1 : (txt [c]).size = 1 := txt_size _
          clear hc
          go_wp2
          go_roundw
          case rel => exact ⟨u / 10, c :: q, by go_num, by rw [txt_app]; rfl, by omega, by rw [← HD.out, HS.out]; simp, hb.alloc hbs _⟩
          case measure => simp [intOf]; omega
end Go.Proofs.YtaillbmmkiklcaaDoor
