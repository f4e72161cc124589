/- Decimals as octets; what the reference's Decimal and lines' Decimal answer. Conditions: the library's table of powers of ten lies as it is laid. -/
import Derived.Test.YtmkdmnaonddghaaDoorShape
import Derived.Test.YtmkdmnaonddghaaDoorWords
import Derived.Test.YtmkdmnaonddghaaDoorShelf
import Derived.Lib.ItoaLen
namespace Go.Proofs.YtmkdmnaonddghaaDoor
open Go.RowKit Nine

section
open Go.Lib
theorem digit_nat (d : Nat) (h : d < 10) : (UInt8.ofNat (48 + d)).toNat = 48 + d := by
  rw [UInt8.toNat_ofNat']
  omega
/-- The digits of a number, none for 0. -/
def decD (u : Nat) : List UInt8 := if u = 0 then [] else decDigits u
theorem decD_step (u : Nat) (h : u ≠ 0) : decD u = decD (u / 10) ++ [UInt8.ofNat (48 + u % 10)] := by
  unfold decD
  rw [if_neg h, decDigits]
  by_cases h10 : u < 10
  · have e : u / 10 = 0 := by omega
    have e2 : u % 10 = u := Nat.mod_eq_of_lt h10
    simp [h10, e, e2]
  · have e : ¬ u / 10 = 0 := by omega
    simp [h10, e]

theorem dec_pos (u : Nat) (h : u ≠ 0) : decDigits u = decD u := by simp [decD, h]
theorem dec_zero : decDigits 0 = [48] := by rw [decDigits, dif_pos (by decide)]; rfl
/-- The numbers of 64 bits. -/
def Wide (n : Int) : Prop := -9223372036854775808 ≤ n ∧ n ≤ 9223372036854775807
theorem nDigits_le : ∀ (k u : Nat), u < 10 ^ (k + 1) → nDigits u ≤ k + 1
  | 0, u, h => by rw [nDigits_small (by simpa using h)]; omega
  | k + 1, u, h => by
    by_cases h10 : u < 10
    · rw [nDigits_small h10]; omega
    · rw [nDigits_big h10]
      have := nDigits_le k (u / 10) (by rw [Nat.pow_succ] at h; omega)
      omega
end
theorem byte_of (u : Nat) : ((UInt8.ofNat (48 + u % 10)).toNat : Int) = 48 + (u : Int) % 10 := by
  rw [digit_nat (u % 10) (by omega)]
  omega
theorem conv_one (u : Nat) (w : World) : (convert 29 9 (.slice (some ⟨w.heap.size, 0, none⟩) 1 1)).run Tryd.prog (w.alloc (.cells #[.int .u8 (48 + (u : Int) % 10)] 5)) = .ok (.string (txt [UInt8.ofNat (48 + u % 10)])) (w.alloc (.cells #[.int .u8 (48 + (u : Int) % 10)] 5)) := by
  refine run_convert_bytes_back _ 29 9 5 ⟨w.heap.size, 0, none⟩ 1 [UInt8.ofNat (48 + u % 10)] Tryd.underlying29 Tryd.underlying5 Tryd.underlying9 fun j hj => ?_
  obtain rfl : j = 0 := by simpa using hj
  have e : (⟨w.heap.size, 0, none⟩ : Addr).add 0 = ⟨w.heap.size, 0, none⟩ := rfl
  rw [e, World.cell?_alloc_new]
  show some (Value.int .u8 (48 + (u : Int) % 10)) = _
  rw [← byte_of]
  rfl
theorem txt_app (a b : List UInt8) : txt a ++ txt b = txt (a ++ b) := by
  have h : oct (txt a ++ txt b) = a ++ b := by simp [oct, txt]
  rw [← h, txt_oct]
theorem decD_len (u : Nat) (h : u < 18446744073709551616) : (decD u).length ≤ 20 := by
  unfold decD
  split
  · simp
  · rw [Lib.decDigits_length]
    exact nDigits_le 19 u (by omega)
theorem itoa_neg (n : Int) (h : n < 0) : Lib.itoa n = 45 :: decD n.natAbs := by
  unfold Lib.itoa
  rw [if_pos h, dec_pos _ (by omega)]
theorem itoa_pos (n : Int) (h : 0 < n) : Lib.itoa n = decD n.natAbs := by
  unfold Lib.itoa
  rw [if_neg (by omega), dec_pos _ (by omega)]
  congr 1
  omega
theorem itoa_zero : Lib.itoa 0 = [48] := by
  unfold Lib.itoa
  rw [if_neg (by omega)]
  exact dec_zero

set_option maxRecDepth 100000 in
theorem refdec_any (n : Int) (hn : Wide n) (w : World) :
    Calls Tryd.prog 30 #[.int .i64 n] w fun e w' => e = .returned (.string (txt (Lib.itoa n))) ∧ Below w.heap.size w w' := by
  obtain ⟨hn0, hn1⟩ := hn
  by_cases h0 : n = 0
  · subst h0
    go_enter Tryd.func30, Tryd.ntmps30
    go_wp2
    go_ret
    refine ⟨?_, Below.refl _ _⟩
    rw [itoa_zero]
    rfl
  · have t1 : (n == 0) = false := by simpa using h0
    have hu0 : n.natAbs < 18446744073709551616 := by omega
    rcases Int.lt_or_gt_of_ne h0 with hs | hs
    all_goals first
      | (have t2 : decide (n < 0) = true := decide_eq_true hs
         have e1 : IntKind.u64.wrap n = n + 18446744073709551616 := by rw [IntKind.wrap_u64]; omega
         have e2 : IntKind.u64.wrap (-(n + 18446744073709551616)) = (n.natAbs : Int) := by rw [IntKind.wrap_u64]; omega
         have HI : Hid (txt (Lib.itoa n) = ⟨#[45]⟩ ++ txt (decD n.natAbs)) := Lib.hid (by rw [itoa_neg n hs]; exact (txt_app [45] _).symm)
         generalize n.natAbs = u0 at *
         clear hs
         go_enter Tryd.func30, Tryd.ntmps30
         go_wp2)
      | (have t2 : decide (n < 0) = false := decide_eq_false (by omega)
         have e1 : IntKind.u64.wrap n = (n.natAbs : Int) := by rw [IntKind.wrap_u64]; omega
         have HI : Hid (txt (Lib.itoa n) = ⟨#[]⟩ ++ txt (decD n.natAbs)) := Lib.hid (by rw [itoa_pos n hs]; exact (txt_app [] _).symm)
         generalize n.natAbs = u0 at *
         clear hs
         go_enter Tryd.func30, Tryd.ntmps30
         go_wp2)
    all_goals
      go_loopw [3, 5] (fun x s wr => ∃ (u : Nat) (q : List UInt8), x = .int .u64 (u : Int) ∧ s = .string (txt q) ∧ u < 18446744073709551616 ∧ decD u ++ q = decD u0 ∧ Below w.heap.size w wr) (fun x _ _ => (intOf x).toNat)
      case atStart => exact ⟨u0, [], rfl, rfl, hu0, by simp, Below.refl _ _⟩
      case round =>
        obtain ⟨u, q, rfl, rfl, hu, hd, hb⟩ := hrel
        have hq : q.length ≤ 20 := by
          have h1 := congrArg List.length hd
          rw [List.length_append] at h1
          have := decD_len u0 hu0
          omega
        have HD := Lib.hid hd
        clear hd
        have hs2 : (txt q).size ≤ 20 := by rw [txt_size]; exact hq
        have hbs := hb.size
        by_cases hlt : u = 0
        · have t3 : decide ((0 : Int) < (u : Int)) = false := decide_eq_false (by omega)
          have HZ : Hid (txt q = txt (decD u0)) := Lib.hid (by rw [← HD.out, hlt]; rfl)
          have hz : u ≤ 0 := by omega
          clear hlt
          go_wp2
          go_ret
          refine ⟨?_, hb⟩
          rw [HI.out, ← HZ.out]
          try rfl
        · have t3 : decide ((0 : Int) < (u : Int)) = true := decide_eq_true (by omega)
          have hcv := conv_one u wr
          have HS := Lib.hid (decD_step u hlt)
          obtain ⟨c, hc⟩ : ∃ c, c = UInt8.ofNat (48 + u % 10) := ⟨_, rfl⟩
          rw [← hc] at hcv HS
          have hs1 : (txt [c]).size = 1 := txt_size _
          clear hc
          go_wp2
          go_roundw
          case rel => exact ⟨u / 10, c :: q, by go_num, by rw [txt_app]; rfl, by omega, by rw [← HD.out, HS.out]; simp, hb.alloc hbs _⟩
          case measure => simp [intOf]; omega

theorem grow_below (w : World) (k : Nat) (os : Array Obj) : Below w.heap.size w (Sort.grow (w.drewN k) os) := by
  refine ⟨rfl, rfl, rfl, ?_, fun b hb => ?_⟩
  · show w.heap.size ≤ (w.heap ++ os).size
    simp
  · show (w.heap ++ os)[b]? = w.heap[b]?
    rw [Array.getElem?_append_left hb]
theorem txt_itoa (n : Int) : (⟨(Lib.itoa n).toArray⟩ : ByteArray) = txt (Lib.itoa n) := rfl
theorem dec_any (n : Int) (hn : Wide n) (w : World) (hL : Laid w) : Calls Tryd.prog 26 #[.int .i64 n] w fun e w' => e = .returned (.string (txt (Lib.itoa n))) ∧ Below w.heap.size w w' := by
  go_enter Tryd.func26, Tryd.ntmps26
  go_wp2_with fail
  refine (Tryd.strconv_FormatInt_10 n hn.1 hn.2 w hL.tens).mono ?_
  rintro e w1 ⟨rfl, k, os, rfl⟩
  rw [txt_itoa]
  have hb := grow_below w k os
  have hs : (txt (Lib.itoa n)).size ≤ 21 := by rw [txt_size]; exact Lib.itoa_length_le n hn.1 hn.2
  generalize Sort.grow (w.drewN k) os = w1 at *
  go_wp2_with fail
  refine (clone_any _ (by omega) w1).mono ?_
  rintro e w2 ⟨rfl, hb2⟩
  go_wp2
  go_ret
  exact ⟨rfl, hb.trans (hb2.mono hb.size)⟩

end Go.Proofs.YtmkdmnaonddghaaDoor
