/- The walk of 'OctetReads'. Conditions: none. -/
import Derived.Test.YtoejoacffgnjnaaCallOp
namespace Go.Proofs.Ytoejoacffgnjnaa
open Go.RowKit

/-- The calls that came in: call i is for K i octets, with a sign if S i. -/
def IsOps (w : World) (A : Option Addr) (n cap : Nat) (K : Nat → Int) (S : Nat → Bool) : Prop :=
  n ≤ cap ∧ cap ≤ maxLen ∧ ∀ i, i < n → ∃ b off, A = some ⟨b, off, none⟩ ∧ b < w.heap.size ∧ w.cell? ⟨b, off + i * 2, none⟩ = some (.int .i64 (K i)) ∧ w.cell? ⟨b, off + i * 2 + 1, none⟩ = some (.bool (S i))

/-- The loop, in a round. -/
def Turn (w : World) (g : Nat) (xs : List Int) (a : Nat) (bad : Bool) (wr : World) : Prop := Rd wr g xs a (!bad) ∧ Below w.heap.size w wr ∧ w.heap.size ≤ g

theorem turn_next {w wr w3 : World} {g a q : Nat} {xs : List Int} {b : Bool} (h : Turn w g xs a b wr) (hr : Rd w3 g xs (a + q) true) (hg : wr.grownBy w3 (some g)) (n : Nat) : Turn w g xs (a + q) false (w3.drewN n) :=
  ⟨hr.drewN n, below_drew (h.2.1.grown hg h.2.1.size (fun k hk => by injection hk with hk; rw [← hk]; exact h.2.2)) n, h.2.2⟩
theorem turn_stop {w wr w3 : World} {g a : Nat} {xs : List Int} {b : Bool} (h : Turn w g xs a b wr) (hr : Rd w3 g xs a false) (hg : wr.grownBy w3 (some g)) (n : Nat) : Turn w g xs a true (w3.drewN n) :=
  ⟨hr.drewN n, below_drew (h.2.1.grown hg h.2.1.size (fun k hk => by injection hk with hk; rw [← hk]; exact h.2.2)) n, h.2.2⟩
theorem bad_ways {bad : Bool} {W a len : Int} (h : ¬ (bad = false ∧ 1 ≤ W ∧ W ≤ 8 ∧ a + W ≤ len)) : ((!bad) = false ∨ W < 1 ∨ 8 < W ∨ len < a + W) ∧
    (bad = true ∨ (bad = false ∧ decide (W < 1) = true) ∨ (bad = false ∧ decide (W < 1) = false ∧ decide (8 < W) = true) ∨ (bad = false ∧ decide (W < 1) = false ∧ decide (8 < W) = false ∧ decide (len < a + W) = true ∧ 1 ≤ W ∧ W ≤ 8)) := by
  cases bad with
  | true => exact ⟨.inl rfl, .inl rfl⟩
  | false =>
    have h' : ¬ (1 ≤ W ∧ W ≤ 8 ∧ a + W ≤ len) := fun hh => h ⟨rfl, hh⟩
    clear h
    refine ⟨.inr (by omega), .inr ?_⟩
    by_cases h1 : W < 1
    · exact .inl ⟨rfl, by simpa using h1⟩
    · by_cases h2 : 8 < W
      · exact .inr (.inl ⟨rfl, by simpa using h1, by simpa using h2⟩)
      · exact .inr (.inr ⟨rfl, by simpa using h1, by simpa using h2, by simp; omega, by omega, by omega⟩)
theorem call_sig {w : World} {g : Nat} {xs : List Int} {a k : Nat} (h : Rd w g xs a true) (h1 : 1 ≤ k) (h8 : k ≤ 8) (hak : a + k ≤ xs.length) :
    Calls Try.prog 13 #[.pointer (some ⟨g, 0, none⟩), .agg #[.int .i64 (k : Int), .bool true]] w (Reads (sg ((xs.drop a).take k)) xs g a k w) := call_yes true h h1 h8 hak
theorem call_num {w : World} {g : Nat} {xs : List Int} {a k : Nat} (h : Rd w g xs a true) (h1 : 1 ≤ k) (h8 : k ≤ 8) (hak : a + k ≤ xs.length) :
    Calls Try.prog 13 #[.pointer (some ⟨g, 0, none⟩), .agg #[.int .i64 (k : Int), .bool false]] w (Reads (wrap64 (val ((xs.drop a).take k))) xs g a k w) := call_yes false h h1 h8 hak
/-- 'b[l:l+k]', k not 0. -/
theorem cut2 (A : Option Addr) (n cap a k : Nat) (h1 : 1 ≤ k) (hc : a + k ≤ cap) (w : World) :
    (Instr.slice 22 (.slice A n cap) (some (.int .i64 (a : Int))) (some (.int .i64 ((a : Int) + k))) none).run Try.prog w = .ok (.slice (A.map (·.add a)) k (cap - a)) w := by
  rw [run_slice_lh w 22 A n cap under22 .i64 .i64 _ _ (by omega) (by omega) (by omega), size22]
  have e1 : ((a : Int) + k).toNat = a + k := by omega
  have e2 : a + k - a = k := by omega
  have e3 : ¬ cap = a := by omega
  simp only [Result.andThen, sliced, e1, e2, Int.toNat_natCast, if_neg e3, Nat.mul_one]

set_option maxRecDepth 100000 in
set_option maxHeartbeats 2000000 in
theorem reads_small (A : Option Addr) (len cap : Nat) (xs : List Int) (B : Option Addr) (n c : Nat) (K : Nat → Int) (S : Nat → Bool) (w : World) (h : Oct w w.heap.size A len cap xs) (hlen : len ≤ 400) (ho : IsOps w B n c K S) :
    Calls Try.prog 4 #[.slice A len cap, .slice B n c] w (Trial w) := by
  obtain rfl := h.len
  have b3 : (xs.length : Int) ≤ 400 := by omega
  have hn63 : (n : Int) ≤ 9223372036854775807 := by have := ho.1; have := ho.2.1; unfold maxLen at this; omega
  go_enter Try.func4, Try.ntmps4
  go_wp2_with (first
    | (go_at_call 7; refine (alive_any _).mono ?_; rintro e w1 ⟨rfl, hb1⟩; have ho1 := h.below hb1)
    | (go_at_call 10; refine (new_any xs _ _ _ _ (ho1.more hb1.size) (by omega)).mono ?_; rintro e w2 ⟨g, rfl, hr2, hb2, hg2⟩))
  have HT : Turn w g xs 0 false w2 := ⟨hr2, hb1.trans (hb2.mono hb1.size), Nat.le_trans hb1.size hg2⟩
  clear hr2 hb2 hg2 ho1 hb1
  go_loopw [6, 7, 8] (fun at_ bd i wr => ∃ (k a : Nat) (bad : Bool), i = .int .i64 k ∧ at_ = .int .i64 a ∧ bd = .bool bad ∧ k ≤ n ∧ k ≤ 60 ∧ Turn w g xs a bad wr) (fun _ _ i _ => 60 - (intOf i).toNat)
  case atStart => exact ⟨0, 0, false, rfl, rfl, rfl, Nat.zero_le _, Nat.zero_le _, HT⟩
  case round =>
    obtain ⟨k, a, bad, rfl, rfl, rfl, hkn, hk60, HTr⟩ := hrel
    clear HT
    have hlt := HTr.2.2
    by_cases hk1 : k < n
    · by_cases hk2 : k < 60
      · have hk3 : (k : Int) < 60 := by omega
        obtain ⟨b, off, rfl, hbw, hc0, hc1⟩ := ho.2.2 k hk1
        have c0 := (HTr.2.1.cell (p := ⟨b, off + k * 2, none⟩) hbw).trans hc0
        have c1 := (HTr.2.1.cell (p := ⟨b, off + k * 2 + 1, none⟩) hbw).trans hc1
        clear hc0 hc1
        generalize K k = W at c0
        generalize S k = s at c1
        by_cases hgood : bad = false ∧ 1 ≤ W ∧ W ≤ 8 ∧ (a : Int) + W ≤ xs.length
        · obtain ⟨rfl, hW1, hW8, haW⟩ := hgood
          obtain ⟨q, rfl⟩ := Int.eq_ofNat_of_zero_le (show 0 ≤ W by omega)
          have hcap := h.room
          have hsl := cut2 A xs.length cap a q (by omega) (by omega)
          have hox := ((h.below HTr.2.1).window (l := a) (k := q) (c := cap - a) (by omega) (by omega) (by omega) (by have := h.most; omega))
          have t1 : decide ((q : Int) < 1) = false := by simp; omega
          have t2 : decide ((8 : Int) < (q : Int)) = false := by simp; omega
          have t3 : decide ((xs.length : Int) < (a : Int) + q) = false := by simp; omega
          cases s with
          | true =>
            go_wp2_with fail
            refine (take_ref _ _ _ _ _ _ hox (by omega)).mono ?_
            rintro e w' ⟨rfl, rfl⟩
            go_wp2_with fail
            refine (signed_ref _ _ _ _ _ _ hox (by omega) (by omega)).mono ?_
            rintro e w' ⟨rfl, rfl⟩
            go_wp2_with fail
            refine (call_sig HTr.1 (by omega) (by omega) (by omega)).mono ?_
            rintro e w3 ⟨rfl, hr3, hg3⟩
            go_wp2_with fail
            refine (at_any hr3).mono ?_
            rintro e w' ⟨rfl, rfl⟩
            rw [Int.natCast_add]
            go_wp2_with fail
            refine (left_any hr3).mono ?_
            rintro e w' ⟨rfl, q', rfl⟩
            rw [Int.natCast_add]
            go_wp2_with fail
            refine (bad_any (hr3.drewN q')).mono ?_
            rintro e w' ⟨rfl, rfl⟩
            go_wp2_with fail
            have HT2 := turn_next HTr hr3 hg3 q'
            clear hr3 hg3 HTr
            go_roundw
            case rel => exact ⟨k + 1, a + q, false, by go_num, by go_num, rfl, by omega, by omega, HT2⟩
            case measure => simp [intOf]; omega
          | false =>
            go_wp2_with fail
            refine (take_ref _ _ _ _ _ _ hox (by omega)).mono ?_
            rintro e w' ⟨rfl, rfl⟩
            go_wp2_with fail
            refine (call_num HTr.1 (by omega) (by omega) (by omega)).mono ?_
            rintro e w3 ⟨rfl, hr3, hg3⟩
            go_wp2_with fail
            refine (at_any hr3).mono ?_
            rintro e w' ⟨rfl, rfl⟩
            rw [Int.natCast_add]
            go_wp2_with fail
            refine (left_any hr3).mono ?_
            rintro e w' ⟨rfl, q', rfl⟩
            rw [Int.natCast_add]
            go_wp2_with fail
            refine (bad_any (hr3.drewN q')).mono ?_
            rintro e w' ⟨rfl, rfl⟩
            go_wp2_with fail
            have HT2 := turn_next HTr hr3 hg3 q'
            clear hr3 hg3 HTr
            go_roundw
            case rel => exact ⟨k + 1, a + q, false, by go_num, by go_num, rfl, by omega, by omega, HT2⟩
            case measure => simp [intOf]; omega
        · obtain ⟨hkk, tt⟩ := bad_ways hgood
          have hal : (a : Int) ≤ (xs.length : Int) := by have := HTr.1.le; omega
          have HKK := Lib.hid hkk
          clear hgood hkk
          rcases tt with rfl | ⟨rfl, t1⟩ | ⟨rfl, t1, t2⟩ | ⟨rfl, t1, t2, t3, w1', w8'⟩
          all_goals
            go_wp2_with fail
            refine (call_no s HTr.1 HKK.out).mono ?_
            rintro e w3 ⟨rfl, hr3, hg3⟩
            go_wp2_with fail
            refine (at_any hr3).mono ?_
            rintro e w' ⟨rfl, rfl⟩
            go_wp2_with fail
            refine (left_any hr3).mono ?_
            rintro e w' ⟨rfl, q', rfl⟩
            go_wp2_with fail
            refine (bad_any (hr3.drewN q')).mono ?_
            rintro e w' ⟨rfl, rfl⟩
            go_wp2_with fail
            have HT2 := turn_stop HTr hr3 hg3 q'
            clear hr3 hg3 HTr
            go_roundw
            case rel => exact ⟨k + 1, a, true, by go_num, rfl, rfl, by omega, by omega, HT2⟩
            case measure => simp [intOf]; omega
      · obtain rfl : k = 60 := by omega
        go_wp2_with fail
        refine (at_any HTr.1).mono ?_
        rintro e w' ⟨rfl, rfl⟩
        go_wp2
        go_ret
        exact ⟨by simp, HTr.2.1⟩
    · obtain rfl : k = n := by omega
      go_wp2_with fail
      refine (at_any HTr.1).mono ?_
      rintro e w' ⟨rfl, rfl⟩
      go_wp2
      go_ret
      exact ⟨by simp, HTr.2.1⟩

set_option maxRecDepth 100000 in
set_option maxHeartbeats 2000000 in
theorem reads_big (A : Option Addr) (len cap : Nat) (zs : List Int) (B : Option Addr) (n c : Nat) (K : Nat → Int) (S : Nat → Bool) (w : World) (hz : Oct w w.heap.size A len cap zs) (hlen : 400 < len) (ho : IsOps w B n c K S) :
    Calls Try.prog 4 #[.slice A len cap, .slice B n c] w (Trial w) := by
  have h := hz.front (k := 400) (by omega)
  have hzr := hz.room
  clear hz
  generalize zs.take 400 = xs at h
  have hl := h.len
  have hsl0 : ∀ w : World, (Instr.slice 22 (.slice A len cap) none (some (.int .i64 400)) none).run Try.prog w = .ok (.slice A xs.length cap) w := by
    rw [hl]
    exact cut_front A len cap 400 (by omega) (by omega)
  have b4 : (400 : Int) < (len : Int) := by omega
  have b3 : (xs.length : Int) ≤ 400 := by omega
  rw [← hl] at h
  clear hl
  have hn63 : (n : Int) ≤ 9223372036854775807 := by have := ho.1; have := ho.2.1; unfold maxLen at this; omega
  go_enter Try.func4, Try.ntmps4
  go_wp2_with (first
    | (go_at_call 7; refine (alive_any _).mono ?_; rintro e w1 ⟨rfl, hb1⟩; have ho1 := h.below hb1)
    | (go_at_call 10; refine (new_any xs _ _ _ _ (ho1.more hb1.size) (by omega)).mono ?_; rintro e w2 ⟨g, rfl, hr2, hb2, hg2⟩))
  have HT : Turn w g xs 0 false w2 := ⟨hr2, hb1.trans (hb2.mono hb1.size), Nat.le_trans hb1.size hg2⟩
  clear hr2 hb2 hg2 ho1 hb1
  go_loopw [6, 7, 8] (fun at_ bd i wr => ∃ (k a : Nat) (bad : Bool), i = .int .i64 k ∧ at_ = .int .i64 a ∧ bd = .bool bad ∧ k ≤ n ∧ k ≤ 60 ∧ Turn w g xs a bad wr) (fun _ _ i _ => 60 - (intOf i).toNat)
  case atStart => exact ⟨0, 0, false, rfl, rfl, rfl, Nat.zero_le _, Nat.zero_le _, HT⟩
  case round =>
    obtain ⟨k, a, bad, rfl, rfl, rfl, hkn, hk60, HTr⟩ := hrel
    clear HT
    have hlt := HTr.2.2
    by_cases hk1 : k < n
    · by_cases hk2 : k < 60
      · have hk3 : (k : Int) < 60 := by omega
        obtain ⟨b, off, rfl, hbw, hc0, hc1⟩ := ho.2.2 k hk1
        have c0 := (HTr.2.1.cell (p := ⟨b, off + k * 2, none⟩) hbw).trans hc0
        have c1 := (HTr.2.1.cell (p := ⟨b, off + k * 2 + 1, none⟩) hbw).trans hc1
        clear hc0 hc1
        generalize K k = W at c0
        generalize S k = s at c1
        by_cases hgood : bad = false ∧ 1 ≤ W ∧ W ≤ 8 ∧ (a : Int) + W ≤ xs.length
        · obtain ⟨rfl, hW1, hW8, haW⟩ := hgood
          obtain ⟨q, rfl⟩ := Int.eq_ofNat_of_zero_le (show 0 ≤ W by omega)
          have hcap := h.room
          have hsl := cut2 A xs.length cap a q (by omega) (by omega)
          have hox := ((h.below HTr.2.1).window (l := a) (k := q) (c := cap - a) (by omega) (by omega) (by omega) (by have := h.most; omega))
          have t1 : decide ((q : Int) < 1) = false := by simp; omega
          have t2 : decide ((8 : Int) < (q : Int)) = false := by simp; omega
          have t3 : decide ((xs.length : Int) < (a : Int) + q) = false := by simp; omega
          cases s with
          | true =>
            go_wp2_with fail
            refine (take_ref _ _ _ _ _ _ hox (by omega)).mono ?_
            rintro e w' ⟨rfl, rfl⟩
            go_wp2_with fail
            refine (signed_ref _ _ _ _ _ _ hox (by omega) (by omega)).mono ?_
            rintro e w' ⟨rfl, rfl⟩
            go_wp2_with fail
            refine (call_sig HTr.1 (by omega) (by omega) (by omega)).mono ?_
            rintro e w3 ⟨rfl, hr3, hg3⟩
            go_wp2_with fail
            refine (at_any hr3).mono ?_
            rintro e w' ⟨rfl, rfl⟩
            rw [Int.natCast_add]
            go_wp2_with fail
            refine (left_any hr3).mono ?_
            rintro e w' ⟨rfl, q', rfl⟩
            rw [Int.natCast_add]
            go_wp2_with fail
            refine (bad_any (hr3.drewN q')).mono ?_
            rintro e w' ⟨rfl, rfl⟩
            go_wp2_with fail
            have HT2 := turn_next HTr hr3 hg3 q'
            clear hr3 hg3 HTr
            go_roundw
            case rel => exact ⟨k + 1, a + q, false, by go_num, by go_num, rfl, by omega, by omega, HT2⟩
            case measure => simp [intOf]; omega
          | false =>
            go_wp2_with fail
            refine (take_ref _ _ _ _ _ _ hox (by omega)).mono ?_
            rintro e w' ⟨rfl, rfl⟩
            go_wp2_with fail
            refine (call_num HTr.1 (by omega) (by omega) (by omega)).mono ?_
            rintro e w3 ⟨rfl, hr3, hg3⟩
            go_wp2_with fail
            refine (at_any hr3).mono ?_
            rintro e w' ⟨rfl, rfl⟩
            rw [Int.natCast_add]
            go_wp2_with fail
            refine (left_any hr3).mono ?_
            rintro e w' ⟨rfl, q', rfl⟩
            rw [Int.natCast_add]
            go_wp2_with fail
            refine (bad_any (hr3.drewN q')).mono ?_
            rintro e w' ⟨rfl, rfl⟩
            go_wp2_with fail
            have HT2 := turn_next HTr hr3 hg3 q'
            clear hr3 hg3 HTr
            go_roundw
            case rel => exact ⟨k + 1, a + q, false, by go_num, by go_num, rfl, by omega, by omega, HT2⟩
            case measure => simp [intOf]; omega
        · obtain ⟨hkk, tt⟩ := bad_ways hgood
          have hal : (a : Int) ≤ (xs.length : Int) := by have := HTr.1.le; omega
          have HKK := Lib.hid hkk
          clear hgood hkk
          rcases tt with rfl | ⟨rfl, t1⟩ | ⟨rfl, t1, t2⟩ | ⟨rfl, t1, t2, t3, w1', w8'⟩
          all_goals
            go_wp2_with fail
            refine (call_no s HTr.1 HKK.out).mono ?_
            rintro e w3 ⟨rfl, hr3, hg3⟩
            go_wp2_with fail
            refine (at_any hr3).mono ?_
            rintro e w' ⟨rfl, rfl⟩
            go_wp2_with fail
            refine (left_any hr3).mono ?_
            rintro e w' ⟨rfl, q', rfl⟩
            go_wp2_with fail
            refine (bad_any (hr3.drewN q')).mono ?_
            rintro e w' ⟨rfl, rfl⟩
            go_wp2_with fail
            have HT2 := turn_stop HTr hr3 hg3 q'
            clear hr3 hg3 HTr
            go_roundw
            case rel => exact ⟨k + 1, a, true, by go_num, rfl, rfl, by omega, by omega, HT2⟩
            case measure => simp [intOf]; omega
      · obtain rfl : k = 60 := by omega
        go_wp2_with fail
        refine (at_any HTr.1).mono ?_
        rintro e w' ⟨rfl, rfl⟩
        go_wp2
        go_ret
        exact ⟨by simp, HTr.2.1⟩
    · obtain rfl : k = n := by omega
      go_wp2_with fail
      refine (at_any HTr.1).mono ?_
      rintro e w' ⟨rfl, rfl⟩
      go_wp2
      go_ret
      exact ⟨by simp, HTr.2.1⟩

theorem reads_any (A : Option Addr) (len cap : Nat) (xs : List Int) (B : Option Addr) (n c : Nat) (K : Nat → Int) (S : Nat → Bool) (w : World) (h : Oct w w.heap.size A len cap xs) (ho : IsOps w B n c K S) :
    Calls Try.prog 4 #[.slice A len cap, .slice B n c] w (Trial w) := by
  by_cases hlen : len ≤ 400
  · exact reads_small A len cap xs B n c K S w h hlen ho
  · exact reads_big A len cap xs B n c K S w h (by omega) ho
end Go.Proofs.Ytoejoacffgnjnaa
