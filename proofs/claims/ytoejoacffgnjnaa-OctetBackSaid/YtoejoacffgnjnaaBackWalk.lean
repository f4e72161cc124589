/- The walk of 'OctetBack'. Conditions: none. -/
import Derived.Test.YtoejoacffgnjnaaBack
namespace Go.Proofs.Ytoejoacffgnjnaa
open Go.RowKit

theorem back_val (x : Int) (k : Nat) (xs : List Int) (h : sg (digs x k) = x) : sg (((digs x k ++ xs).drop 0).take k) = x := by
  rw [List.drop_zero, List.take_append_of_le_length (by rw [digs_len]; omega), List.take_of_length_le (by rw [digs_len]; omega), h]
theorem back_left (x : Int) (k len : Nat) (xs : List Int) (h : xs.length = len) : ((digs x k ++ xs).length : Int) - ((0 + k : Nat) : Int) = len := by
  rw [List.length_append, digs_len, h]
  omega
theorem back_room (x : Int) (k len : Nat) (xs : List Int) (h : xs.length = len) : 0 + k ≤ (digs x k ++ xs).length := by
  rw [List.length_append, digs_len, h]
  omega
theorem digs_n {w : World} {B : Nat} {A : Option Addr} {n cap k : Nat} {x : Int} (h : Oct w B A n cap (digs x k)) : n = k := by
  have := h.len
  rw [digs_len] at this
  exact this.symm

set_option maxHeartbeats 2000000 in
theorem back_small (n a : Int) (A : Option Addr) (len cap : Nat) (xs : List Int) (w : World) (h : Oct w w.heap.size A len cap xs) (hlen : len ≤ 100) :
    Calls Try.prog 5 #[.int .i64 n, .int .i64 a, .slice A len cap] w (Trial w) := by
  obtain ⟨k, hk1, hk8, hN⟩ := near_any a
  have b1 : (1 : Int) ≤ k := by omega
  have b2 : (k : Int) ≤ 8 := by omega
  have b3 : (len : Int) ≤ 100 := by omega
  have HS := Lib.hid (sg_digs n k hk1 hk8)
  have HV := Lib.hid (back_val _ k xs (sg_digs n k hk1 hk8))
  have HL := Lib.hid (back_left (wrap64 (n * 2 ^ (64 - 8 * k)) / 2 ^ (64 - 8 * k)) k len xs h.len)
  have HR := Lib.hid (back_room (wrap64 (n * 2 ^ (64 - 8 * k)) / 2 ^ (64 - 8 * k)) k len xs h.len)
  have HN := Lib.hid hN
  clear hN
  go_enter Try.func5, Try.ntmps5
  go_wp2_with (first
    | (go_at_call 7; refine (alive_any _).mono ?_; rintro e w1 ⟨rfl, hb1⟩)
    | (go_at_call 17; refine (HN.out _).mono ?_; rintro e w' ⟨rfl, rfl⟩))
  generalize wrap64 (n * 2 ^ (64 - 8 * k)) / 2 ^ (64 - 8 * k) = x at *
  refine (put_yes [] none 0 0 x k _ (Oct.nil _ _) (by omega) hk1 hk8).mono ?_
  rintro e w2 ⟨A2, n2, cap2, rfl, ho2, hb2, hown2⟩
  simp only [List.nil_append] at ho2 hown2
  obtain rfl := digs_n ho2
  have hx2 := (h.below hb1).below (hb2.mono hb1.size)
  go_wp2_with (first
    | (at_builtin; refine wpList_append_octets rfl (.tmp 33) (.tmp 34) rfl w1.heap.size (.slice A2 n2 cap2) n2 (digs x n2) rfl hown2 w.heap.size A len cap xs rfl hx2 (by omega) hb2.size ?_; intro v3 w3 hown3 hg3; obtain ⟨A3, cap3, rfl, ho3⟩ := Oct.own hown3 ((digs_small x n2).app h.small))
    | (go_at_call 10; refine (new_any _ _ _ _ _ ho3 (by omega)).mono ?_; rintro e w4 ⟨g, rfl, hr4, hb4, hg4⟩)
    | (go_at_call 18; refine (signed_yes (k := n2) hr4 hk1 hk8 HR.out).mono ?_; rintro e w5 ⟨rfl, hr5, hg5⟩; rw [HV.out])
    | (go_at_call 15; refine (left_any hr5).mono ?_; rintro e w' ⟨rfl, q, rfl⟩; rw [HL.out])
    | (go_at_call 16; refine (bad_any (hr5.drewN q)).mono ?_; rintro e w' ⟨rfl, rfl⟩))
  go_ret
  refine ⟨by simp, ?_⟩
  have s2 : Below w.heap.size w w2 := hb1.trans (hb2.mono hb1.size)
  have s3 : Below w.heap.size w w3 := s2.grown hg3 s2.size (fun k hk => Nat.le_trans hb1.size (hown2.lt k hk).1)
  have s4 : Below w.heap.size w w4 := s3.trans (hb4.mono s3.size)
  have s5 : Below w.heap.size w w5 := s4.grown hg5 s4.size (fun k hk => by injection hk with hk; have := s3.size; omega)
  exact below_drew s5 _

set_option maxHeartbeats 2000000 in
theorem back_big (n a : Int) (A : Option Addr) (len cap : Nat) (zs : List Int) (w : World) (hz : Oct w w.heap.size A len cap zs) (hlen : 100 < len) :
    Calls Try.prog 5 #[.int .i64 n, .int .i64 a, .slice A len cap] w (Trial w) := by
  have h := hz.front (k := 100) (by omega)
  have hsl := cut_front A len cap 100 (by omega) (by have := hz.room; omega)
  have hsl : ∀ w : World, (Instr.slice 22 (.slice A len cap) none (some (.int .i64 100)) none).run Try.prog w = .ok (.slice A 100 cap) w := hsl
  generalize zs.take 100 = xs at h
  obtain ⟨k, hk1, hk8, hN⟩ := near_any a
  have b1 : (1 : Int) ≤ k := by omega
  have b2 : (k : Int) ≤ 8 := by omega
  have b3 : (100 : Int) < (len : Int) := by omega
  have HS := Lib.hid (sg_digs n k hk1 hk8)
  have HV := Lib.hid (back_val _ k xs (sg_digs n k hk1 hk8))
  have HL := Lib.hid (back_left (wrap64 (n * 2 ^ (64 - 8 * k)) / 2 ^ (64 - 8 * k)) k 100 xs h.len)
  have HR := Lib.hid (back_room (wrap64 (n * 2 ^ (64 - 8 * k)) / 2 ^ (64 - 8 * k)) k 100 xs h.len)
  have HN := Lib.hid hN
  clear hN
  go_enter Try.func5, Try.ntmps5
  go_wp2_with (first
    | (go_at_call 7; refine (alive_any _).mono ?_; rintro e w1 ⟨rfl, hb1⟩)
    | (go_at_call 17; refine (HN.out _).mono ?_; rintro e w' ⟨rfl, rfl⟩))
  generalize wrap64 (n * 2 ^ (64 - 8 * k)) / 2 ^ (64 - 8 * k) = x at *
  refine (put_yes [] none 0 0 x k _ (Oct.nil _ _) (by omega) hk1 hk8).mono ?_
  rintro e w2 ⟨A2, n2, cap2, rfl, ho2, hb2, hown2⟩
  simp only [List.nil_append] at ho2 hown2
  obtain rfl := digs_n ho2
  have hx2 := (h.below hb1).below (hb2.mono hb1.size)
  go_wp2_with (first
    | (at_builtin; refine wpList_append_octets rfl (.tmp 33) (.tmp 34) rfl w1.heap.size (.slice A2 n2 cap2) n2 (digs x n2) rfl hown2 w.heap.size A 100 cap xs rfl hx2 (by omega) hb2.size ?_; intro v3 w3 hown3 hg3; obtain ⟨A3, cap3, rfl, ho3⟩ := Oct.own hown3 ((digs_small x n2).app h.small))
    | (go_at_call 10; refine (new_any _ _ _ _ _ ho3 (by omega)).mono ?_; rintro e w4 ⟨g, rfl, hr4, hb4, hg4⟩)
    | (go_at_call 18; refine (signed_yes (k := n2) hr4 hk1 hk8 HR.out).mono ?_; rintro e w5 ⟨rfl, hr5, hg5⟩; rw [HV.out])
    | (go_at_call 15; refine (left_any hr5).mono ?_; rintro e w' ⟨rfl, q, rfl⟩; rw [HL.out])
    | (go_at_call 16; refine (bad_any (hr5.drewN q)).mono ?_; rintro e w' ⟨rfl, rfl⟩))
  go_ret
  refine ⟨by simp, ?_⟩
  have s2 : Below w.heap.size w w2 := hb1.trans (hb2.mono hb1.size)
  have s3 : Below w.heap.size w w3 := s2.grown hg3 s2.size (fun k hk => Nat.le_trans hb1.size (hown2.lt k hk).1)
  have s4 : Below w.heap.size w w4 := s3.trans (hb4.mono s3.size)
  have s5 : Below w.heap.size w w5 := s4.grown hg5 s4.size (fun k hk => by injection hk with hk; have := s3.size; omega)
  exact below_drew s5 _

theorem back_any (n a : Int) (A : Option Addr) (len cap : Nat) (zs : List Int) (w : World) (h : Oct w w.heap.size A len cap zs) :
    Calls Try.prog 5 #[.int .i64 n, .int .i64 a, .slice A len cap] w (Trial w) := by
  by_cases hlen : len ≤ 100
  · exact back_small n a A len cap zs w h hlen
  · exact back_big n a A len cap zs w h (by omega)
end Go.Proofs.Ytoejoacffgnjnaa
