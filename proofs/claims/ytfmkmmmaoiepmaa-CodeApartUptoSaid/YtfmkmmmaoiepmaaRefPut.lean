/- The contract of the plain Put: b, and the octets of the number behind it. Conditions: b holds at most 900000000000 octets. -/
import Derived.Test.YtfmkmmmaoiepmaaPut
namespace Go.Proofs.Ytfmkmmmaoiepmaa
open Go.RowKit

set_option maxHeartbeats 1000000 in
set_option maxRecDepth 100000 in
theorem ref_loop (xs : List Int) (A : Option Addr) (n cap : Nat) (m : Int) (k : Nat) (w : World) (h : Oct w w.heap.size A n cap xs) (hn : n ≤ 900000000000) (h1 : 1 ≤ k) (h8 : k ≤ 8) :
    Calls Try.prog 46 #[.slice A n cap, .int .i64 m, .int .i64 k] w (Gives (xs ++ digs m k) w) := by
  obtain ⟨i0, hi0, hz0, hz1, hz2⟩ := info_parts info5
  have Z0 := Lib.hid hz0
  have Z1 := Lib.hid hz1
  have Z2 := Lib.hid hz2
  have I0 := Lib.hid hi0
  clear hz0 hz1 hz2 hi0
  have hl := h.len
  have HL := Lib.hid hl
  clear hl
  have HN := Lib.hid hn
  have hk1 : (1 : Int) ≤ k := by omega
  have hk8 : (k : Int) ≤ 8 := by omega
  have t1 : decide ((k : Int) < 1) = false := by simp; omega
  have t2 : decide ((8 : Int) < (k : Int)) = false := by simp; omega
  go_enter Try.func46, Try.ntmps46
  go_wp2_with (first
    | (at_builtin; refine wpList_append_octets rfl (.tmp 9) (.tmp 10) rfl w.heap.size (.slice none 0 0) 0 [] rfl (World.ownsRow_nil _ _ _ _) w.heap.size A n cap xs rfl h (by omega) (Nat.le_refl _) ?_; intro v1 w1 hown1 hg1; simp only [Nat.zero_add, List.nil_append] at hown1; have hb1 : Below w.heap.size w w1 := (Below.refl _ _).grown hg1 (Nat.le_refl _) (fun g hv => by simp [Value.ownBlock] at hv)))
  clear hn
  have HR : Row m k xs w k v1 w1 := ⟨by rw [Nat.sub_self, List.take_zero, List.append_nil, Nat.add_zero, HL.out]; exact hown1, hb1⟩
  clear hown1 hg1 hb1
  go_loopw [7, 8] (fun v i wr => ∃ (j : Int) (r : Nat), i = .int .i64 j ∧ j + 1 = r ∧ r ≤ k ∧ Row m k xs w r v wr) (fun _ i _ => (intOf i + 1).toNat)
  case atStart => exact ⟨k - 1, k, rfl, by omega, Nat.le_refl _, HR⟩
  case round =>
    obtain ⟨j, r, rfl, hj, hr, HRr⟩ := hrel
    clear HR
    by_cases h0 : r = 0
    · have hj0 : j < 0 := by omega
      clear hj
      subst h0
      go_wp2
      go_ret
      have hown := HRr.1
      rw [Nat.sub_zero, List.take_of_length_le (by rw [digs_len]; omega)] at hown
      obtain ⟨A', cap', he, ho⟩ := Oct.own hown (h.small.app (digs_small m k))
      exact ⟨A', _, cap', by rw [← he]; rfl, ho, HRr.2, by rw [← he]; exact hown⟩
    · obtain ⟨s, rfl⟩ : ∃ s, r = s + 1 := ⟨r - 1, by omega⟩
      obtain rfl : j = (s : Int) := by omega
      clear hj
      have hs0 : (0 : Int) ≤ (s : Int) := by omega
      have hs1 : (s : Int) ≤ 8 := by omega
      have hsz := HRr.2.size
      have hxl := Lib.hid (show xs.length ≤ 900000000000 by rw [HL.out]; exact HN.out)
      go_wp2_with (first
        | (go_at_call 59; refine (digit_any _ _ (by omega) _).mono ?_; rintro e w' ⟨rfl, rfl⟩)
        | (at_builtin; refine wpList_append_own _ rfl (.tmp 25) (.tmp 29) 32 rfl w.heap.size 5 i0 (.int .u8 0) 1 1 Try.underlying32 I0.out Z0.out Z1.out Z2.out rfl (by decide) _ _ _ rfl (HRr.1.alloc _) ⟨wr.heap.size, 0, none⟩ 1 1 [.int .u8 (dig m s)] rfl rfl ?c1 ?c2 ?c3 ?c4 ?c5 ?_))
      case c1 =>
        intro i u hi
        match i, hi with
        | 0, hi => simp at hi; subst hi; simp [Addr.add]
      case c2 => intro u hu; simp at hu; subst hu; rfl
      case c3 => have := hxl.out; unfold maxLen; omega
      case c4 => have := hxl.out; omega
      case c5 => rw [size_alloc]; omega
      intro v' w1 hown1 hg1 _
      have R := row_next (by omega) HRr hown1 hg1
      clear hown1 hg1 HRr
      go_wp2
      go_roundw
      case rel => exact ⟨(s : Int) - 1, s, rfl, by omega, by omega, R⟩
      case measure => simp [intOf]

end Go.Proofs.Ytfmkmmmaoiepmaa
