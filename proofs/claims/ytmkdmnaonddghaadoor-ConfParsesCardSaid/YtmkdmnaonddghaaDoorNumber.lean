/- What Decimal, Number and Small answer, and the reference's Number. Conditions: the library's variables lie as they are laid; no text is longer than memory bears. -/
import Derived.Test.YtmkdmnaonddghaaDoorDec8
import Derived.Lib.ItoaLen
import Derived.Lib.AtoiErrMem
namespace Go.Proofs.YtmkdmnaonddghaaDoor
open Go.RowKit Nine

theorem parse_cases (s : ByteArray) (hs : s.size ≤ 140737488355328) (w : World) (hL : Laid w) :
    (∃ v, Lib.parseIntB 64 (oct s) = .ok v ∧ Calls Tryd.prog 56 #[.string s, .int .i64 10, .int .i64 64] w fun e w' => e = .returned (.tuple #[.int .i64 v, .nilIface]) ∧ Below w.heap.size w w') ∨
    (numL (oct s) = (0, false) ∧ Calls Tryd.prog 56 #[.string s, .int .i64 10, .int .i64 64] w fun e w' => ∃ v N, e = .returned (.tuple #[.int .i64 v, .iface 136 (.pointer (some ⟨N, 0, none⟩))]) ∧ Below w.heap.size w w') := by
  obtain ⟨t1, p1, h1⟩ := hL.syn
  obtain ⟨t2, p2, h2⟩ := hL.rng
  have hz : ∀ x, (∀ v, x ≠ Lib.NumEnd.ok v) → Lib.parseIntB 64 (oct s) = x → numL (oct s) = (0, false) := by
    intro x hx h
    unfold numL
    rw [h]
    cases x
    · exact absurd rfl (hx _)
    · rfl
    · rfl
  cases h : Lib.parseIntB 64 (oct s)
  · rename_i v
    refine .inl ⟨v, rfl, (Tryd.strconv_ParseInt_10_at64_ok s (by omega) v h w).mono ?_⟩
    rintro e w' ⟨rfl, rfl | ⟨t, rfl⟩⟩
    · exact ⟨rfl, Below.refl _ _⟩
    · exact ⟨rfl, Lib.bytesWorld_below _ _ _⟩
  · refine .inr ⟨hz _ (fun _ e => by cases e) h, (Tryd.strconv_ParseInt_10_at64_syntax_var s (by omega) h t1 p1 w h1).mono ?_⟩
    rintro e w' ⟨N, rfl, _, _, hb⟩
    exact ⟨_, N, rfl, hb⟩
  · refine .inr ⟨hz _ (fun _ e => by cases e) h, (Tryd.strconv_ParseInt_10_at64_range_var s (by omega) h t2 p2 w h2).mono ?_⟩
    rintro e w' ⟨N, rfl, _, _, hb⟩
    exact ⟨_, N, rfl, hb⟩
theorem num_any (s : ByteArray) (hs : s.size ≤ 140737488355328) (w : World) (hL : Laid w) :
    Calls Tryd.prog 42 #[.string s] w fun e w' => e = .returned (.tuple #[.int .i64 (numL (oct s)).1, .bool (numL (oct s)).2]) ∧ Below w.heap.size w w' := by
  rcases parse_cases s hs w hL with ⟨v, hp, hC⟩ | ⟨hn, hC⟩
  · have hv := Lib.parseIntB_bounds hp
    have big : (2 : Nat) ^ (64 - 1) = 9223372036854775808 := by decide
    rw [big] at hv
    have hw : Wide v := ⟨by omega, by omega⟩
    have hN : numL (oct s) = if Lib.itoa v = oct s then (v, true) else (0, false) := by unfold numL; rw [hp]
    have hq : decide (txt (Lib.itoa v) = s) = decide (Lib.itoa v = oct s) := decide_eq_decide.2 ⟨fun h => by rw [← h, oct_txt], fun h => by rw [h, txt_oct]⟩
    clear hp hv big
    by_cases he : Lib.itoa v = oct s
    · rw [if_pos he] at hN
      have ht := Lib.hid ((eq_txt (txt (Lib.itoa v)) s).trans (hq.trans (decide_eq_true he)))
      rw [hN]
      clear hN hq he
      go_enter Tryd.func42, Tryd.ntmps42
      go_wp2_with fail
      refine hC.mono ?_
      rintro e w1 ⟨rfl, hb⟩
      have hL1 := hL.on hb
      have ht := ht.out
      go_wp2_with (refine (dec_any v hw _ hL1).mono ?_; rintro e w2 ⟨rfl, hb2⟩)
      go_ret2
      exact ⟨rfl, hb.trans (hb2.mono hb.size)⟩
    · rw [if_neg he] at hN
      have ht := Lib.hid ((eq_txt (txt (Lib.itoa v)) s).trans (hq.trans (decide_eq_false he)))
      rw [hN]
      clear hN hq he
      go_enter Tryd.func42, Tryd.ntmps42
      go_wp2_with fail
      refine hC.mono ?_
      rintro e w1 ⟨rfl, hb⟩
      have hL1 := hL.on hb
      have ht := ht.out
      go_wp2_with (refine (dec_any v hw _ hL1).mono ?_; rintro e w2 ⟨rfl, hb2⟩)
      go_ret2
      exact ⟨rfl, hb.trans (hb2.mono hb.size)⟩
  · rw [hn]
    go_enter Tryd.func42, Tryd.ntmps42
    go_wp2_with fail
    refine hC.mono ?_
    rintro e w1 ⟨v, N, rfl, hb⟩
    go_wp2_with fail
    go_ret2
    exact ⟨rfl, hb⟩

/-! ### the reference's Number -/
end Go.Proofs.YtmkdmnaonddghaaDoor
