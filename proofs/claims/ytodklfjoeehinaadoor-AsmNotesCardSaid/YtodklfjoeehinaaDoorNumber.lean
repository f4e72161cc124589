/- What Decimal, Number and Small answer, and the reference's Number. Conditions: the library's variables lie as they are laid; no text is longer than memory bears. -/
import Derived.Test.YtodklfjoeehinaaDoorNums
import Derived.Lib.ItoaLen
import Derived.Lib.AtoiErrMem
namespace Go.Proofs.YtodklfjoeehinaaDoor
open Go.RowKit Nine

theorem parse_cases (s : ByteArray) (hs : s.size ≤ 140737488355328) (w : World) (hL : Laid w) :
    (∃ v, Lib.parseIntB 64 (oct s) = .ok v ∧ Calls Tryd.prog 56 #[.string s, .int .i64 10, .int .i64 64] w fun e w' => e = .returned (.tuple #[.int .i64 v, .nilIface]) ∧ Below w.heap.size w w') ∨
    (numL (oct s) = (0, false) ∧ Calls Tryd.prog 56 #[.string s, .int .i64 10, .int .i64 64] w fun e w' => ∃ v N, e = .returned (.tuple #[.int .i64 v, .iface 100 (.pointer (some ⟨N, 0, none⟩))]) ∧ Below w.heap.size w w') := by
  obtain ⟨t1, p1, h1⟩ := hL.syn
  obtain ⟨t2, p2, h2⟩ := hL.rng
  have hz : ∀ x, (∀ v, x ≠ Lib.NumEnd.ok v) → Lib.parseIntB 64 (oct s) = x → numL (oct s) = (0, false) := by
    intro x hx h
    unfold numL
    rw [h]
    cases x
    · exact absurd rfl (hx _)
    · rfl
    · rfl
  cases h : Lib.parseIntB 64 (oct s)
  · rename_i v
    refine .inl ⟨v, rfl, (Tryd.strconv_ParseInt_10_at64_ok s (by omega) v h w).mono ?_⟩
    rintro e w' ⟨rfl, rfl | ⟨t, rfl⟩⟩
    · exact ⟨rfl, Below.refl _ _⟩
    · exact ⟨rfl, Lib.bytesWorld_below _ _ _⟩
  · refine .inr ⟨hz _ (fun _ e => by cases e) h, (Tryd.strconv_ParseInt_10_at64_syntax_var s (by omega) h t1 p1 w h1).mono ?_⟩
    rintro e w' ⟨N, rfl, _, _, hb⟩
    exact ⟨_, N, rfl, hb⟩
  · refine .inr ⟨hz _ (fun _ e => by cases e) h, (Tryd.strconv_ParseInt_10_at64_range_var s (by omega) h t2 p2 w h2).mono ?_⟩
    rintro e w' ⟨N, rfl, _, _, hb⟩
    exact ⟨_, N, rfl, hb⟩
theorem num_any (s : ByteArray) (hs : s.size ≤ 140737488355328) (w : World) (hL : Laid w) :
    Calls Tryd.prog 46 #[.string s] w fun e w' => e = .returned (.tuple #[.int .i64 (numL (oct s)).1, .bool (numL (oct s)).2]) ∧ Below w.heap.size w w' := by
  rcases parse_cases s hs w hL with ⟨v, hp, hC⟩ | ⟨hn, hC⟩
  · have hv := Lib.parseIntB_bounds hp
    have big : (2 : Nat) ^ (64 - 1) = 9223372036854775808 := by decide
    rw [big] at hv
    have hw : Wide v := ⟨by omega, by omega⟩
    have hN : numL (oct s) = if Lib.itoa v = oct s then (v, true) else (0, false) := by unfold numL; rw [hp]
    have hq : decide (txt (Lib.itoa v) = s) = decide (Lib.itoa v = oct s) := decide_eq_decide.2 ⟨fun h => by rw [← h, oct_txt], fun h => by rw [h, txt_oct]⟩
    clear hp hv big
    by_cases he : Lib.itoa v = oct s
    · rw [if_pos he] at hN
      have ht := Lib.hid ((eq_txt (txt (Lib.itoa v)) s).trans (hq.trans (decide_eq_true he)))
      rw [hN]
      clear hN hq he
      go_enter Tryd.func46, Tryd.ntmps46
      go_wp2_with fail
      refine hC.mono ?_
      rintro e w1 ⟨rfl, hb⟩
      have hL1 := hL.on hb
      have ht := ht.out
      go_wp2_with (refine (dec_any v hw _ hL1).mono ?_; rintro e w2 ⟨rfl, hb2⟩)
      go_ret2
      exact ⟨rfl, hb.trans (hb2.mono hb.size)⟩
    · rw [if_neg he] at hN
      have ht := Lib.hid ((eq_txt (txt (Lib.itoa v)) s).trans (hq.trans (decide_eq_false he)))
      rw [hN]
      clear hN hq he
      go_enter Tryd.func46, Tryd.ntmps46
      go_wp2_with fail
      refine hC.mono ?_
      rintro e w1 ⟨rfl, hb⟩
      have hL1 := hL.on hb
      have ht := ht.out
      go_wp2_with (refine (dec_any v hw _ hL1).mono ?_; rintro e w2 ⟨rfl, hb2⟩)
      go_ret2
      exact ⟨rfl, hb.trans (hb2.mono hb.size)⟩
  · rw [hn]
    go_enter Tryd.func46, Tryd.ntmps46
    go_wp2_with fail
    refine hC.mono ?_
    rintro e w1 ⟨v, N, rfl, hb⟩
    go_wp2_with fail
    go_ret2
    exact ⟨rfl, hb⟩

/-- What Small answers. -/
def smallL (p : Int × Bool) (most : Int) : Int × Bool := if p.2 = true ∧ 0 ≤ p.1 ∧ p.1 ≤ most then (p.1, true) else (0, false)
theorem small_any (s : ByteArray) (hs : s.size ≤ 140737488355328) (most : Int) (w : World) (hL : Laid w) :
    Calls Tryd.prog 52 #[.string s, .int .i64 most] w fun e w' => e = .returned (.tuple #[.int .i64 (smallL (numL (oct s)) most).1, .bool (smallL (numL (oct s)) most).2]) ∧ Below w.heap.size w w' := by
  have hN := num_any s hs w hL
  obtain ⟨⟨n, b⟩, hp⟩ : ∃ p, numL (oct s) = p := ⟨_, rfl⟩
  rw [hp] at hN ⊢
  clear hp
  cases b with
  | false =>
    have e : smallL (n, false) most = (0, false) := by simp [smallL]
    rw [e]
    clear e
    go_enter Tryd.func52, Tryd.ntmps52
    go_wp2_with fail
    refine hN.mono ?_
    rintro e w1 ⟨rfl, hb⟩
    go_wp2
    go_ret2
    exact ⟨rfl, hb⟩
  | true =>
    by_cases h0 : n < 0
    · have e : smallL (n, true) most = (0, false) := by unfold smallL; rw [if_neg]; simp; omega
      rw [e]
      clear e
      have t1 : decide (n < 0) = true := decide_eq_true h0
      go_enter Tryd.func52, Tryd.ntmps52
      go_wp2_with fail
      refine hN.mono ?_
      rintro e w1 ⟨rfl, hb⟩
      go_wp2
      go_ret2
      exact ⟨rfl, hb⟩
    · have t1 : decide (n < 0) = false := decide_eq_false h0
      by_cases h1 : most < n
      · have e : smallL (n, true) most = (0, false) := by unfold smallL; rw [if_neg]; simp; omega
        rw [e]
        clear e
        have t2 : decide (most < n) = true := decide_eq_true h1
        go_enter Tryd.func52, Tryd.ntmps52
        go_wp2_with fail
        refine hN.mono ?_
        rintro e w1 ⟨rfl, hb⟩
        go_wp2
        go_ret2
        exact ⟨rfl, hb⟩
      · have e : smallL (n, true) most = (n, true) := by unfold smallL; rw [if_pos]; exact ⟨rfl, by omega, by omega⟩
        rw [e]
        clear e
        have t2 : decide (most < n) = false := decide_eq_false h1
        go_enter Tryd.func52, Tryd.ntmps52
        go_wp2_with fail
        refine hN.mono ?_
        rintro e w1 ⟨rfl, hb⟩
        go_wp2
        go_ret2
        exact ⟨rfl, hb⟩

/-! ### the reference's Number -/
theorem rest_size (s : ByteArray) (h : isNeg (oct s) = true) : s.extract 1 s.size = txt (restL (oct s)) := by
  rw [extract_txt, List.take_of_length_le (by rw [oct_len]; exact Nat.le_refl _)]
  congr 1
  cases hl : oct s with
  | nil => rfl
  | cons c r =>
    rw [hl] at h
    have : c = 45 := by simpa [isNeg] using h
    simp [restL, this]
theorem rest_same (l : List UInt8) (h : isNeg l = false) : restL l = l := by
  cases l with
  | nil => rfl
  | cons c r =>
    have : c ≠ 45 := by simpa [isNeg] using h
    simp [restL, this]
theorem sgn_wrap (m : Nat) (h : m < 18446744073709551616) : IntKind.i64.wrap (m : Int) = sgn m := by
  rw [IntKind.wrap_i64]
  unfold sgn
  split <;> omega
theorem neg_wrap (z : Int) (h : Wide z) : wrap64 (-z) = negW z := by
  unfold negW wrap64 Wide at *
  split <;> omega
theorem rest_le (l : List UInt8) : (restL l).length ≤ l.length := by
  cases l with
  | nil => exact Nat.le_refl _
  | cons c r =>
    show (if c = 45 then r else c :: r).length ≤ _
    split <;> simp
theorem neg_head (s : ByteArray) (h : isNeg (oct s) = true) : ∃ h0 : 0 < s.size, ((s[0].toNat : Int) == 45) = true ∧ (restL (oct s)).length < s.size := by
  have hl := oct_len s
  cases he : oct s with
  | nil => rw [he] at h; cases h
  | cons c r =>
    rw [he] at h hl
    have hc : c = 45 := by simpa [isNeg] using h
    have h0 : 0 < s.size := by rw [← hl]; simp
    refine ⟨h0, ?_, ?_⟩
    · have := oct_at s 0 h0
      rw [he] at this
      have e : s[0] = c := by simpa using this.symm
      rw [e, hc]
      decide
    · rw [← hl]
      simp [restL, hc]
theorem pos_head (s : ByteArray) (h : isNeg (oct s) = false) (h0 : 0 < s.size) : ((s[0].toNat : Int) == 45) = false := by
  have := oct_at s 0 h0
  cases he : oct s with
  | nil => rw [he] at this; cases this
  | cons c r =>
    rw [he] at h this
    have e : s[0] = c := by simpa using this.symm
    have hc : c ≠ 45 := by simpa [isNeg] using h
    rw [e]
    simp only [beq_eq_false_iff_ne, ne_eq]
    intro hh
    apply hc
    have h2 : c.toNat = (45 : UInt8).toNat := by
      have : (45 : UInt8).toNat = 45 := rfl
      omega
    exact UInt8.toNat_inj.1 h2
/-- How the last test ends. -/
theorem num_last (s : ByteArray) (z : Int) (b : Bool) (hz : refN (oct s) = z) (hb : digB (restL (oct s)) = b) :
    (b = true ∧ ((txt (Lib.itoa z)).toList == s.toList) = true ∧ numL (oct s) = (z, true)) ∨ (b = true ∧ ((txt (Lib.itoa z)).toList == s.toList) = false ∧ numL (oct s) = (0, false)) ∨ (b = false ∧ numL (oct s) = (0, false)) := by
  subst hz hb
  cases hb : digB (restL (oct s)) with
  | false => exact .inr (.inr ⟨rfl, num_ref_none _ (.inl hb)⟩)
  | true =>
    by_cases he : Lib.itoa (refN (oct s)) = oct s
    · refine .inl ⟨rfl, ?_, num_ref _ hb he⟩
      rw [eq_txt, he, txt_oct]
      exact decide_eq_true rfl
    · refine .inr (.inl ⟨rfl, ?_, num_ref_none _ (.inr he)⟩)
      rw [eq_txt]
      exact decide_eq_false fun h => he (by have := congrArg oct h; rwa [oct_txt] at this)
set_option maxRecDepth 100000 in
theorem refnum_any (s : ByteArray) (hs : s.size ≤ 1000) (w : World) :
    Calls Tryd.prog 21 #[.string s] w fun e w' => e = .returned (.tuple #[.int .i64 (numL (oct s)).1, .bool (numL (oct s)).2]) ∧ Below w.heap.size w w' := by
  have hlt := digN_lt (restL (oct s))
  have hwide := sgn_wide _ hlt
  have hwr := sgn_wrap _ hlt
  have hD := fun w => dig_any (txt (restL (oct s))) (by rw [txt_size]; have := rest_le (oct s); rw [oct_len] at this; omega) w
  simp only [oct_txt] at hD
  cases hg : isNeg (oct s) with
  | true =>
    have hx := rest_size s hg
    obtain ⟨h0, hc, hrl⟩ := neg_head s hg
    have hng := neg_wrap _ hwide
    have hnw := negW_wide _ hwide
    obtain ⟨z, hz⟩ : ∃ z, negW (sgn (digN (restL (oct s)))) = z := ⟨_, rfl⟩
    have hrn : refN (oct s) = z := by unfold refN; rw [if_pos hg, hz]
    obtain ⟨b, hb⟩ : ∃ b, digB (restL (oct s)) = b := ⟨_, rfl⟩
    rw [hz] at hng hnw
    clear hz hg
    have hl := num_last s z b hrn hb
    rw [hb] at hD
    clear hrn hb
    generalize digN (restL (oct s)) = m at *
    have hsz : (txt (restL (oct s))).size < s.size := by rw [txt_size]; exact hrl
    generalize restL (oct s) = r at *
    generalize sgn m = y at *
    rcases hl with ⟨rfl, h2, hN⟩ | ⟨rfl, h2, hN⟩ | ⟨rfl, hN⟩
    all_goals
      rw [hN]
      clear hN
      try (have H2 := Lib.hid h2; clear h2)
      go_enter Tryd.func21, Tryd.ntmps21
      go_wp2_with fail
      refine (hD w).mono ?_
      rintro e w1 ⟨rfl, rfl⟩
      try have h2 := H2.out
      go_wp2_with (refine (refdec_any z hnw _).mono ?_; rintro e w2 ⟨rfl, hb2⟩)
      go_ret2
      exact ⟨rfl, by first | exact hb2 | exact Below.refl _ _⟩
  | false =>
    have hx := rest_same _ hg
    obtain ⟨z, hz⟩ : ∃ z, sgn (digN (restL (oct s))) = z := ⟨_, rfl⟩
    have hrn : refN (oct s) = z := by unfold refN; rw [if_neg (by rw [hg]; decide), hz]
    obtain ⟨b, hb⟩ : ∃ b, digB (restL (oct s)) = b := ⟨_, rfl⟩
    rw [hz] at hwr hwide
    clear hz
    have hl := num_last s z b hrn hb
    have hp := pos_head s hg
    rw [hb] at hD
    clear hrn hb hg
    rw [hx] at hD hlt hwr
    rw [txt_oct] at hD
    clear hx
    generalize digN (oct s) = m at *
    rcases Nat.eq_zero_or_pos s.size with h0 | h0
    · have t1 : decide ((0 : Int) < (s.size : Int)) = false := decide_eq_false (by omega)
      clear hp
      rcases hl with ⟨rfl, h2, hN⟩ | ⟨rfl, h2, hN⟩ | ⟨rfl, hN⟩
      all_goals
        rw [hN]
        clear hN
        try (have H2 := Lib.hid h2; clear h2)
        go_enter Tryd.func21, Tryd.ntmps21
        go_wp2_with fail
        refine (hD w).mono ?_
        rintro e w1 ⟨rfl, rfl⟩
        try have h2 := H2.out
        go_wp2_with (refine (refdec_any z hwide _).mono ?_; rintro e w2 ⟨rfl, hb2⟩)
        go_ret2
        exact ⟨rfl, by first | exact hb2 | exact Below.refl _ _⟩
    · have t1 : decide ((0 : Int) < (s.size : Int)) = true := decide_eq_true (by omega)
      have hc := hp h0
      clear hp
      rcases hl with ⟨rfl, h2, hN⟩ | ⟨rfl, h2, hN⟩ | ⟨rfl, hN⟩
      all_goals
        rw [hN]
        clear hN
        try (have H2 := Lib.hid h2; clear h2)
        go_enter Tryd.func21, Tryd.ntmps21
        go_wp2_with fail
        refine (hD w).mono ?_
        rintro e w1 ⟨rfl, rfl⟩
        try have h2 := H2.out
        go_wp2_with (refine (refdec_any z hwide _).mono ?_; rintro e w2 ⟨rfl, hb2⟩)
        go_ret2
        exact ⟨rfl, by first | exact hb2 | exact Below.refl _ _⟩
end Go.Proofs.YtodklfjoeehinaaDoor
