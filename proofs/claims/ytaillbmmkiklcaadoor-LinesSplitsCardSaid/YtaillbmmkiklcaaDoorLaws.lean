/- The walks of LinesSplits, LinesNumbers and LinesBack. Conditions: the library's variables lie as they are laid. -/
import Derived.Test.YtaillbmmkiklcaaDoorAlive
namespace Go.Proofs.YtaillbmmkiklcaaDoor
open Go.RowKit

set_option maxRecDepth 100000 in
theorem back_walk (n : Int) (hn : Wide n) (w : World) (hL : Laid w) : Calls Tryd.prog 5 #[.int .i64 n] w fun e w' => e = .returned (.bool true) ∧ Below w.heap.size w w' := by
  have hlen : (txt (Lib.itoa n)).size ≤ 21 := by rw [txt_size]; exact Lib.itoa_length_le n hn.1 hn.2
  have hq : ((txt (Lib.itoa n)).toList == (txt (Lib.itoa n)).toList) = true := by simp
  have hN := num_itoa n hn
  go_enter Tryd.func5, Tryd.ntmps5
  go_wp2_with fail
  refine (alive_any w hL).mono ?_
  rintro e w1 ⟨rfl, hb1⟩
  have hL1 := hL.on hb1
  go_wp2_with fail
  refine (dec_any n hn w1 hL1).mono ?_
  rintro e w2 ⟨rfl, hb2⟩
  have hL2 := hL1.on hb2
  have hC := num_any (txt (Lib.itoa n)) (by omega) w2 hL2
  rw [oct_txt, hN] at hC
  clear hN
  go_wp2_with fail
  refine hC.mono ?_
  rintro e w3 ⟨rfl, hb3⟩
  have hL3 := hL2.on hb3
  go_wp2_with fail
  refine (dec_any n hn w3 hL3).mono ?_
  rintro e w4 ⟨rfl, hb4⟩
  go_wp2_with fail
  refine (refdec_any n hn w4).mono ?_
  rintro e w5 ⟨rfl, hb5⟩
  go_wp2
  go_ret
  have h2 := hb1.size
  have h3 := hb2.size
  have h4 := hb3.size
  have h5 := hb4.size
  exact ⟨rfl, (((hb1.trans (hb2.mono (by omega))).trans (hb3.mono (by omega))).trans (hb4.mono (by omega))).trans (hb5.mono (by omega))⟩

set_option maxRecDepth 100000 in
theorem splits_walk (s : ByteArray) (w : World) (hL : Laid w) : Calls Tryd.prog 3 #[.string s] w fun e w' => e = .returned (.bool true) ∧ Below w.heap.size w w' := by
  obtain ⟨t, ht⟩ : ∃ t, t = txt ((oct s).take 600) := ⟨_, rfl⟩
  have hts : t.size ≤ 1000 := by rw [ht, txt_size, List.length_take]; omega
  have hcut := cut_any s 600 (by decide)
  rw [← ht] at hcut
  clear ht
  go_enter Tryd.func3, Tryd.ntmps3
  go_wp2_with fail
  refine (alive_any w hL).mono ?_
  rintro e w1 ⟨rfl, hb1⟩
  go_wp2_with fail
  refine (hcut w1).mono ?_
  rintro e w' ⟨rfl, rfl⟩
  go_wp2_with fail
  refine (split_row t hts w1).mono ?_
  rintro e w2 ⟨A2, c2, rfl, r2, hb2⟩
  go_wp2_with fail
  refine (refsplit_row t hts w2).mono ?_
  rintro e w3 ⟨A3, c3, rfl, r3, hb3⟩
  go_wp2_with fail
  refine (texts_same A2 A3 _ c2 c3 _ _ _ w3 (r2.below hb3) r3).mono ?_
  rintro e w4 ⟨rfl, hb4⟩
  go_wp2_with fail
  refine (words_row t hts w4).mono ?_
  rintro e w5 ⟨A5, c5, rfl, r5, hb5⟩
  go_wp2_with fail
  refine (refwords_row t hts w5).mono ?_
  rintro e w6 ⟨A6, c6, rfl, r6, hb6⟩
  go_wp2_with fail
  refine (texts_same A5 A6 _ c5 c6 _ _ _ w6 (r5.below hb6) r6).mono ?_
  rintro e w7 ⟨rfl, hb7⟩
  go_wp2
  go_ret
  have h1 := hb1.size
  have h2 := hb2.size
  have h3 := hb3.size
  have h4 := hb4.size
  have h5 := hb5.size
  have h6 := hb6.size
  exact ⟨rfl, (((((hb1.trans (hb2.mono (by omega))).trans (hb3.mono (by omega))).trans (hb4.mono (by omega))).trans (hb5.mono (by omega))).trans (hb6.mono (by omega))).trans (hb7.mono (by omega))⟩

theorem num_false {l : List UInt8} {n : Int} (h : numL l = (n, false)) : n = 0 := by
  unfold numL at h
  split at h
  · split at h
    · simp at h
    · simp at h; exact h.symm
  · simp at h; exact h.symm
theorem num_wide {l : List UInt8} {n : Int} (h : numL l = (n, true)) : Wide n := by
  unfold numL at h
  split at h
  · rename_i v hv
    split at h
    · have hb := Lib.parseIntB_bounds hv
      have big : (2 : Nat) ^ (64 - 1) = 9223372036854775808 := by decide
      rw [big] at hb
      have e : v = n := by simpa using h
      subst e
      exact ⟨by omega, by omega⟩
    · simp at h
  · simp at h
set_option maxRecDepth 100000 in
theorem numbers_walk (s : ByteArray) (most : Int) (w : World) (hL : Laid w) : Calls Tryd.prog 4 #[.string s, .int .i64 most] w fun e w' => e = .returned (.bool true) ∧ Below w.heap.size w w' := by
  obtain ⟨t, ht⟩ : ∃ t, t = txt ((oct s).take 60) := ⟨_, rfl⟩
  have hts : t.size ≤ 1000 := by rw [ht, txt_size, List.length_take]; omega
  have hcut := cut_any s 60 (by decide)
  rw [← ht] at hcut
  clear ht
  have hA := fun W hW => num_any t (by omega) W hW
  have hB := fun W => refnum_any t hts W
  have hC := fun W hW => small_any t (by omega) most W hW
  obtain ⟨⟨n, b⟩, hp⟩ : ∃ p, numL (oct t) = p := ⟨_, rfl⟩
  rw [hp] at hA hB hC
  cases b with
  | false =>
    obtain rfl := num_false hp
    have e : smallL (0, false) most = (0, false) := by simp [smallL]
    rw [e] at hC
    clear hp e
    go_enter Tryd.func4, Tryd.ntmps4
    go_wp2_with fail
    refine (alive_any w hL).mono ?_
    rintro e w1 ⟨rfl, hb1⟩
    have hL1 := hL.on hb1
    go_wp2_with fail
    refine (hcut w1).mono ?_
    rintro e w' ⟨rfl, rfl⟩
    go_wp2_with fail
    refine (hA w1 hL1).mono ?_
    rintro e w2 ⟨rfl, hb2⟩
    have hL2 := hL1.on hb2
    go_wp2_with fail
    refine (hB w2).mono ?_
    rintro e w3 ⟨rfl, hb3⟩
    have hL3 := hL2.on hb3
    go_wp2_with fail
    refine (hC w3 hL3).mono ?_
    rintro e w4 ⟨rfl, hb4⟩
    go_wp2
    go_ret
    have h1 := hb1.size
    have h2 := hb2.size
    have h3 := hb3.size
    exact ⟨rfl, ((hb1.trans (hb2.mono (by omega))).trans (hb3.mono (by omega))).trans (hb4.mono (by omega))⟩
  | true =>
    obtain ⟨n0, n1⟩ := num_wide hp
    clear hp
    have parts : (n < 0 ∧ smallL (n, true) most = (0, false)) ∨ (0 ≤ n ∧ most < n ∧ smallL (n, true) most = (0, false)) ∨ (0 ≤ n ∧ n ≤ most ∧ smallL (n, true) most = (n, true)) := by
      unfold smallL
      by_cases h0 : n < 0
      · exact .inl ⟨h0, by rw [if_neg]; simp; omega⟩
      · by_cases h1 : most < n
        · exact .inr (.inl ⟨by omega, h1, by rw [if_neg]; simp; omega⟩)
        · exact .inr (.inr ⟨by omega, by omega, by rw [if_pos]; exact ⟨rfl, by omega, by omega⟩⟩)
    rcases parts with ⟨h0, e⟩ | ⟨h0, h1, e⟩ | ⟨h0, h1, e⟩
    all_goals first
      | (have t1 : decide (0 ≤ n) = false := decide_eq_false (by omega))
      | (have t1 : decide (0 ≤ n) = true := decide_eq_true (by omega)
         have t2 : decide (n ≤ most) = false := decide_eq_false (by omega))
      | (have t1 : decide (0 ≤ n) = true := decide_eq_true (by omega)
         have t2 : decide (n ≤ most) = true := decide_eq_true (by omega))
    all_goals
      rw [e] at hC
      clear e
      go_enter Tryd.func4, Tryd.ntmps4
      go_wp2_with fail
      refine (alive_any w hL).mono ?_
      rintro e w1 ⟨rfl, hb1⟩
      have hL1 := hL.on hb1
      go_wp2_with fail
      refine (hcut w1).mono ?_
      rintro e w' ⟨rfl, rfl⟩
      go_wp2_with fail
      refine (hA w1 hL1).mono ?_
      rintro e w2 ⟨rfl, hb2⟩
      have hL2 := hL1.on hb2
      go_wp2_with fail
      refine (hB w2).mono ?_
      rintro e w3 ⟨rfl, hb3⟩
      have hL3 := hL2.on hb3
      go_wp2_with fail
      refine (hC w3 hL3).mono ?_
      rintro e w4 ⟨rfl, hb4⟩
      go_wp2
      go_ret
      have h1 := hb1.size
      have h2 := hb2.size
      have h3 := hb3.size
      exact ⟨rfl, ((hb1.trans (hb2.mono (by omega))).trans (hb3.mono (by omega))).trans (hb4.mono (by omega))⟩
end Go.Proofs.YtaillbmmkiklcaaDoor
