/- The check of some words and decimals that each law begins with. Conditions: the library's variables lie as they are laid. -/
import Derived.Test.YtaillbmmkiklcaaDoorSplit
import Derived.Test.YtaillbmmkiklcaaDoorJoin
namespace Go.Proofs.YtaillbmmkiklcaaDoor
open Go.RowKit

theorem itoa_12 : Lib.itoa (-12) = [45, 49, 50] := by
  unfold Lib.itoa
  rw [if_pos (by decide)]
  have e : (-12 : Int).natAbs = 12 := rfl
  rw [e, Lib.decDigits_two (by decide) (by decide)]
  rfl
theorem itoa_5 : Lib.itoa (-5) = [45, 53] := by
  unfold Lib.itoa
  rw [if_pos (by decide)]
  have e : (-5 : Int).natAbs = 5 := rfl
  rw [e, Lib.decDigits_one (by decide)]
  rfl
theorem itoa_7 : Lib.itoa 7 = [55] := by
  unfold Lib.itoa
  rw [if_neg (by decide)]
  have e : (7 : Int).toNat = 7 := rfl
  rw [e, Lib.decDigits_one (by decide)]
  rfl
theorem num_12 (w : World) (hL : Laid w) : Calls Tryd.prog 14 #[.string ⟨#[45, 49, 50]⟩] w fun e w' => e = .returned (.tuple #[.int .i64 (-12), .bool true]) ∧ Below w.heap.size w w' := by
  have h := num_any (txt [45, 49, 50]) (by decide) w hL
  have e := num_itoa (-12) ⟨by decide, by decide⟩
  rw [itoa_12] at e
  rw [oct_txt, e] at h
  exact h
theorem small_7 (w : World) (hL : Laid w) : Calls Tryd.prog 16 #[.string ⟨#[55]⟩, .int .i64 7] w fun e w' => e = .returned (.tuple #[.int .i64 7, .bool true]) ∧ Below w.heap.size w w' := by
  have h := small_any (txt [55]) (by decide) 7 w hL
  have e := num_itoa 7 ⟨by decide, by decide⟩
  rw [itoa_7] at e
  have e2 : smallL (7, true) 7 = (7, true) := by unfold smallL; rw [if_pos]; exact ⟨rfl, by decide, by decide⟩
  rw [oct_txt, e, e2] at h
  exact h
theorem dec_5 (w : World) (hL : Laid w) : Calls Tryd.prog 17 #[.int .i64 (-5)] w fun e w' => e = .returned (.string ⟨#[45, 53]⟩) ∧ Below w.heap.size w w' := by
  have h := dec_any (-5) ⟨by decide, by decide⟩ w hL
  rw [itoa_5] at h
  exact h
theorem split_row (s : ByteArray) (hs : s.size ≤ 1000) (w : World) : Calls Tryd.prog 10 #[.string s] w fun e w' => ∃ A cap, e = .returned (.slice A (parts 10 (oct s)).length cap) ∧ Row w' w'.heap.size A (parts 10 (oct s)).length cap (parts 10 (oct s)) ∧ Below w.heap.size w w' := by
  refine (split_any s hs w).mono ?_
  rintro e w' ⟨v, rfl, hr, hb⟩
  obtain ⟨A, cap, rfl, hrow⟩ := Row.own hr
  exact ⟨A, cap, rfl, hrow, hb⟩
theorem words_row (s : ByteArray) (hs : s.size ≤ 1000) (w : World) : Calls Tryd.prog 12 #[.string s] w fun e w' => ∃ A cap, e = .returned (.slice A (wordsL (oct s)).length cap) ∧ Row w' w'.heap.size A (wordsL (oct s)).length cap (wordsL (oct s)) ∧ Below w.heap.size w w' := by
  refine (words_any s hs w).mono ?_
  rintro e w' ⟨v, rfl, hr, hb⟩
  obtain ⟨A, cap, rfl, hrow⟩ := Row.own hr
  exact ⟨A, cap, rfl, hrow, hb⟩
theorem refsplit_row (s : ByteArray) (hs : s.size ≤ 1000) (w : World) : Calls Tryd.prog 11 #[.string s] w fun e w' => ∃ A cap, e = .returned (.slice A (parts 10 (oct s)).length cap) ∧ Row w' w'.heap.size A (parts 10 (oct s)).length cap (parts 10 (oct s)) ∧ Below w.heap.size w w' := by
  refine (refsplit_any s hs w).mono ?_
  rintro e w' ⟨v, rfl, hr, hb⟩
  obtain ⟨A, cap, rfl, hrow⟩ := Row.own hr
  exact ⟨A, cap, rfl, hrow, hb⟩
theorem refwords_row (s : ByteArray) (hs : s.size ≤ 1000) (w : World) : Calls Tryd.prog 13 #[.string s] w fun e w' => ∃ A cap, e = .returned (.slice A (wordsL (oct s)).length cap) ∧ Row w' w'.heap.size A (wordsL (oct s)).length cap (wordsL (oct s)) ∧ Below w.heap.size w w' := by
  refine (refwords_any s hs w).mono ?_
  rintro e w' ⟨v, rfl, hr, hb⟩
  obtain ⟨A, cap, rfl, hrow⟩ := Row.own hr
  exact ⟨A, cap, rfl, hrow, hb⟩
theorem words_ab (w : World) : Calls Tryd.prog 12 #[.string ⟨#[97, 32, 32, 98]⟩] w fun e w' => ∃ A cap, e = .returned (.slice A 2 cap) ∧ Below w.heap.size w w' := by
  refine (words_row (txt [97, 32, 32, 98]) (by decide) w).mono ?_
  rintro e w' ⟨A, cap, rfl, _, hb⟩
  have h : (wordsL (oct (txt [97, 32, 32, 98]))).length = 2 := by decide
  exact ⟨A, cap, by rw [h], hb⟩
theorem split_ab (w : World) : Calls Tryd.prog 10 #[.string ⟨#[97, 10, 98]⟩] w fun e w' => ∃ A cap, e = .returned (.slice A 2 cap) ∧ Below w.heap.size w w' := by
  refine (split_row (txt [97, 10, 98]) (by decide) w).mono ?_
  rintro e w' ⟨A, cap, rfl, _, hb⟩
  have h : (parts 10 (oct (txt [97, 10, 98]))).length = 2 := by decide
  exact ⟨A, cap, by rw [h], hb⟩
theorem join_ab (w : World) : Calls Tryd.prog 19 #[.slice (some ⟨w.heap.size, 0, none⟩) 2 2] (w.alloc (.cells #[.string ⟨#[97]⟩, .string ⟨#[98]⟩] 9)) fun e w' => e = .returned (.string ⟨#[97, 32, 98]⟩) ∧ Below w.heap.size w w' := by
  have hr : Row (w.alloc (.cells #[.string ⟨#[97]⟩, .string ⟨#[98]⟩] 9)) (w.alloc (.cells #[.string ⟨#[97]⟩, .string ⟨#[98]⟩] 9)).heap.size (some ⟨w.heap.size, 0, none⟩) 2 2 [[97], [98]] := by
    refine ⟨rfl, Nat.le_refl _, by decide, fun h => (by cases h), fun ad ha i hi => ?_⟩
    injection ha with ha
    subst ha
    refine ⟨by simp, ?_⟩
    have hc := fun j => cell_of_row (w.alloc (.cells #[.string ⟨#[97]⟩, .string ⟨#[98]⟩] 9)) w.heap.size j _ 9 (0, 0) (World.alloc_heap_new w _)
    have : i = 0 ∨ i = 1 := by omega
    rcases this with rfl | rfl
    · exact hc 0
    · exact hc 1
  refine (join_any _ 2 2 [[97], [98]] _ hr (by decide) (by decide)).mono ?_
  rintro e w' ⟨rfl, hb⟩
  exact ⟨rfl, ((Below.refl _ w).alloc (Nat.le_refl _) _).trans (hb.mono (by simp))⟩
set_option maxRecDepth 100000 in
theorem alive_any (w : World) (hL : Laid w) : Calls Tryd.prog 7 #[] w fun e w' => e = .returned (.bool true) ∧ Below w.heap.size w w' := by
  go_enter Tryd.func7, Tryd.ntmps7
  go_wp2_with fail
  refine (num_12 w hL).mono ?_
  rintro e w1 ⟨rfl, hb1⟩
  have hL1 := hL.on hb1
  go_wp2_with fail
  refine (small_7 w1 hL1).mono ?_
  rintro e w2 ⟨rfl, hb2⟩
  have hL2 := hL1.on hb2
  go_wp2_with fail
  refine (words_ab w2).mono ?_
  rintro e w3 ⟨A3, c3, rfl, hb3⟩
  have hL3 := hL2.on hb3
  go_wp2_with fail
  refine (dec_5 w3 hL3).mono ?_
  rintro e w4 ⟨rfl, hb4⟩
  go_wp2_with fail
  refine (split_ab w4).mono ?_
  rintro e w5 ⟨A5, c5, rfl, hb5⟩
  go_wp2_with fail
  refine (join_ab w5).mono ?_
  rintro e w6 ⟨rfl, hb6⟩
  go_wp2
  go_ret
  have h2 := hb1.size
  have h3 := hb2.size
  have h4 := hb3.size
  have h5 := hb4.size
  have h6 := hb5.size
  exact ⟨rfl, ((((hb1.trans (hb2.mono (by omega))).trans (hb3.mono (by omega))).trans (hb4.mono (by omega))).trans (hb5.mono (by omega))).trans (hb6.mono (by omega))⟩
end Go.Proofs.YtaillbmmkiklcaaDoor
