/- What asm's line answers, and what it turns: one more line of a text. Conditions: a line that is taken; no word is longer than memory bears; the variables lie as they are laid. -/
import Derived.Test.YtodklfjoeehinaaDoorTHead
import Derived.Test.YtodklfjoeehinaaDoorTIns
namespace Go.Proofs.YtodklfjoeehinaaDoor
open Go.RowKit Nine

/-- A word begins as a remark does. -/
def sharp (x : List UInt8) : Bool := match x with
  | c :: _ => c == 35
  | [] => false
theorem sharp_any (x : List UInt8) (w : World) : Calls Tryd.prog 41 #[.string (txt x), .string ⟨#[35]⟩] w fun e w' => e = .returned (.bool (sharp x)) ∧ w' = w := by
  have h := Tryd.strings_HasPrefix (txt x) ⟨#[35]⟩ w
  have e : Lib.hasPrefix (txt x).data.toList (⟨#[35]⟩ : ByteArray).data.toList = sharp x := by
    show Lib.hasPrefix (oct (txt x)) [35] = sharp x
    rw [oct_txt]
    cases x with
    | nil => rfl
    | cons c x =>
      by_cases h : c = 35
      · subst h
        simp [Lib.hasPrefix, sharp]
      · have h2 : ¬ (35 : UInt8) = c := fun e => h e.symm
        have e1 : ((35 : UInt8) == c) = false := by simpa using h2
        have e2 : (c == (35 : UInt8)) = false := by simpa using h
        show ((35 : UInt8) == c && true) = (c == (35 : UInt8))
        rw [e1, e2]
        rfl
  rwa [e] at h
theorem sharp_name (k : Nat) (h : k ≤ 25) : sharp (nameAt k) = false := (by decide +kernel : ∀ k, k < 26 → sharp (nameAt k) = false) k (by omega)
theorem instr_words {ws : List (List UInt8)} {x : Ins} (h : instrA ws = (x, 0)) : ∃ y q, ws = y :: q ∧ sharp y = false ∧ y ≠ wThread := by
  cases ws with
  | nil => cases h
  | cons y q =>
    unfold instrA at h
    simp only at h
    rcases opOf_cases y with ⟨h1, h2, h3⟩ | h0
    · refine ⟨y, q, rfl, by rw [← h3]; exact sharp_name _ h2, fun e => ?_⟩
      subst e
      have : opOf wThread = 0 := by decide +kernel
      omega
    · rw [if_pos h0] at h
      cases h

set_option maxRecDepth 100000 in
set_option maxHeartbeats 4000000 in
theorem line_line {w : World} {g : Nat} {t u : St} (h : Txts w g t) {ws : List (List UInt8)} (hst : Step t ws u)
    {A : Option Addr} {n cap : Nat} (hR : Row w w.heap.size A n cap ws) (hy : ∀ y ∈ ws, y.length ≤ 140737488355328) (hL : Laid w) :
    Calls Tryd.prog 28 #[.pointer (some ⟨g, 0, none⟩), .slice A n cap] w (Takes g u w) := by
  have hrm := hR.most
  have hrr := hR.room
  have hrl := hR.len
  unfold maxLen at hrm
  rcases hst with ⟨rfl | ⟨y, q, rfl⟩, rfl⟩ | ⟨r, c, s, hr, hc, hs, rfl, rfl, rfl⟩ | ⟨r, c, s, xss, hx, rfl, rfl, rfl⟩ | ⟨r, c, s, pre, xs, x, hp, hm, hi, rfl, rfl⟩
  · obtain rfl : n = 0 := by simpa using hrl.symm
    have HF : Hid (Takes g u w (.returned (.int .i64 0)) w) := Lib.hid ⟨rfl, h, Below.refl _ _⟩
    clear h hR hL hy
    go_enter Tryd.func28, Tryd.ntmps28
    go_wp2
    go_ret
    exact HF.out
  · obtain ⟨ad, rfl, hadl, hcw⟩ := hR.at_ 0 (by simp at hrl; omega)
    rw [add_nought] at hcw
    replace hcw : w.cell? ad = some (.string (txt (35 :: y))) := hcw
    have hn : 1 ≤ n := by simp at hrl; omega
    have t0 : ((n : Int) == 0) = false := by simp; omega
    have i0 : (0 : Int) < (n : Int) := by omega
    have HF : Hid (Takes g u w (.returned (.int .i64 0)) w) := Lib.hid ⟨rfl, h, Below.refl _ _⟩
    have hP : Calls Tryd.prog 41 #[.string (txt (35 :: y)), .string ⟨#[35]⟩] w fun e w' => e = .returned (.bool true) ∧ w' = w := sharp_any (35 :: y) w
    clear h hR hL hy hrl
    go_enter Tryd.func28, Tryd.ntmps28
    go_wp2_with fail
    refine hP.mono ?_
    rintro e w1 ⟨rfl, rfl⟩
    go_wp2
    go_ret
    exact HF.out
  · have hH := head_line h hr hc hs hR hL
    obtain ⟨ad, rfl, hadl, hcw⟩ := hR.at_ 0 (by simp at hrl; omega)
    obtain rfl : n = 4 := by simpa using hrl.symm
    rw [add_nought] at hcw
    replace hcw : w.cell? ad = some (.string (txt wFirst)) := hcw
    have hP : Calls Tryd.prog 41 #[.string (txt wFirst), .string ⟨#[35]⟩] w fun e w' => e = .returned (.bool false) ∧ w' = w := sharp_any wFirst w
    obtain ⟨v, B, vs, h⟩ := h
    have y0 : w.cell? ⟨g, 0, none⟩ = some (.bool false) := h.blk.cell 0
    generalize txt wFirst = tw at *
    clear h hR hL hy hrl
    go_enter Tryd.func28, Tryd.ntmps28
    go_wp2_with fail
    refine hP.mono ?_
    rintro e w1 ⟨rfl, rfl⟩
    go_wp2_with fail
    refine hH.mono ?_
    intro e w1 hT
    obtain ⟨rfl, hT⟩ := hT
    have HF := Lib.hid hT
    clear hT
    go_wp2
    go_ret
    exact ⟨rfl, HF.out⟩
  · have hH := thread_line h hx
    obtain ⟨ad, rfl, hadl, hcw⟩ := hR.at_ 0 (by simp at hrl; omega)
    obtain rfl : n = 1 := by simpa using hrl.symm
    rw [add_nought] at hcw
    replace hcw : w.cell? ad = some (.string ⟨#[116, 104, 114, 101, 97, 100]⟩) := hcw
    have hP : Calls Tryd.prog 41 #[.string ⟨#[116, 104, 114, 101, 97, 100]⟩, .string ⟨#[35]⟩] w fun e w' => e = .returned (.bool false) ∧ w' = w := sharp_any wThread w
    obtain ⟨v, B, vs, h⟩ := h
    have y0 : w.cell? ⟨g, 0, none⟩ = some (.bool true) := h.blk.cell 0
    clear h hR hL hy hrl
    go_enter Tryd.func28, Tryd.ntmps28
    go_wp2_with fail
    refine hP.mono ?_
    rintro e w1 ⟨rfl, rfl⟩
    go_wp2_with fail
    refine hH.mono ?_
    intro e w1 hT
    obtain ⟨rfl, hT⟩ := hT
    have HF := Lib.hid hT
    clear hT
    go_wp2
    go_ret
    exact ⟨rfl, HF.out⟩
  · have hH := instr_line h hp hm hR hy hL hi
    obtain ⟨z, q, rfl, hz, hzt⟩ := instr_words hi
    obtain ⟨ad, rfl, hadl, hcw⟩ := hR.at_ 0 (by simp at hrl; omega)
    have hn : 1 ≤ n := by simp at hrl; omega
    rw [add_nought] at hcw
    replace hcw : w.cell? ad = some (.string (txt z)) := hcw
    have hP := sharp_any z w
    rw [hz] at hP
    have t0 : ((n : Int) == 0) = false := by simp; omega
    have i0 : (0 : Int) < (n : Int) := by omega
    have t2 : ((txt z).toList == (⟨#[116, 104, 114, 101, 97, 100]⟩ : ByteArray).toList) = false := by
      rw [eq_txt]
      refine decide_eq_false fun e => hzt (txt_inj ?_)
      rw [e]
      rfl
    have e2 : (⟨#[116, 104, 114, 101, 97, 100]⟩ : ByteArray).toList = [116, 104, 114, 101, 97, 100] := by simp
    rw [e2] at t2
    obtain ⟨v, B, vs, h⟩ := h
    have y0 : w.cell? ⟨g, 0, none⟩ = some (.bool true) := h.blk.cell 0
    obtain ⟨Ah, ch, rfl⟩ := own_slice h.own
    have y4 : w.cell? ⟨g, 4, none⟩ = some (.slice Ah (pre ++ [xs]).length ch) := h.blk.cell 4
    obtain ⟨N, hN⟩ : ∃ N, (pre ++ [xs]).length = N := ⟨_, rfl⟩
    rw [hN] at y4
    have hN1 : 1 ≤ N := by simp at hN; omega
    have t3 : ((N : Int) == 0) = false := by simp; omega
    have hoc := own_cap h.own
    simp only [hN] at hoc
    generalize txt z = tz at *
    clear h hR hL hy hrl hN hi hz hzt
    by_cases h1 : n = 1
    · subst h1
      go_enter Tryd.func28, Tryd.ntmps28
      go_wp2_with fail
      refine hP.mono ?_
      rintro e w1 ⟨rfl, rfl⟩
      go_wp2_with fail
      refine hH.mono ?_
      intro e w1 hT
      obtain ⟨rfl, hT⟩ := hT
      have HF := Lib.hid hT
      clear hT
      go_wp2
      go_ret
      exact ⟨rfl, HF.out⟩
    · have t1 : ((n : Int) == 1) = false := by simp; omega
      go_enter Tryd.func28, Tryd.ntmps28
      go_wp2_with fail
      refine hP.mono ?_
      rintro e w1 ⟨rfl, rfl⟩
      go_wp2_with fail
      refine hH.mono ?_
      intro e w1 hT
      obtain ⟨rfl, hT⟩ := hT
      have HF := Lib.hid hT
      clear hT
      go_wp2
      go_ret
      exact ⟨rfl, HF.out⟩
end Go.Proofs.YtodklfjoeehinaaDoor
