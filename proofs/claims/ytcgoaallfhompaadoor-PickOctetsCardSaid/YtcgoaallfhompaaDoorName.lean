/- What num.In, agents, Decimal of one digit, Name and Agent answer. Conditions: none. -/
import Derived.Test.YtcgoaallfhompaaDoorOClone
import Derived.Test.YtcgoaallfhompaaDoorTBase
import Derived.OwnWalk
import Derived.Deep.QuietTactic
namespace Go.Proofs.YtcgoaallfhompaaDoor
open Go.RowKit Go.ChangeShapes Go.WideShapes
set_option linter.unusedSimpArgs false
set_option linter.unusedVariables false

/-- x is from a to b. -/
def inB (x a b : Int) : Bool := decide (a ≤ x) && decide (x ≤ b)
set_option maxRecDepth 100000 in
theorem in_any (x a b : Int) (w : World) : Calls Tryd.prog 18 #[.int .i64 x, .int .i64 a, .int .i64 b] w fun e w' => e = .returned (.bool (inB x a b)) ∧ w = w' := by
  by_cases h0 : a ≤ x
  · have t0 : decide (a ≤ x) = true := decide_eq_true h0
    have e : inB x a b = decide (x ≤ b) := by unfold inB; rw [t0]; rfl
    rw [e]
    clear e
    go_enter Tryd.func18, Tryd.ntmps18
    go_wp2
    go_ret
    exact ⟨rfl, rfl⟩
  · have t0 : decide (a ≤ x) = false := decide_eq_false h0
    have e : inB x a b = false := by unfold inB; rw [t0]; rfl
    rw [e]
    clear e
    go_enter Tryd.func18, Tryd.ntmps18
    go_wp2
    go_ret
    exact ⟨rfl, rfl⟩
/-- How many agents there may be. -/
def agN (t : Int) : Int := if inB t 0 4 then 2 * t else 0
theorem agN_some {t : Int} (h0 : 0 ≤ t) (h4 : t ≤ 4) : agN t = 2 * t := by
  unfold agN inB
  rw [decide_eq_true h0, decide_eq_true h4]
  rfl
theorem agN_none {t : Int} (h : ¬ (0 ≤ t ∧ t ≤ 4)) : agN t = 0 := by
  have : inB t 0 4 = false := by
    unfold inB
    rcases (by omega : ¬ 0 ≤ t ∨ ¬ t ≤ 4) with h | h
    · rw [decide_eq_false h]; rfl
    · rw [decide_eq_false h, Bool.and_false]
  unfold agN
  rw [this]
  rfl
theorem agN_in (t : Int) : 0 ≤ agN t ∧ agN t ≤ 8 := by
  by_cases h : 0 ≤ t ∧ t ≤ 4
  · rw [agN_some h.1 h.2]; omega
  · rw [agN_none h]; omega
set_option maxRecDepth 100000 in
theorem agents_any (t : Int) (w : World) : Calls Tryd.prog 19 #[.int .i64 t] w fun e w' => e = .returned (.int .i64 (agN t)) ∧ w = w' := by
  by_cases h : 0 ≤ t ∧ t ≤ 4
  · have hb : inB t 0 4 = true := by unfold inB; rw [decide_eq_true h.1, decide_eq_true h.2]; rfl
    have hw : IntKind.i64.wrap (2 * t) = 2 * t := by rw [IntKind.wrap_i64]; omega
    rw [agN_some h.1 h.2]
    have hi := fun W => in_any t 0 4 W
    rw [hb] at hi
    clear hb
    go_enter Tryd.func19, Tryd.ntmps19
    go_wp2_with (go_at_call 18; refine (hi _).mono ?_; rintro e w' ⟨rfl, rfl⟩)
    go_ret
    exact ⟨rfl, rfl⟩
  · have hb : inB t 0 4 = false := by
      unfold inB
      rcases (by omega : ¬ 0 ≤ t ∨ ¬ t ≤ 4) with h | h
      · rw [decide_eq_false h]; rfl
      · rw [decide_eq_false h, Bool.and_false]
    rw [agN_none h]
    have hi := fun W => in_any t 0 4 W
    rw [hb] at hi
    clear hb h
    go_enter Tryd.func19, Tryd.ntmps19
    go_wp2_with (go_at_call 18; refine (hi _).mono ?_; rintro e w' ⟨rfl, rfl⟩)
    go_ret
    exact ⟨rfl, rfl⟩
/-- A digit's text. -/
def digT (a : Int) : ByteArray := txt [UInt8.ofNat (48 + a.toNat)]
def abc : ByteArray := ⟨#[48, 49, 50, 51, 52, 53, 54, 55, 56, 57, 97, 98, 99, 100, 101, 102, 103, 104, 105, 106, 107, 108, 109, 110, 111, 112, 113, 114, 115, 116, 117, 118, 119, 120, 121, 122]⟩
theorem abc_at (k : Nat) (h : k < 10) : abc.extract k (k + 1) = digT k := by
  rcases (by omega : k = 0 ∨ k = 1 ∨ k = 2 ∨ k = 3 ∨ k = 4 ∨ k = 5 ∨ k = 6 ∨ k = 7 ∨ k = 8 ∨ k = 9) with rfl | rfl | rfl | rfl | rfl | rfl | rfl | rfl | rfl | rfl <;> decide +kernel
theorem digT_size (a : Int) : (digT a).size = 1 := by unfold digT; rw [txt_size]; rfl
set_option maxRecDepth 100000 in
theorem small_any (k : Nat) (h : k < 10) (w : World) : Calls Tryd.prog 38 #[.int .i64 (k : Int)] w fun e w' => e = .returned (.string (digT k)) ∧ w = w' := by
  have t0 : decide ((k : Int) < 10) = true := decide_eq_true (by omega)
  have hw : IntKind.i64.wrap ((k : Int) + 1) = ((k + 1 : Nat) : Int) := by rw [IntKind.wrap_i64]; omega
  have b0 : (0 : Int) ≤ (k : Int) := by omega
  have b1 : (k : Int) ≤ 9 := by omega
  have he := Lib.hid (abc_at k h)
  go_enter Tryd.func38, Tryd.ntmps38
  go_wp2
  go_ret
  refine ⟨?_, rfl⟩
  rw [← he.out]
  first
    | rfl
    | (congr 3)
    | (simp [abc])
theorem fmt_any (k : Nat) (h : k < 10) (w : World) : Calls Tryd.prog 28 #[.int .i64 (k : Int), .int .i64 10] w fun e w' => e = .returned (.string (digT k)) ∧ w = w' := by
  have t0 : decide ((0 : Int) ≤ (k : Int)) = true := decide_eq_true (by omega)
  have t1 : decide ((k : Int) < 100) = true := decide_eq_true (by omega)
  have hs := fun W => small_any k h W
  generalize digT k = D at *
  go_enter Tryd.func28, Tryd.ntmps28
  go_wp2_with fail
  go_enter Tryd.func35, Tryd.ntmps35
  go_wp2_with (go_at_call 38; refine (hs _).mono ?_; rintro e w' ⟨rfl, rfl⟩)
  go_ret
  exact ⟨rfl, rfl⟩
theorem dec_any (k : Nat) (h : k < 10) (w : World) : Calls Tryd.prog 20 #[.int .i64 (k : Int)] w fun e w' => e = .returned (.string (digT k)) ∧ Below w.heap.size w w' := by
  have hc := fun W => clone_any (digT k) (by rw [digT_size]; omega) W
  have hf := fun W => fmt_any k h W
  generalize digT k = D at *
  go_enter Tryd.func20, Tryd.ntmps20
  go_wp2_with fail
  refine (hf _).mono ?_
  rintro e w' ⟨rfl, rfl⟩
  go_wp2_with fail
  refine (hc _).mono ?_
  rintro e w' ⟨rfl, hb⟩
  go_wp2
  go_ret
  exact ⟨rfl, hb⟩
/-- What an agent is called. -/
def nameT (a t : Int) : ByteArray := if a < t then txt [116, UInt8.ofNat (48 + a.toNat)] else txt [102, UInt8.ofNat (48 + (a - t).toNat)]
theorem t_dig (k : Int) : txt [116] ++ digT k = txt [116, UInt8.ofNat (48 + k.toNat)] := by
  unfold digT
  have h : oct (txt [116] ++ txt [UInt8.ofNat (48 + k.toNat)]) = [116, UInt8.ofNat (48 + k.toNat)] := by simp [oct, txt]
  rw [← h, txt_oct]
theorem f_dig (k : Int) : txt [102] ++ digT k = txt [102, UInt8.ofNat (48 + k.toNat)] := by
  unfold digT
  have h : oct (txt [102] ++ txt [UInt8.ofNat (48 + k.toNat)]) = [102, UInt8.ofNat (48 + k.toNat)] := by simp [oct, txt]
  rw [← h, txt_oct]
theorem name_none (a t : Int) (h : inB a 0 (agN t - 1) = false) (w : World) : Calls Tryd.prog 8 #[.int .i64 a, .int .i64 t] w fun e w' => e = .returned (.string ⟨#[]⟩) ∧ w = w' := by
  have hi := fun W => in_any a 0 (agN t - 1) W
  rw [h] at hi
  have hg := fun W => agents_any t W
  have h8 := agN_in t
  have hw : IntKind.i64.wrap (agN t - 1) = agN t - 1 := by rw [IntKind.wrap_i64]; omega
  generalize agN t = G at *
  clear h
  go_enter Tryd.func8, Tryd.ntmps8
  go_wp2_with (first | (go_at_call 19; refine (hg _).mono ?_; rintro e w' ⟨rfl, rfl⟩) | (go_at_call 18; refine (hi _).mono ?_; rintro e w' ⟨rfl, rfl⟩))
  go_ret
  exact ⟨rfl, rfl⟩
theorem name_some (a : Nat) (t : Int) (h : (a : Int) < agN t) (w : World) : Calls Tryd.prog 8 #[.int .i64 (a : Int), .int .i64 t] w fun e w' => e = .returned (.string (nameT a t)) ∧ Below w.heap.size w w' := by
  have ht : 0 ≤ t ∧ t ≤ 4 := by
    by_cases q : 0 ≤ t ∧ t ≤ 4
    · exact q
    · rw [agN_none q] at h; omega
  have e2 := agN_some ht.1 ht.2
  have hi := fun W => in_any a 0 (agN t - 1) W
  have hin : inB (a : Int) 0 (agN t - 1) = true := by
    unfold inB
    rw [decide_eq_true (by omega), decide_eq_true (by omega)]
    rfl
  rw [hin] at hi
  have hg := fun W => agents_any t W
  rw [e2] at h hi hg
  have hw : IntKind.i64.wrap (2 * t - 1) = 2 * t - 1 := by rw [IntKind.wrap_i64]; omega
  clear hin e2
  by_cases hlt : (a : Int) < t
  · have t0 : decide ((a : Int) < t) = true := decide_eq_true hlt
    have eN : nameT a t = txt [116] ++ digT (a : Int) := by rw [t_dig]; unfold nameT; rw [if_pos hlt]
    rw [eN]
    have hd := fun W => dec_any a (by omega) W
    have hz : (digT (a : Int)).size = 1 := digT_size _
    have HH := Lib.hid (And.intro h eN)
    generalize digT (a : Int) = D at *
    generalize 2 * t = G at *
    clear h eN hlt
    go_enter Tryd.func8, Tryd.ntmps8
    go_wp2_with fail
    refine (hg _).mono ?_; rintro e w' ⟨rfl, rfl⟩
    go_wp2_with fail
    refine (hi _).mono ?_; rintro e w' ⟨rfl, rfl⟩
    go_wp2_with fail
    refine (hd _).mono ?_; rintro e w' ⟨rfl, hb⟩
    go_wp2
    go_ret
    exact ⟨rfl, hb⟩
  · have t0 : decide ((a : Int) < t) = false := decide_eq_false hlt
    obtain ⟨k, hk⟩ : ∃ k : Nat, (a : Int) - t = k := ⟨((a : Int) - t).toNat, by omega⟩
    have eN : nameT a t = txt [102] ++ digT (k : Int) := by rw [f_dig]; unfold nameT; rw [if_neg hlt, hk]
    rw [eN]
    have hd := fun W => dec_any k (by omega) W
    have hz : (digT (k : Int)).size = 1 := digT_size _
    have hw2 : IntKind.i64.wrap ((a : Int) - t) = (k : Int) := by rw [IntKind.wrap_i64]; omega
    have HH := Lib.hid (And.intro h (And.intro eN hk))
    generalize digT (k : Int) = D at *
    generalize 2 * t = G at *
    clear h eN hlt hk
    go_enter Tryd.func8, Tryd.ntmps8
    go_wp2_with fail
    refine (hg _).mono ?_; rintro e w' ⟨rfl, rfl⟩
    go_wp2_with fail
    refine (hi _).mono ?_; rintro e w' ⟨rfl, rfl⟩
    go_wp2_with fail
    refine (hd _).mono ?_; rintro e w' ⟨rfl, hb⟩
    go_wp2
    go_ret
    exact ⟨rfl, hb⟩
end Go.Proofs.YtcgoaallfhompaaDoor
