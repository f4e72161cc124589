/- Whether nobody need wait for one thread, and for any of them. Conditions: none. -/
import Derived.Test.YtobkhefehkcopaaSmall
import Derived.Deep.QuietTactic
namespace Go.Proofs.Ytobkhefehkcopaa
open Go.RowKit Go.ChangeShapes Go.WideShapes

/-- Need nobody wait for i? -/
def passB (i me c : Int) (z : List Int) : Bool := i == me || !(inB i 0 (z.length - 1)) || c != z.getD i.toNat 0
/-- For any of the first so many? -/
def allB (me : Int) (cs z : List Int) (k : Nat) : Bool := (List.range k).all fun i => passB i me (cs.getD i 0) z
theorem allB_zero (me : Int) (cs z : List Int) : allB me cs z 0 = true := rfl
theorem allB_succ (me : Int) (cs z : List Int) (k : Nat) : allB me cs z (k + 1) = (allB me cs z k && passB k me (cs.getD k 0) z) := by
  unfold allB
  rw [List.range_succ, List.all_append]
  simp
theorem allB_no {me : Int} {cs z : List Int} {k n : Nat} (hk : k < n) (h : passB k me (cs.getD k 0) z = false) : allB me cs z n = false := by
  rw [Bool.eq_false_iff]
  intro e
  unfold allB at e
  rw [List.all_eq_true] at e
  have := e k (List.mem_range.2 hk)
  rw [h] at this
  cases this
set_option maxRecDepth 100000 in
set_option maxHeartbeats 2000000 in
theorem passed_any {w : World} {A : Option Addr} {n cap : Nat} {z : List Int} (i me c : Int) (h : SeesI w A n cap z) :
    Calls Try.prog 7 #[.int .i64 i, .int .i64 me, .int .i64 c, .slice A n cap] w fun e w' => e = .returned (.bool (passB i me c z)) ∧ w = w' := by
  have hl := h.len
  have hn63 : (n : Int) ≤ 9223372036854775807 := by have := Sees.room h; have := Sees.most h; unfold maxLen at this; omega
  have hn0 : (0 : Int) ≤ (n : Int) := by omega
  have ci := fun W => in_any i 0 ((n : Int) - 1) W
  unfold passB
  rw [hl]
  by_cases h0 : i = me
  · subst h0
    have t0 : (i == i) = true := by simp
    rw [t0]
    clear ci
    go_enter Try.func7, Try.ntmps7
    go_wp2
    go_ret
    exact ⟨rfl, rfl⟩
  · have t0 : (i == me) = false := by simpa using h0
    rw [t0]
    by_cases h1 : inB i 0 ((n : Int) - 1) = true
    · have h2 : 0 ≤ i ∧ i ≤ n - 1 := by unfold inB at h1; simpa using h1
      obtain ⟨h3, h4⟩ := h2
      obtain ⟨k, rfl⟩ : ∃ k : Nat, i = (k : Int) := ⟨i.toNat, by omega⟩
      rw [h1] at ci
      rw [h1]
      have hk : k < n := by omega
      obtain ⟨g, o, eA, c0⟩ := h.get hk
      rw [show ((k : Int)).toNat = k by omega]
      generalize z.getD k 0 = x at c0 ⊢
      subst eA
      have hkI : (k : Int) < (n : Int) := by omega
      have hk0 : (0 : Int) ≤ (k : Int) := by omega
      obtain ⟨b, eb⟩ : ∃ b, (c != x) = b := ⟨_, rfl⟩
      rw [eb]
      clear h0 h1 hl h4
      go_enter Try.func7, Try.ntmps7
      go_wp2_with (go_at_call 11; refine (ci _).mono ?_; rintro e w' ⟨rfl, rfl⟩)
      go_ret
      exact ⟨by simp, rfl⟩
    · rw [Bool.not_eq_true] at h1
      rw [h1] at ci
      rw [h1]
      clear h0 h1 hl
      go_enter Try.func7, Try.ntmps7
      go_wp2_with (go_at_call 11; refine (ci _).mono ?_; rintro e w' ⟨rfl, rfl⟩)
      go_ret
      exact ⟨rfl, rfl⟩
set_option maxRecDepth 100000 in
set_option maxHeartbeats 2000000 in
theorem over_any {w : World} {A A' : Option Addr} {n cap n' cap' : Nat} {cs z : List Int} (me : Int) (h : SeesI w A n cap cs) (h' : SeesI w A' n' cap' z) :
    Calls Try.prog 8 #[.int .i64 me, .slice A n cap, .slice A' n' cap'] w fun e w' => e = .returned (.bool (allB me cs z n)) ∧ w = w' := by
  have hn63 : (n : Int) ≤ 9223372036854775807 := by have := Sees.room h; have := Sees.most h; unfold maxLen at this; omega
  have cp := fun (i c : Int) => passed_any i me c h'
  go_enter Try.func8, Try.ntmps8
  go_wp2
  go_loop [11] (fun i => ∃ k : Nat, k ≤ n ∧ i = .int .i64 (k : Int) ∧ allB me cs z k = true) (fun i => n - (intOf i).toNat)
  case atStart => exact ⟨0, Nat.zero_le _, rfl, rfl⟩
  case round =>
    obtain ⟨k, hk, rfl, ha⟩ := hrel
    by_cases hlt : k < n
    · obtain ⟨g, o, eA, c0⟩ := h.get hlt
      obtain ⟨b, eb⟩ : ∃ b, passB k me (cs.getD k 0) z = b := ⟨_, rfl⟩
      have hs := allB_succ me cs z k
      have hno := allB_no (me := me) (cs := cs) (z := z) hlt
      have cpk := cp k (cs.getD k 0)
      rw [eb] at hs hno cpk
      generalize cs.getD k 0 = x at *
      rw [ha, Bool.true_and] at hs
      subst eA
      have hkI : (k : Int) < (n : Int) := by omega
      have hk0 : (0 : Int) ≤ (k : Int) := by omega
      clear ha eb
      cases b with
      | false =>
        have HS := Lib.hid (hno rfl)
        clear hs hno
        go_wp2_with (go_at_call 7; refine cpk.mono ?_; rintro e w' ⟨rfl, rfl⟩)
        go_ret
        exact ⟨by rw [HS.out]; rfl, rfl⟩
      | true =>
        have HS := Lib.hid hs
        clear hs hno
        go_wp2_with (go_at_call 7; refine cpk.mono ?_; rintro e w' ⟨rfl, rfl⟩)
        go_round
        case rel => exact ⟨k + 1, by omega, by go_num, HS.out⟩
        case measure => simp [intOf]; omega
    · have hkn : k = n := by omega
      subst hkn
      have HA := Lib.hid ha
      clear ha
      go_wp2
      go_ret
      exact ⟨by rw [HA.out]; rfl, rfl⟩
end Go.Proofs.Ytobkhefehkcopaa
