/- Where the plain answer says octets are wrong first. Conditions: at most 2000 octets. -/
import Derived.Test.YtcgoaallfhompaaDoorGetW
namespace Go.Proofs.YtcgoaallfhompaaDoor
open Go.RowKit Go.ChangeShapes Go.WideShapes
set_option linter.unusedSimpArgs false
set_option linter.unusedVariables false

theorem oct_cell {w : World} {B n cap : Nat} {A : Option Addr} {xs : List Int} (h : Oct w B A n cap xs) {k : Nat} (hk : k < n) : ∃ ad, A = some ad ∧ w.cell? (ad.add k) = some (.int .u8 (xs.getD k 0)) := by
  cases A with
  | none => have := h.zero.1; omega
  | some ad => exact ⟨ad, rfl, (h.cell ad rfl k hk).2⟩
set_option maxRecDepth 100000 in
set_option maxHeartbeats 2000000 in
theorem wrong_any {w : World} {A : Option Addr} {n cap : Nat} {xs : List Int} (h : Oct w w.heap.size A n cap xs) (hn : n ≤ 2000) : Calls Tryd.prog 16 #[.slice A n cap] w fun e w' => e = .returned (.tuple #[.int .i64 (wrongP xs).1, .int .i64 (wrongP xs).2]) ∧ w = w' := by
  have hl := h.len
  have HS := Lib.hid (h.small)
  have HL := Lib.hid hl
  clear hl
  by_cases q2 : n < 2
  · have t0 : decide ((n : Int) < 2) = true := decide_eq_true (by omega)
    have hz : wrongP xs = ((n : Int), 1) := by unfold wrongP; rw [HL.out, if_pos q2]
    rw [hz]
    go_enter Tryd.func16, Tryd.ntmps16
    go_wp2
    go_ret2
    exact ⟨rfl, rfl⟩
  · have t0 : decide ((n : Int) < 2) = false := decide_eq_false (by omega)
    have hroom := h.room
    have hcut := cut_front A n cap 2 (by omega) h.none_
    have hcut2 : ∀ W : World, (Instr.slice 23 (.slice A n cap) none (some (.int .i64 2)) none).run Tryd.prog W = .ok (.slice A 2 cap) W := hcut
    have hfr := h.front (k := 2) (by omega)
    have hmv := many_in HS.out
    have hT := take_ref (xs.take 2) A 2 cap w _ hfr (by omega)
    have hvv : wrap64 (val (xs.take 2)) = (manyP xs : Int) := by
      have e : vAt xs 0 2 = val (xs.take 2) := rfl
      rw [← e, ← hmv.1]
      unfold wrap64
      omega
    rw [hvv] at hT
    obtain ⟨m2, em2⟩ : ∃ m : Nat, m = 2 := ⟨_, rfl⟩
    rw [← em2] at hT
    have hcut3 : ∀ W : World, (Instr.slice 23 (.slice A n cap) none (some (.int .i64 2)) none).run Tryd.prog W = .ok (.slice A m2 cap) W := by rw [em2]; exact hcut2
    have hz : wrongP xs = if 4096 < manyP xs then (0, 4) else scanP xs (manyP xs) 0 := by unfold wrongP; rw [HL.out, if_neg q2]
    have hM := hmv.2
    generalize manyP xs = M at *
    have HM := Lib.hid (And.intro em2 (And.intro hvv hmv))
    clear hcut hcut2 em2 hvv hmv hfr
    have hw0 : IntKind.i64.wrap (M : Int) = (M : Int) := by rw [IntKind.wrap_i64]; omega
    by_cases q4 : 4096 < M
    · have t4 : decide ((4096 : Int) < (M : Int)) = true := decide_eq_true (by omega)
      rw [if_pos q4] at hz
      rw [hz]
      clear hz
      go_enter Tryd.func16, Tryd.ntmps16
      go_wp2_with fail
      refine hT.mono ?_
      rintro e w' ⟨rfl, rfl⟩
      go_wp2
      go_ret2
      exact ⟨rfl, rfl⟩
    · have t4 : decide ((4096 : Int) < (M : Int)) = false := decide_eq_false (by omega)
      rw [if_neg q4] at hz
      have HZ := Lib.hid hz
      clear hz
      go_enter Tryd.func16, Tryd.ntmps16
      go_wp2_with fail
      refine hT.mono ?_
      rintro e w' ⟨rfl, rfl⟩
      go_wp2_with fail
      go_loop [5] (fun i => ∃ k : Nat, i = .int .i64 k ∧ k ≤ M ∧ scanP xs (M - k) k = wrongP xs) (fun i => M - (intOf i).toNat)
      case atStart => exact ⟨0, rfl, Nat.zero_le _, HZ.out.symm⟩
      case round =>
        obtain ⟨k, rfl, hk, hs⟩ := hrel
        by_cases hlt : k < M
        · have t1 : decide ((k : Int) < (M : Int)) = true := decide_eq_true (by omega)
          have hk1 : IntKind.i64.wrap ((k : Int) + 1) = ((k + 1 : Nat) : Int) := by rw [IntKind.wrap_i64]; omega
          have hk2 : IntKind.i64.wrap ((2 : Int) + (k : Int)) = ((2 + k : Nat) : Int) := by rw [IntKind.wrap_i64]; omega
          have hs1 : scanP xs (M - k) k = if n ≤ 2 + k then ((n : Int), 1) else if 7 < xs.getD (2 + k) 0 then (((2 + k : Nat) : Int), 3) else scanP xs (M - (k + 1)) (k + 1) := by
            rw [show M - k = (M - (k + 1)) + 1 by omega, ← HL.out]
            rw [show (((2 + k : Nat)) : Int) = (2 : Int) + k by omega]
            rfl
          rw [hs] at hs1
          by_cases c0 : n ≤ 2 + k
          · rw [if_pos c0] at hs1
            have t2 : decide ((n : Int) ≤ ((2 + k : Nat) : Int)) = true := decide_eq_true (by omega)
            have HX := Lib.hid hs1
            clear hs1 hs
            go_wp2
            go_ret2
            exact ⟨by rw [HX.out]; rfl, rfl⟩
          · rw [if_neg c0] at hs1
            have t2 : decide ((n : Int) ≤ ((2 + k : Nat) : Int)) = false := decide_eq_false (by omega)
            obtain ⟨ad, rfl, d0⟩ := oct_cell h (k := 2 + k) (by omega)
            have b0 : (0 : Int) ≤ ((2 + k : Nat) : Int) := by omega
            have b1 : ((2 + k : Nat) : Int) < (n : Int) := by omega
            generalize xs.getD (2 + k) 0 = x at *
            by_cases c7 : 7 < x
            · rw [if_pos c7] at hs1
              have t3 : decide ((7 : Int) < x) = true := decide_eq_true c7
              have HX := Lib.hid hs1
              clear hs1 hs
              go_wp2
              go_ret2
              exact ⟨by rw [HX.out]; rfl, rfl⟩
            · rw [if_neg c7] at hs1
              have t3 : decide ((7 : Int) < x) = false := decide_eq_false c7
              have HX := Lib.hid hs1
              clear hs1 hs
              go_wp2
              go_round
              case rel => exact ⟨k + 1, by simp, by omega, HX.out.symm⟩
              case measure => simp [intOf]; omega
        · obtain rfl : k = M := by omega
          have t1 : decide ((k : Int) < (k : Int)) = false := decide_eq_false (by omega)
          have hk2 : IntKind.i64.wrap ((2 : Int) + (k : Int)) = (2 : Int) + (k : Int) := by rw [IntKind.wrap_i64]; omega
          rw [Nat.sub_self] at hs
          have hsc : wrongP xs = ((2 : Int) + (k : Int), 0) := by rw [← hs]; rfl
          have HX := Lib.hid hsc
          clear hs hsc
          go_wp2
          go_ret2
          exact ⟨by rw [HX.out]; rfl, rfl⟩
end Go.Proofs.YtcgoaallfhompaaDoor
