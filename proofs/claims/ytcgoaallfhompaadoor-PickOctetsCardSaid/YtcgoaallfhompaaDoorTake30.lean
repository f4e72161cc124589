/- What pick.take answers. Conditions: at most 2000 octets; one or two octets are taken. -/
import Derived.Test.YtcgoaallfhompaaDoorORead
import Derived.Test.YtcgoaallfhompaaDoorName
namespace Go.Proofs.YtcgoaallfhompaaDoor
open Go.RowKit Go.ChangeShapes Go.WideShapes
set_option linter.unusedSimpArgs false
set_option linter.unusedVariables false

set_option maxRecDepth 100000 in
theorem rat_any {w : World} {g : Nat} {xs : List Int} {a : Nat} {good : Bool} (h : Rd w g xs a good) : Calls Tryd.prog 24 #[.pointer (some ⟨g, 0, none⟩)] w fun e w' => e = .returned (.int .i64 (a : Int)) ∧ w = w' := by
  obtain ⟨⟨A, cap, hk, ho⟩, hm, hl⟩ := h
  have c1 : w.cell? ⟨g, 1, none⟩ = some (.int .i64 (a : Int)) := hk.cell 1
  go_enter Tryd.func24, Tryd.ntmps24
  go_wp2
  go_ret
  exact ⟨rfl, rfl⟩
/-- The number that some octets tell. -/
def vAt (xs : List Int) (a k : Nat) : Int := val ((xs.drop a).take k)
theorem vAt_in {xs : List Int} (h : Small xs) (a : Nat) {k : Nat} (hk : k ≤ 2) : 0 ≤ vAt xs a k ∧ vAt xs a k < 65536 := by
  have h1 := val_in _ ((h.drop a).take k)
  have h2 : ((xs.drop a).take k).length ≤ 2 := by rw [List.length_take]; omega
  unfold vAt
  refine ⟨h1.1, Int.lt_of_lt_of_le h1.2 ?_⟩
  rcases (by omega : ((xs.drop a).take k).length = 0 ∨ ((xs.drop a).take k).length = 1 ∨ ((xs.drop a).take k).length = 2) with e | e | e <;> rw [e] <;> omega
theorem Rd.small {w : World} {g : Nat} {xs : List Int} {a : Nat} {good : Bool} (h : Rd w g xs a good) : Small xs := by
  obtain ⟨⟨A, cap, hk, ho⟩, hm, hl⟩ := h
  exact ho.small
/-- What pick.take answers: x, p, e; the reader has come to b. -/
def Took3 (xs : List Int) (g b : Nat) (good : Bool) (x p e : Int) (w : World) (en : Ending) (w' : World) : Prop :=
  en = .returned (.tuple #[.int .i64 x, .int .i64 p, .int .i64 e]) ∧ Rd w' g xs b good ∧ w.grownBy w' (some g)
set_option maxRecDepth 100000 in
theorem ptake_ok {w : World} {g : Nat} {xs : List Int} {a k : Nat} (h : Rd w g xs a true) (m er : Int) (h1 : 1 ≤ k) (h2 : k ≤ 2) (hak : a + k ≤ xs.length) (hm : vAt xs a k ≤ m) :
    Calls Tryd.prog 23 #[.pointer (some ⟨g, 0, none⟩), .int .i64 (k : Int), .int .i64 m, .int .i64 er] w (Took3 xs g (a + k) true (vAt xs a k) 0 0 w) := by
  have hN := num_yes h h1 (by omega) hak
  have hv := vAt_in h.small a h2
  rw [show wrap64 (val ((xs.drop a).take k)) = vAt xs a k by unfold vAt at *; unfold wrap64; omega] at hN
  generalize vAt xs a k = v at *
  have t0 : decide (m < v) = false := decide_eq_false (by omega)
  go_enter Tryd.func23, Tryd.ntmps23
  go_wp2_with fail
  refine (rat_any h).mono ?_
  rintro e w1 ⟨rfl, rfl⟩
  go_wp2_with fail
  refine hN.mono ?_
  rintro e w1 ⟨rfl, hr1, hg1⟩
  go_wp2
  go_ret3
  exact ⟨rfl, hr1, hg1⟩
set_option maxRecDepth 100000 in
theorem ptake_above {w : World} {g : Nat} {xs : List Int} {a k : Nat} (h : Rd w g xs a true) (m er : Int) (h1 : 1 ≤ k) (h2 : k ≤ 2) (hak : a + k ≤ xs.length) (hm : m < vAt xs a k) :
    Calls Tryd.prog 23 #[.pointer (some ⟨g, 0, none⟩), .int .i64 (k : Int), .int .i64 m, .int .i64 er] w (Took3 xs g (a + k) true 0 a er w) := by
  have hN := num_yes h h1 (by omega) hak
  have hv := vAt_in h.small a h2
  rw [show wrap64 (val ((xs.drop a).take k)) = vAt xs a k by unfold vAt at *; unfold wrap64; omega] at hN
  generalize vAt xs a k = v at *
  have t0 : decide (m < v) = true := decide_eq_true (by omega)
  go_enter Tryd.func23, Tryd.ntmps23
  go_wp2_with fail
  refine (rat_any h).mono ?_
  rintro e w1 ⟨rfl, rfl⟩
  go_wp2_with fail
  refine hN.mono ?_
  rintro e w1 ⟨rfl, hr1, hg1⟩
  go_wp2
  go_ret3
  exact ⟨rfl, hr1, hg1⟩
set_option maxRecDepth 100000 in
theorem ptake_form {w : World} {g : Nat} {xs : List Int} {a k : Nat} (h : Rd w g xs a true) (m er : Int) (hak : xs.length < a + k) :
    Calls Tryd.prog 23 #[.pointer (some ⟨g, 0, none⟩), .int .i64 (k : Int), .int .i64 m, .int .i64 er] w (Took3 xs g a false 0 xs.length 1 w) := by
  have hN := num_no h (k := (k : Int)) (by omega)
  have hm := h.most
  have hl := h.le
  obtain ⟨L, eL⟩ : ∃ L, xs.length = L := ⟨_, rfl⟩
  have EL := Lib.hid eL
  have hLft := fun W (hW : Rd W g xs a false) => left_any hW
  rw [eL] at hm hl hak hLft ⊢
  clear eL
  have q1 : (0 : Int) ≤ (L : Int) - a := by omega
  have q2 : (L : Int) - a ≤ 2000 := by omega
  have q3 : (a : Int) + ((L : Int) - a) = L := by omega
  obtain ⟨D, eD⟩ : ∃ D, (L : Int) - a = D := ⟨_, rfl⟩
  rw [eD] at q1 q2 q3 hLft
  clear eD
  go_enter Tryd.func23, Tryd.ntmps23
  go_wp2_with fail
  refine (rat_any h).mono ?_
  rintro e w1 ⟨rfl, rfl⟩
  go_wp2_with fail
  refine hN.mono ?_
  rintro e w1 ⟨rfl, hr1, hg1⟩
  go_wp2_with fail
  refine (hLft _ hr1).mono ?_
  rintro e w2 ⟨rfl, q, rfl⟩
  go_wp2
  go_ret3
  exact ⟨rfl, hr1.drewN q, grown_drewN hg1 q⟩
end Go.Proofs.YtcgoaallfhompaaDoor
