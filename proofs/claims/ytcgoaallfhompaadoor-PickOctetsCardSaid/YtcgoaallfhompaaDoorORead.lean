/- Contracts of a reader's Num and Signed. Conditions: at most 2000 octets. -/
import Derived.Test.YtcgoaallfhompaaDoorOTake
namespace Go.Proofs.YtcgoaallfhompaaDoor.O
set_option linter.unusedSimpArgs false
set_option linter.unusedVariables false
open Go.RowKit
def _root_.Go.Proofs.YtcgoaallfhompaaDoor.Reads (v : Int) (xs : List Int) (g a k : Nat) (w : World) (e : Ending) (w' : World) : Prop :=
  e = .returned (.tuple #[.int .i64 v, .bool true]) ∧ Rd w' g xs (a + k) true ∧ w.grownBy w' (some g)
def _root_.Go.Proofs.YtcgoaallfhompaaDoor.ReadsNone (xs : List Int) (g a : Nat) (w : World) (e : Ending) (w' : World) : Prop :=
  e = .returned (.tuple #[.int .i64 0, .bool false]) ∧ Rd w' g xs a false ∧ w.grownBy w' (some g)
theorem _root_.Go.Proofs.YtcgoaallfhompaaDoor.val_nil : wrap64 (val []) = 0 := by simp [val, wrap64]
set_option maxRecDepth 100000 in
theorem _root_.Go.Proofs.YtcgoaallfhompaaDoor.num_yes {w : World} {g : Nat} {xs : List Int} {a k : Nat} (h : Rd w g xs a true) (h1 : 1 ≤ k) (h8 : k ≤ 8) (hak : a + k ≤ xs.length) :
    Calls Tryd.prog 30 #[.pointer (some ⟨g, 0, none⟩), .int .i64 (k : Int)] w (Reads (wrap64 (val ((xs.drop a).take k))) xs g a k w) := by
  go_enter Tryd.func30, Tryd.ntmps30
  go_wp2_with (first
    | (go_at_call 36; refine (take_yes h h1 h8 hak).mono ?_; rintro e w1 ⟨A1, cap1, rfl, ho1, hr1, hg1⟩)
    | (go_at_call 37; refine (ojoin_any _ _ _ _ _ _ ho1 h8).mono ?_; rintro e w' ⟨rfl, rfl⟩))
  go_ret2
  exact ⟨rfl, hr1, hg1⟩
set_option maxRecDepth 100000 in
theorem _root_.Go.Proofs.YtcgoaallfhompaaDoor.num_no {w : World} {g : Nat} {xs : List Int} {a : Nat} {good : Bool} {k : Int} (h : Rd w g xs a good) (hk : good = false ∨ k < 1 ∨ 8 < k ∨ (xs.length : Int) < a + k) :
    Calls Tryd.prog 30 #[.pointer (some ⟨g, 0, none⟩), .int .i64 k] w (ReadsNone xs g a w) := by
  have HK := Lib.hid hk
  clear hk
  go_enter Tryd.func30, Tryd.ntmps30
  go_wp2_with (first
    | (go_at_call 36; refine (take_no h HK.out).mono ?_; rintro e w1 ⟨rfl, hr1, hg1⟩)
    | (go_at_call 37; refine (ojoin_any [] _ _ _ _ 0 (Oct.nil _ _) (by omega)).mono ?_; rintro e w' ⟨rfl, rfl⟩))
  go_ret2
  exact ⟨by rw [← val_nil]; rfl, hr1, hg1⟩
set_option maxRecDepth 100000 in
theorem _root_.Go.Proofs.YtcgoaallfhompaaDoor.num_nil {w : World} {k : Int} : Calls Tryd.prog 30 #[.pointer none, .int .i64 k] w fun e w' => e = .returned (.tuple #[.int .i64 0, .bool false]) ∧ w = w' := by
  go_enter Tryd.func30, Tryd.ntmps30
  go_wp2_with (first
    | (go_at_call 36; refine take_nil.mono ?_; rintro e w1 ⟨rfl, rfl⟩)
    | (go_at_call 37; refine (ojoin_any [] _ _ _ _ 0 (Oct.nil _ _) (by omega)).mono ?_; rintro e w' ⟨rfl, rfl⟩))
  go_ret2
  exact ⟨by rw [← val_nil]; rfl, rfl⟩
end Go.Proofs.YtcgoaallfhompaaDoor.O
