/- What Div answers, and the ways through the law 'NumDivides', one for each kind of divisor and of rest. Conditions: those that each row names. -/
import Derived.Test.YtdigpaflfihbmaaNumRest
import Derived.Test.YtdigpaflfihbmaaNumCalls
import Derived.WalkKit
import Derived.Lib.Hide
namespace Go.Proofs.Ytdigpaflfihbmaa
open Go.ChangeShapes Go.WideShapes Go.RowKit
theorem div_zero (a : Int) (w : World) : Calls Try.prog 11 #[.int .i64 a, .int .i64 0] w fun e w' => e = .returned (.tuple #[.int .i64 0, .bool false]) ∧ w = w' := by
  go_enter Try.func11, Try.ntmps11
  go_wp2
  go_ret2
  exact ⟨rfl, rfl⟩
theorem div_any (a b : Int) (hb : (b == 0) = false) (hb' : b ≠ 0) (w : World) : Calls Try.prog 11 #[.int .i64 a, .int .i64 b] w fun e w' => e = .returned (.tuple #[.int .i64 (wrap64 (a.tdiv b)), .bool true]) ∧ w = w' := by
  go_enter Try.func11, Try.ntmps11
  go_wp2
  go_ret2
  exact ⟨rfl, rfl⟩
theorem div_named (a b q : Int) (hb : b ≠ 0) (hq : Hid (wrap64 (a.tdiv b) = q)) (w : World) : Calls Try.prog 11 #[.int .i64 a, .int .i64 b] w fun e w' => e = .returned (.tuple #[.int .i64 q, .bool true]) ∧ w = w' :=
  hq.out ▸ div_any a b (beq_eq_false_iff_ne.2 hb) hb w
theorem by_zero (a0 : Int) (w : World) :
    Calls Try.prog 4 #[.int .i64 a0, .int .i64 0] w fun e w' => e = .returned (.bool true) ∧ Grown w w' := by
  go_enter Try.func4, Try.ntmps4
  go_wp2_with (first | (go_at_call 7; refine (alive_any _).mono ?_; rintro e w' ⟨rfl, rfl⟩) | (go_at_call 11; refine (div_zero _ _).mono ?_; rintro e w' ⟨rfl, rfl⟩))
  go_ret
  exact ⟨rfl, Grown.refl _⟩
theorem by_less (a0 q : Int) (hq : Hid (wrap64 (a0.tdiv (-1)) = q)) (h1 : (q == wrap64 (-a0)) = true) (h2 : (wrap64 (a0 - wrap64 (-q)) == 0) = true) (w : World) :
    Calls Try.prog 4 #[.int .i64 a0, .int .i64 (-1)] w fun e w' => e = .returned (.bool true) ∧ Grown w w' := by
  go_enter Try.func4, Try.ntmps4
  go_wp2_with (first | (go_at_call 7; refine (alive_any _).mono ?_; rintro e w' ⟨rfl, rfl⟩) | (go_at_call 11; refine (div_named _ _ q (by decide) hq _).mono ?_; rintro e w' ⟨rfl, rfl⟩))
  go_ret
  exact ⟨rfl, Grown.refl _⟩
/-- The kinds of rest: none, one below 0 of a number below 0, one above 0 of a number that is not below 0. -/
theorem above_none (a0 a1 q m t : Int) (h0 : 0 < a1) (hq : Hid (wrap64 (a0.tdiv a1) = q)) (hm : wrap64 (q * a1) = m) (hr : wrap64 (a0 - m) = 0) (ht : wrap64 (-a1) = t) (h2 : t < 0) (w : World) :
    Calls Try.prog 4 #[.int .i64 a0, .int .i64 a1] w fun e w' => e = .returned (.bool true) ∧ Grown w w' := by
  go_enter Try.func4, Try.ntmps4
  go_wp2_with (first | (go_at_call 7; refine (alive_any _).mono ?_; rintro e w' ⟨rfl, rfl⟩) | (go_at_call 11; refine (div_named _ _ q (by omega) hq _).mono ?_; rintro e w' ⟨rfl, rfl⟩))
  go_ret
  exact ⟨rfl, Grown.refl _⟩
theorem above_less (a0 a1 q m r t : Int) (h0 : 0 < a1) (hq : Hid (wrap64 (a0.tdiv a1) = q)) (hm : wrap64 (q * a1) = m) (hr : wrap64 (a0 - m) = r) (ht : wrap64 (-a1) = t) (h2 : t < r) (h3 : r < a1) (hr0 : (r == 0) = false) (hs : r < 0) (hs' : a0 < 0) (w : World) :
    Calls Try.prog 4 #[.int .i64 a0, .int .i64 a1] w fun e w' => e = .returned (.bool true) ∧ Grown w w' := by
  go_enter Try.func4, Try.ntmps4
  go_wp2_with (first | (go_at_call 7; refine (alive_any _).mono ?_; rintro e w' ⟨rfl, rfl⟩) | (go_at_call 11; refine (div_named _ _ q (by omega) hq _).mono ?_; rintro e w' ⟨rfl, rfl⟩))
  go_ret
  exact ⟨rfl, Grown.refl _⟩
theorem above_more (a0 a1 q m r t : Int) (h0 : 0 < a1) (hq : Hid (wrap64 (a0.tdiv a1) = q)) (hm : wrap64 (q * a1) = m) (hr : wrap64 (a0 - m) = r) (ht : wrap64 (-a1) = t) (h2 : t < r) (h3 : r < a1) (hr0 : (r == 0) = false) (hs : decide (r < 0) = false) (hs0 : decide (a0 < 0) = false) (w : World) :
    Calls Try.prog 4 #[.int .i64 a0, .int .i64 a1] w fun e w' => e = .returned (.bool true) ∧ Grown w w' := by
  go_enter Try.func4, Try.ntmps4
  go_wp2_with (first | (go_at_call 7; refine (alive_any _).mono ?_; rintro e w' ⟨rfl, rfl⟩) | (go_at_call 11; refine (div_named _ _ q (by omega) hq _).mono ?_; rintro e w' ⟨rfl, rfl⟩))
  go_ret
  exact ⟨rfl, Grown.refl _⟩
theorem below_none (a0 a1 q m s t : Int) (h0 : a1 < -1) (hq : Hid (wrap64 (a0.tdiv a1) = q)) (hm : wrap64 (q * a1) = m) (hr : wrap64 (a0 - m) = 0) (hsz : wrap64 (-a1) = s) (ht : wrap64 (-s) = t) (h1 : 0 ≤ s) (h2 : t < 0) (h3 : 0 < s) (w : World) :
    Calls Try.prog 4 #[.int .i64 a0, .int .i64 a1] w fun e w' => e = .returned (.bool true) ∧ Grown w w' := by
  go_enter Try.func4, Try.ntmps4
  go_wp2_with (first | (go_at_call 7; refine (alive_any _).mono ?_; rintro e w' ⟨rfl, rfl⟩) | (go_at_call 11; refine (div_named _ _ q (by omega) hq _).mono ?_; rintro e w' ⟨rfl, rfl⟩))
  go_ret
  exact ⟨rfl, Grown.refl _⟩
theorem below_less (a0 a1 q m r s t : Int) (h0 : a1 < -1) (hq : Hid (wrap64 (a0.tdiv a1) = q)) (hm : wrap64 (q * a1) = m) (hr : wrap64 (a0 - m) = r) (hsz : wrap64 (-a1) = s) (ht : wrap64 (-s) = t) (h1 : 0 ≤ s) (h2 : t < r) (h3 : r < s) (hr0 : (r == 0) = false) (hs : r < 0) (hs' : a0 < 0) (w : World) :
    Calls Try.prog 4 #[.int .i64 a0, .int .i64 a1] w fun e w' => e = .returned (.bool true) ∧ Grown w w' := by
  go_enter Try.func4, Try.ntmps4
  go_wp2_with (first | (go_at_call 7; refine (alive_any _).mono ?_; rintro e w' ⟨rfl, rfl⟩) | (go_at_call 11; refine (div_named _ _ q (by omega) hq _).mono ?_; rintro e w' ⟨rfl, rfl⟩))
  go_ret
  exact ⟨rfl, Grown.refl _⟩
theorem below_more (a0 a1 q m r s t : Int) (h0 : a1 < -1) (hq : Hid (wrap64 (a0.tdiv a1) = q)) (hm : wrap64 (q * a1) = m) (hr : wrap64 (a0 - m) = r) (hsz : wrap64 (-a1) = s) (ht : wrap64 (-s) = t) (h1 : 0 ≤ s) (h2 : t < r) (h3 : r < s) (hr0 : (r == 0) = false) (hs : decide (r < 0) = false) (hs0 : decide (a0 < 0) = false) (w : World) :
    Calls Try.prog 4 #[.int .i64 a0, .int .i64 a1] w fun e w' => e = .returned (.bool true) ∧ Grown w w' := by
  go_enter Try.func4, Try.ntmps4
  go_wp2_with (first | (go_at_call 7; refine (alive_any _).mono ?_; rintro e w' ⟨rfl, rfl⟩) | (go_at_call 11; refine (div_named _ _ q (by omega) hq _).mono ?_; rintro e w' ⟨rfl, rfl⟩))
  go_ret
  exact ⟨rfl, Grown.refl _⟩
/-- The least divisor: its size goes round to itself, and the law asks no more of the rest's size. -/
theorem least_none (a0 a1 q m s : Int) (h0 : a1 < -1) (hq : Hid (wrap64 (a0.tdiv a1) = q)) (hm : wrap64 (q * a1) = m) (hr : wrap64 (a0 - m) = 0) (hsz : wrap64 (-a1) = s) (h1 : s < 0) (w : World) :
    Calls Try.prog 4 #[.int .i64 a0, .int .i64 a1] w fun e w' => e = .returned (.bool true) ∧ Grown w w' := by
  go_enter Try.func4, Try.ntmps4
  go_wp2_with (first | (go_at_call 7; refine (alive_any _).mono ?_; rintro e w' ⟨rfl, rfl⟩) | (go_at_call 11; refine (div_named _ _ q (by omega) hq _).mono ?_; rintro e w' ⟨rfl, rfl⟩))
  go_ret
  exact ⟨rfl, Grown.refl _⟩
theorem least_less (a0 a1 q m r s : Int) (h0 : a1 < -1) (hq : Hid (wrap64 (a0.tdiv a1) = q)) (hm : wrap64 (q * a1) = m) (hr : wrap64 (a0 - m) = r) (hsz : wrap64 (-a1) = s) (h1 : s < 0) (hr0 : (r == 0) = false) (hs : r < 0) (hs' : a0 < 0) (w : World) :
    Calls Try.prog 4 #[.int .i64 a0, .int .i64 a1] w fun e w' => e = .returned (.bool true) ∧ Grown w w' := by
  go_enter Try.func4, Try.ntmps4
  go_wp2_with (first | (go_at_call 7; refine (alive_any _).mono ?_; rintro e w' ⟨rfl, rfl⟩) | (go_at_call 11; refine (div_named _ _ q (by omega) hq _).mono ?_; rintro e w' ⟨rfl, rfl⟩))
  go_ret
  exact ⟨rfl, Grown.refl _⟩
theorem least_more (a0 a1 q m r s : Int) (h0 : a1 < -1) (hq : Hid (wrap64 (a0.tdiv a1) = q)) (hm : wrap64 (q * a1) = m) (hr : wrap64 (a0 - m) = r) (hsz : wrap64 (-a1) = s) (h1 : s < 0) (hr0 : (r == 0) = false) (hs : decide (r < 0) = false) (hs0 : decide (a0 < 0) = false) (w : World) :
    Calls Try.prog 4 #[.int .i64 a0, .int .i64 a1] w fun e w' => e = .returned (.bool true) ∧ Grown w w' := by
  go_enter Try.func4, Try.ntmps4
  go_wp2_with (first | (go_at_call 7; refine (alive_any _).mono ?_; rintro e w' ⟨rfl, rfl⟩) | (go_at_call 11; refine (div_named _ _ q (by omega) hq _).mono ?_; rintro e w' ⟨rfl, rfl⟩))
  go_ret
  exact ⟨rfl, Grown.refl _⟩
end Go.Proofs.Ytdigpaflfihbmaa
