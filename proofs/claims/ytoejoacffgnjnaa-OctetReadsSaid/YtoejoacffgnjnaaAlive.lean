/- The contract of the statements' own trial at three octets: it answers true. Conditions: none. -/
import Derived.Test.YtoejoacffgnjnaaRead
import Derived.Test.YtoejoacffgnjnaaRefPut
namespace Go.Proofs.Ytoejoacffgnjnaa
open Go.RowKit

theorem oct_lit (w : World) : Oct (w.alloc (.cells #[.int .u8 0, .int .u8 1, .int .u8 2] 5)) (w.heap.size + 1) (some ⟨w.heap.size, 0, none⟩) 3 3 [0, 1, 2] := by
  have hb : Blk (w.alloc (.cells #[.int .u8 0, .int .u8 1, .int .u8 2] 5)) w.heap.size 5 #[.int .u8 0, .int .u8 1, .int .u8 2] := heap_alloc_new w _
  refine ⟨rfl, Nat.le_refl _, by unfold maxLen; omega, fun h => (by cases h), fun x hx => ?_, fun ad ha i hi => ?_⟩
  · simp at hx
    omega
  · injection ha with ha
    subst ha
    refine ⟨Nat.lt_succ_self _, ?_⟩
    rw [plain_add, hb.cell]
    rcases (by omega : i = 0 ∨ i = 1 ∨ i = 2) with rfl | rfl | rfl <;> rfl

def Trial (w : World) (e : Ending) (w' : World) : Prop := e = .returned (.bool true) ∧ Below w.heap.size w w'

theorem alive_text {w : World} {B : Nat} {A : Option Addr} {n cap : Nat} (h : Oct w B A n cap (put [] 258 3)) : (convert 22 9 (.slice A n cap)).run Try.prog w = .ok (.string ⟨#[0, 1, 2]⟩) w := by
  rw [h.text 22 9 5 Try.underlying22 Try.underlying5 Try.underlying9]
  rfl
theorem alive_val : wrap64 (val (([0, 1, 2] : List Int).drop 0 |>.take 3)) = 258 := by decide +kernel

set_option maxHeartbeats 1000000 in
theorem alive_any (w : World) : Calls Try.prog 7 #[] w (Trial w) := by
  have e0 := Lib.hid alive_val
  go_enter Try.func7, Try.ntmps7
  go_wp2_with (first
    | (go_at_call 10; refine (new_any [0, 1, 2] _ _ _ _ ((oct_lit w).more (by simp)) (by omega)).mono ?_; rintro e w1 ⟨g, rfl, hr1, hb1, hg1⟩)
    | (go_at_call 19; refine (num_yes (k := 3) hr1 (by omega) (by omega) (by decide)).mono ?_; rintro e w2 ⟨rfl, hr2, hg2⟩; rw [e0.out])
    | (go_at_call 8; refine (put_any [] none 0 0 258 3 _ (Oct.nil _ _) (by omega)).mono ?_; rintro e w3 ⟨A3, n3, cap3, rfl, ho3, hb3, _⟩; have ht3 := alive_text ho3)
    | (go_at_call 14; refine (at_any (hr2.below hb3 hr2.lt)).mono ?_; rintro e w' ⟨rfl, rfl⟩))
  go_ret
  refine ⟨by simp, ?_⟩
  have h1 : Below w.heap.size w w1 := ((Below.refl _ _).alloc (Nat.le_refl _) _).trans (hb1.mono (by simp))
  have h2 : Below w.heap.size w w2 := h1.grown hg2 h1.size (fun k hk => by injection hk with hk; simp at hg1; omega)
  exact h2.trans (hb3.mono h2.size)
end Go.Proofs.Ytoejoacffgnjnaa
