/- The contract of the statements' own trial: it answers true. Conditions: the variable 'rows' lies as it is laid. -/
import Derived.Test.YtcbekkbhhepeaaaDoorRefGets
namespace Go.Proofs.YtcbekkbhhepeaaaDoor
open Go.RowKit
set_option linter.unusedSimpArgs false

theorem oct_lit (w : World) : Oct (w.alloc (.cells #[.int .u8 83, .int .u8 0, .int .u8 0, .int .u8 0, .int .u8 1, .int .u8 0] 5)) (w.heap.size + 1) (some ⟨w.heap.size, 0, none⟩) 6 6 [83, 0, 0, 0, 1, 0] := by
  have hb : Blk (w.alloc (.cells #[.int .u8 83, .int .u8 0, .int .u8 0, .int .u8 0, .int .u8 1, .int .u8 0] 5)) w.heap.size 5 #[.int .u8 83, .int .u8 0, .int .u8 0, .int .u8 0, .int .u8 1, .int .u8 0] := heap_alloc_new w _
  refine ⟨rfl, Nat.le_refl _, by unfold maxLen; omega, fun h => (by cases h), fun x hx => ?_, fun ad ha i hi => ?_⟩
  · simp at hx
    omega
  · injection ha with ha
    subst ha
    refine ⟨Nat.lt_succ_self _, ?_⟩
    rw [plain_add, hb.cell]
    rcases (by omega : i = 0 ∨ i = 1 ∨ i = 2 ∨ i = 3 ∨ i = 4 ∨ i = 5) with rfl | rfl | rfl | rfl | rfl | rfl <;> rfl
theorem getP_lit : getP (([83, 0, 0, 0, 1, 0] : List Int).take 778) = .ok ⟨0, 0, 0, [[]]⟩ := rfl
theorem chk_lit : chkP 0 0 0 [[]] = 0 := rfl
theorem oct_of_lit : octP 0 0 0 [[]] = [83, 0, 0, 0, 1, 0] := rfl
theorem size_lit : 5 + sizeM [[]] = 6 := rfl
theorem alive_get (w : World) (hL : Laid w) : Calls Tryd.prog 14 #[.slice (some ⟨w.heap.size, 0, none⟩) 6 6] (w.alloc (.cells #[.int .u8 83, .int .u8 0, .int .u8 0, .int .u8 0, .int .u8 1, .int .u8 0] 5)) fun e w' =>
    ∃ A n cap, e = .returned (.tuple #[.agg #[.int .i64 0, .int .i64 0, .int .i64 0, .slice A n cap], .int .i64 6, .int .i64 0]) ∧ Mat w' (fun g => g < w'.heap.size) A n cap [[]] ∧ Below w.heap.size w w' := by
  have b0 : Below w.heap.size w (w.alloc (.cells #[.int .u8 83, .int .u8 0, .int .u8 0, .int .u8 0, .int .u8 1, .int .u8 0] 5)) := (Below.refl _ w).alloc (Nat.le_refl _) _
  refine (get_any ((oct_lit w).more (by simp)) (hL.on b0)).mono ?_
  intro e w' h
  rw [getP_lit] at h
  obtain ⟨A, n, cap, rfl, hM, hb⟩ := h
  exact ⟨A, n, cap, rfl, hM.more fun g hg => hg.2, b0.trans (hb.mono b0.size)⟩
theorem alive_text {w : World} {B : Nat} {A : Option Addr} {n cap : Nat} (h : Oct w B A n cap [83, 0, 0, 0, 1, 0]) : (convert 29 9 (.slice A n cap)).run Tryd.prog w = .ok (.string ⟨#[83, 0, 0, 0, 1, 0]⟩) w := by
  rw [h.text 29 9 5 Tryd.underlying29 Tryd.underlying5 Tryd.underlying9]
  rfl

set_option maxRecDepth 100000 in
set_option maxHeartbeats 2000000 in
theorem alive_any (w : World) (hL : Laid w) : Calls Tryd.prog 7 #[] w fun e w' => e = .returned (.bool true) ∧ Below w.heap.size w w' := by
  have hG := alive_get w hL
  go_enter Tryd.func7, Tryd.ntmps7
  go_wp2_with fail
  refine hG.mono ?_
  rintro e w1 ⟨A, n, cap, rfl, hM, hb⟩
  have hlen : n = 1 := by rw [← hM.len]; rfl
  subst hlen
  have hP := put_good (hM.below ((Below.refl _ _).alloc (Nat.le_refl _) (.cells #[.int .i64 0, .int .i64 0, .int .i64 0, .slice A 1 cap] 24)) (fun g hg => hg)) (fun g hg => by rw [size_alloc]; omega) (hL.on (hb.alloc hb.size _)) 0 0 0 chk_lit
  go_wp2_with fail
  refine hP.mono ?_
  rintro e w2 ⟨A2, n2, cap2, rfl, hO2, hb2⟩
  rw [oct_of_lit] at hO2
  have ht2 := alive_text hO2
  have hb1 : Below w1.heap.size w1 w2 := ((Below.refl _ _).alloc (Nat.le_refl _) _).trans (hb2.mono (by simp))
  have hz : Blk (w1.alloc (.cells #[.int .i64 0, .int .i64 0, .int .i64 0, .slice A 1 cap] 24)) w1.heap.size 24 #[.int .i64 0, .int .i64 0, .int .i64 0, .slice A 1 cap] := heap_alloc_new w1 _
  have hz2 := hz.below hb2 hz.lt
  have y0 : w2.cell? ⟨w1.heap.size, 0, none⟩ = some (.int .i64 0) := hz2.cell 0
  have y1 : w2.cell? ⟨w1.heap.size, 1, none⟩ = some (.int .i64 0) := hz2.cell 1
  have y2 : w2.cell? ⟨w1.heap.size, 2, none⟩ = some (.int .i64 0) := hz2.cell 2
  have y3 : w2.cell? ⟨w1.heap.size, 3, none⟩ = some (.slice A 1 cap) := hz2.cell 3
  have hM2 := hM.below hb1 (fun g hg => hg)
  have hS : Calls Tryd.prog 12 #[.agg #[.int .i64 0, .int .i64 0, .int .i64 0, .slice A 1 cap]] w2 (fun e w' => e = .returned (.int .i64 6) ∧ Below w2.heap.size w2 w') := size_any hM2 (fun g hg => by have := hb1.size; omega) 0 0 0 (by decide) 6 size_lit
  have HB := Lib.hid (hb.trans (hb1.mono hb.size))
  clear hM hM2 hb hb1 hb2 hO2 hz hz2 hP hG
  go_wp2_with fail
  refine hS.mono ?_
  rintro e w3 ⟨rfl, hb3⟩
  have HQ := Lib.hid (HB.out.trans (hb3.mono HB.out.size))
  clear hb3
  go_wp2
  go_ret
  exact ⟨by simp, HQ.out⟩
end Go.Proofs.YtcbekkbhhepeaaaDoor
