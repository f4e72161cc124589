/- The contract of the plain Get: the instruction of twelve octets. Conditions: none. -/
import Derived.Test.YtcbekkbhhepeaaaDoorGets
import Derived.StillTailTactics
namespace Go.Proofs.YtcbekkbhhepeaaaDoor
open Go.RowKit

/-- 'b[4:12]'. -/
theorem cut_4_12 (A : Option Addr) (n cap : Nat) (hc : 12 ≤ cap) (w : World) :
    (Instr.slice 29 (.slice A n cap) (some (.int .i64 4)) (some (.int .i64 12)) none).run Tryd.prog w = .ok (.slice (A.map (·.add 4)) 8 (cap - 4)) w := by
  rw [run_slice_lh w 29 A n cap under22 .i64 .i64 _ _ (by omega) (by omega) (by omega), size22]
  have e3 : ¬ cap = 4 := by omega
  have e1 : (4 : Int).toNat = 4 := rfl
  have e2 : (12 : Int).toNat = 12 := rfl
  simp only [Result.andThen, sliced, e1, e2, if_neg e3, Nat.mul_one]
theorem sg_8 (xs : List Int) (h : xs.length = 8) : sg xs = wrap64 (val xs) := by
  unfold sg
  rw [if_neg (by omega)]

set_option maxRecDepth 100000 in
set_option maxHeartbeats 1000000 in
theorem refget_12 (xs : List Int) (A : Option Addr) (cap : Nat) (w : World) (h : Oct w w.heap.size A 12 cap xs) :
    Calls Tryd.prog 45 #[.slice A 12 cap] w fun e w' => e = .returned (.agg (ins (xs[0]?.getD 0) (xs[1]?.getD 0) (xs[2]?.getD 0) (xs[3]?.getD 0) (wrap64 (val (xs.drop 4))))) ∧ Below w.heap.size w w' := by
  obtain ⟨ad, rfl⟩ : ∃ ad, A = some ad := by
    cases A with
    | none => have := h.zero.1; omega
    | some ad => exact ⟨ad, rfl⟩
  obtain ⟨W0, eW0⟩ : ∃ W0, W0 = w.alloc (.cells #[.int .i64 0, .int .i64 0, .int .i64 0, .int .i64 0, .int .i64 0] 45) := ⟨_, rfl⟩
  have b0 : Below w.heap.size w W0 := by rw [eW0]; exact (Below.refl _ w).alloc (Nat.le_refl _) _
  have r0 : Blk W0 w.heap.size 45 (ins 0 0 0 0 0) := by rw [eW0]; exact heap_alloc_new w _
  have hW := h.below b0
  obtain ⟨o, e0⟩ : ∃ o, xs[0]?.getD 0 = o := ⟨_, rfl⟩
  obtain ⟨a, e1⟩ : ∃ o, xs[1]?.getD 0 = o := ⟨_, rfl⟩
  obtain ⟨b, e2⟩ : ∃ o, xs[2]?.getD 0 = o := ⟨_, rfl⟩
  obtain ⟨c, e3⟩ : ∃ o, xs[3]?.getD 0 = o := ⟨_, rfl⟩
  obtain ⟨n, e4⟩ : ∃ o, wrap64 (val (xs.drop 4)) = o := ⟨_, rfl⟩
  have b1 : Below w.heap.size w W0.drew := b0.drew
  have r1 : Blk W0.drew w.heap.size 45 (ins 0 0 0 0 0) := r0
  replace hW : Oct W0.drew w.heap.size (some ad) 12 cap xs := hW.keep fun _ _ => rfl
  have c0 : W0.drew.cell? ad = some (.int .u8 (xs.getD 0 0)) := (hW.cell ad rfl 0 (by omega)).2
  have c1 : W0.drew.cell? ⟨ad.block, ad.off + 1, none⟩ = some (.int .u8 (xs.getD 1 0)) := by simpa [Addr.add] using (hW.cell ad rfl 1 (by omega)).2
  have c2 : W0.drew.cell? ⟨ad.block, ad.off + 2, none⟩ = some (.int .u8 (xs.getD 2 0)) := by simpa [Addr.add] using (hW.cell ad rfl 2 (by omega)).2
  have c3 : W0.drew.cell? ⟨ad.block, ad.off + 3, none⟩ = some (.int .u8 (xs.getD 3 0)) := by simpa [Addr.add] using (hW.cell ad rfl 3 (by omega)).2
  rw [List.getD_eq_getElem?_getD, e0] at c0
  rw [List.getD_eq_getElem?_getD, e1] at c1
  rw [List.getD_eq_getElem?_getD, e2] at c2
  rw [List.getD_eq_getElem?_getD, e3] at c3
  have g0 := h.small.at_ 0
  have g1 := h.small.at_ 1
  have g2 := h.small.at_ 2
  have g3 := h.small.at_ 3
  rw [e0] at g0
  rw [e1] at g1
  rw [e2] at g2
  rw [e3] at g3
  have u0 : IntKind.i64.wrap o = o := IntWalk.i64_in o (by omega)
  have u1 : IntKind.i64.wrap a = a := IntWalk.i64_in a (by omega)
  have u2 : IntKind.i64.wrap b = b := IntWalk.i64_in b (by omega)
  have u3 : IntKind.i64.wrap c = c := IntWalk.i64_in c (by omega)
  have hroom := h.room
  have hmost := h.most
  have hsl := cut_4_12 (some ad) 12 cap hroom
  have hwin := hW.window (l := 4) (k := 8) (c := cap - 4) (by omega) (by omega) (by omega) (by omega)
  have e8 : (xs.drop 4).take 8 = xs.drop 4 := List.take_of_length_le (by rw [List.length_drop, h.len]; omega)
  rw [e8] at hwin
  have hs := signed_ref _ _ _ _ W0.drew w.heap.size hwin (by omega) (by omega)
  rw [sg_8 _ (by rw [List.length_drop, h.len]), e4] at hs
  rw [e0, e1, e2, e3, e4]
  clear g0 g1 g2 g3
  clear e0 e1 e2 e3 e4 e8 hwin hW h
  go_enter Tryd.func45, Tryd.ntmps45
  go_wp2_with fail
  rw [← eW0]
  clear eW0
  refine wp_region_still_tail 20 (by kernel_rfl) (by kernel_rfl) ?_
  simp only [List.take_succ_cons, List.take_zero, List.drop_succ_cons, List.drop_zero]
  change wpStill _ _ W0.drew (fun a' => wpList _ _ _ _ a' W0.drew) _ _
  generalize W0.drew = W1 at *
  repeat still_step
  still_call (hs.mono fun _ _ h => ⟨h.1, h.2.symm⟩)
  repeat still_step
  try refine wpStill_nil ?_
  go_wp2_with (refine wpList_store_row rfl 45 (.tmp 2) (.tmp 22) rfl w.heap.size (ins o a b c n) rfl rfl 45 (ins 0 0 0 0 0) r1 info23 rfl (ins_one o a b c n) ?_)
  refine bodyPost_ret (results_cell_row (cs := ins o a b c n) rfl _ _ w.heap.size 45 (0, 0) _ rfl (setRow_heap _ _ _ _ _ _ r1) Tryd.underlying45 rfl info23) rfl ?_
  exact ⟨rfl, below_setRow b1 (Nat.le_refl _) _⟩
end Go.Proofs.YtcbekkbhhepeaaaDoor
