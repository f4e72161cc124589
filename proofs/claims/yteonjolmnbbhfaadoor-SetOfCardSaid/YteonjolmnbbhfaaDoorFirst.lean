/- First answers the least member of a set and true; 0 and false where there is none. Conditions: the table of math/bits lies as it is laid. -/
import Derived.Test.YteonjolmnbbhfaaDoorEach
namespace Go.Proofs.YteonjolmnbbhfaaDoor
open Go.RowKit Go.Shelf
attribute [local go_sem] Oper.semAt_some

def firstN (s : Nat) : Int := if s = 0 then 0 else (Lib.ctz 64 s : Nat)
def someN (s : Nat) : Bool := s != 0

theorem box_kept {W W' : World} {row : Option Nat} {B : Nat} {t : TypeId} {v : Value} (h : Boxed W B t v) (hg : W.grownBy W' row) (hr : ∀ r, row = some r → ∃ o : Obj, W.heap[r]? = some o ∧ o.isCells = false) : Boxed W' B t v :=
  boxed_own B t (fun _ : Unit => v) () W W' row h hg hr

set_option maxRecDepth 100000 in
set_option maxHeartbeats 2000000 in
theorem first_any (s : Nat) (hs : s < 18446744073709551616) (w : World) (hT : Tab w) :
    Calls Tryd.prog 15 #[.int .u64 (s : Int)] w fun e w' => e = .returned (.tuple #[.int .i64 (firstN s), .bool (someN s)]) ∧ Below w.heap.size w w' := by
  refine (callsIn_wide (n := 9)).1 ?_
  have hw0 : 0 < w.heap.size := by
    have := hT 0 (by decide)
    exact World.block_lt_of_cell? w _ this
  refine callsIn_of_wp_marks Tryd.func15 rfl trivial ?_ rfl
  simp only [Tryd.ntmps15, List.size_toArray, List.length_cons, List.length_nil, Nat.reduceAdd, Nat.reduceSub, Array.replicate_succ, Array.replicate_zero, List.push_toArray, List.append_toArray, List.nil_append, List.cons_append]
  gi_wp2_with (refine ⟨trivial, ?_⟩; gi_at_call 17; refine (each_any _ _ _).mono ?_; rintro e w' ⟨rfl, rfl⟩)
  have bI := Boxed.new w 3 (.int .i64 0)
  have bB := Boxed.new (w.alloc (.cells #[.int .i64 0] 3)) 4 (.bool false)
  have bS := Boxed.new ((w.alloc (.cells #[.int .i64 0] 3)).alloc (.cells #[.bool false] 4)) 24 (.int .u64 (s : Int))
  simp only [World.size_alloc] at bB bS
  have hB0 : Below w.heap.size w (((w.alloc (.cells #[.int .i64 0] 3)).alloc (.cells #[.bool false] 4)).alloc (.cells #[.int .u64 (s : Int)] 24)) := (((Below.refl _ w).alloc (Nat.le_refl _) _).alloc (by simp) _).alloc (by simp; omega) _
  refine wpIn_rangeFunc_ownF rfl (by decide) (gf := 20) (lb := #[.pointer (some ⟨w.heap.size + 1 + 1, 0, none⟩)]) rfl trivial (enters_of Tryd.func20 (by kernel_rfl) rfl)
    (each_stops 8 (by decide) (w.heap.size + 1 + 1) w.heap.size s hs hw0 _ (by simp) bS.cell (hT.below hw0 hB0)) belowK_t (belowK_b (by simp; omega)) (Below.refl _ _) (fun _ => rfl)
    (fun pre W => (pre = [] ∧ Boxed W w.heap.size 3 (.int .i64 0) ∧ Boxed W (w.heap.size + 1) 4 (.bool false)) ∧ Below w.heap.size w W)
    (fun c pre W => (c = .ret ∧ ∃ x : Nat, pre = [x] ∧ Boxed W w.heap.size 3 (.int .i64 (x : Int)) ∧ Boxed W (w.heap.size + 1) 4 (.bool true)) ∧ Below w.heap.size w W)
    (OwnFrom.and (Own.from (fun s A B row hs hg hr => ⟨hs.1, box_kept hs.2.1 hg hr, box_kept hs.2.2 hg hr⟩) _) (ownFrom_below (Nat.le_refl _) (by simp; omega)))
    (fun c => OwnFrom.and (Own.from (fun s A B row hs hg hr => ⟨hs.1, by obtain ⟨x, h1, h2, h3⟩ := hs.2; exact ⟨x, h1, box_kept h2 hg hr, box_kept h3 hg hr⟩⟩) _) (ownFrom_below (Nat.le_refl _) (by simp; omega)))
    ⟨⟨rfl, (bI.alloc _).alloc _, bB.alloc _⟩, hB0⟩
    (fun x => { tmps := #[.int .u64 (s : Int), undef, .pointer (some ⟨w.heap.size, 0, none⟩), .pointer (some ⟨w.heap.size + 1, 0, none⟩), .int .i64 (x : Int), .int .u64 (s : Int), .func (.func 20) #[] #[.pointer (some ⟨w.heap.size + 1 + 1, 0, none⟩)], .int .i64 (x : Int), undef], defers := [] }) ?assign ?body ?done ?stop
  case assign =>
    intro l x W K hK
    gi_wp2
    exact hK
  case body =>
    rintro l pre x W ⟨⟨rfl, hI, hB⟩, hW⟩ _
    have cI := hI.cell
    have cB := hB.cell
    have fI := hI.frozen
    have fB := hB.frozen
    gi_wp2
    have hI1 := (hI.set (.int .i64 (x : Int))).kept (grownBy_setCell' _ (w.heap.size + 1) (.bool true)) (by simp)
    have hB1 := (hB.kept (grownBy_setCell' _ w.heap.size (.int .i64 (x : Int))) (by simp)).set (.bool true)
    exact ⟨(KeepsOthers.setCell _ _ _).trans (KeepsOthers.setCell _ _ _), ⟨rfl, x, rfl, hI1, hB1⟩,
      (hW.setCell (p := ⟨w.heap.size, 0, none⟩) (Nat.le_refl _) _).setCell (p := ⟨w.heap.size + 1, 0, none⟩) (by simp) _⟩
  case done =>
    rintro D ys W hD rfl ⟨⟨hn, hI, hB⟩, hW⟩ hK
    have hs0 : s = 0 := by
      by_cases h0 : s = 0
      · exact h0
      · rw [mem_step s h0 hs] at hn
        cases hn
    subst hs0
    have cI := hI.cell
    have cB := hB.cell
    have fI := hI.frozen
    have fB := hB.frozen
    gi_wp2
    have hI1 := (hI.set (.int .i64 0)).kept (grownBy_setCell' _ (w.heap.size + 1) (.bool false)) (by simp)
    have hB1 := (hB.kept (grownBy_setCell' _ w.heap.size (.int .i64 0)) (by simp)).set (.bool false)
    have hK' := ((KeepsOthers.setCell W ⟨w.heap.size, 0, none⟩ (.int .i64 0)).trans (KeepsOthers.setCell _ ⟨w.heap.size + 1, 0, none⟩ (.bool false))).same D _ hK rfl
    have hW1 := (hW.setCell (p := ⟨w.heap.size, 0, none⟩) (Nat.le_refl _) (.int .i64 0)).setCell (p := ⟨w.heap.size + 1, 0, none⟩) (by simp) (.bool false)
    refine ⟨by simp, .inl ⟨_, _, rfl, run_takeDeferred hK', ?_⟩⟩
    have hI2 := (box_kept hI1 (grownBy_putObj' _ D (.deferred none)) (fun r e => by cases e; exact ⟨_, hK', rfl⟩)).cell
    have hB2 := (box_kept hB1 (grownBy_putObj' _ D (.deferred none)) (fun r e => by cases e; exact ⟨_, hK', rfl⟩)).cell
    refine ⟨.tuple #[.int .i64 0, .bool false], ?_, rfl, hW1.trans (belowK_b (w := w) (Nat.le_refl _) _ D _ _ (by simp at hD; omega) hK' rfl rfl)⟩
    simp [results, Tryd.f15, go_sem, hI2, hB2]
  case stop =>
    rintro D c pre W hD hpre ⟨⟨rfl, x, rfl, hI, hB⟩, hW⟩ hK
    have hs0 : s ≠ 0 := by
      intro h0
      subst h0
      rw [mem_zero] at hpre
      simp at hpre
    rw [mem_step s hs0 hs] at hpre
    have hx : x = Lib.ctz 64 s := by simpa using hpre
    subst hx
    have e1 : firstN s = (Lib.ctz 64 s : Nat) := by simp [firstN, hs0]
    have e2 : someN s = true := by simp [someN, hs0]
    gi_wp2
    refine ⟨by simp, .inl ⟨_, _, rfl, run_takeDeferred hK, ?_⟩⟩
    have hI2 := (box_kept hI (grownBy_putObj' _ D (.deferred none)) (fun r e => by cases e; exact ⟨_, hK, rfl⟩)).cell
    have hB2 := (box_kept hB (grownBy_putObj' _ D (.deferred none)) (fun r e => by cases e; exact ⟨_, hK, rfl⟩)).cell
    refine ⟨.tuple #[.int .i64 ((Lib.ctz 64 s : Nat) : Int), .bool true], ?_, by rw [e1, e2], hW.trans (belowK_b (w := w) (Nat.le_refl _) _ D _ _ (by simp at hD; omega) hK rfl rfl)⟩
    simp [results, Tryd.f15, go_sem, hI2, hB2]
end Go.Proofs.YteonjolmnbbhfaaDoor
