/- The numbers of an iterator collected in a list of the call's own; sorted; a number looked for in a sorted list. Conditions: at most 1000 numbers. -/
import Derived.Test.YtllcgidachbnlaaSeq
namespace Go.Proofs.Ytllcgidachbnlaa
open Go.RowKit Go.Shelf Go.ChangeShapes Go.WideShapes Go.Sort
attribute [local go_sem] Oper.semAt_some
theorem ints_snoc (pre : List Int) (x : Int) : ints (pre ++ [x]) = ints pre ++ [Value.int .i64 x] := by simp [ints, int1]
set_option maxRecDepth 100000 in
set_option maxHeartbeats 2000000 in
theorem appendseq_any {w : World} {A : Option Addr} {len cap : Nat} {l : List Int} (hS : SeesI w A len cap l) (h1000 : len ≤ 1000) (Bs : Nat) (hB : Blk w Bs 30 #[.slice A len cap]) :
    Calls Try.prog 68 #[.slice none 0 0, seqV Bs] w fun e w' => ∃ v, e = .returned v ∧ w'.ownsRow w.heap.size 2 1 v l.length (ints l) ∧ Below w.heap.size w w' := by
  refine (callsIn_wide (n := 9)).1 ?_
  have hBl := hB.lt
  have hAl : ∀ g, holds A len g → g < w.heap.size := Sees.lt hS
  have hll := hS.len
  obtain ⟨i0, hi, hz0, hz1, hz2⟩ := info_parts info2
  refine callsIn_of_wp_marks Try.func68 rfl trivial ?_ rfl
  simp only [Try.ntmps68, List.size_toArray, List.length_cons, List.length_nil, Nat.reduceAdd, Nat.reduceSub, Array.replicate_succ, Array.replicate_zero, List.push_toArray, List.append_toArray, List.nil_append, List.cons_append]
  unfold seqV
  gi_wp2
  have bO := Boxed.new w 30 (.slice none 0 0)
  have hB0 : Below w.heap.size w (w.alloc (.cells #[.slice none 0 0] 30)) := (Below.refl _ w).alloc (Nat.le_refl _) _
  refine wpIn_rangeFunc_ownG rfl (by decide) (gf := 62) (lb := #[.pointer (some ⟨Bs, 0, none⟩)]) rfl trivial (enters_of Try.func62 (by kernel_rfl) rfl)
    (values_stops 8 (by decide) Bs w.heap.size A len cap l _ (hB.on hB0) (hS.on hB0) hAl) belowK_t (belowK_b (by simp)) (Below.refl _ _) (fun _ => rfl)
    (fun pre W => (∃ v, Boxed W w.heap.size 30 v ∧ W.ownsRow w.heap.size 2 1 v pre.length (ints pre) ∧ True) ∧ Below w.heap.size w W)
    (fun _ _ _ => False)
    (OwnFrom.and (Own.from (holdsRow_own w.heap.size w.heap.size 30 2 1 (fun pre => pre.length) (fun pre => ints pre) (fun _ _ => True)) _) (ownFrom_below (Nat.le_refl _) (by simp)))
    (fun _ _ _ _ _ hs _ _ => hs)
    ⟨⟨_, bO, World.ownsRow_nil _ _ 2 1, trivial⟩, hB0⟩
    (fun x => { tmps := #[.slice none 0 0, .func (.func 62) #[] #[.pointer (some ⟨Bs, 0, none⟩)], .pointer (some ⟨w.heap.size, 0, none⟩), undef, .slice none 0 0, .int .i64 x, .func (.func 62) #[] #[.pointer (some ⟨Bs, 0, none⟩)], .int .i64 x, undef, undef, undef, undef, undef], defers := [] }) ?assign ?body ?done ?stop
  case assign =>
    intro l x W K hK
    unfold encI
    gi_wp2
    exact hK
  case body =>
    rintro l pre x W ⟨⟨v, hv, hrow, _⟩, hB⟩ hlt
    have hc := hv.cell
    gi_wp2_with (gi_at_builtin; refine wpListIn_append_own _ rfl _ _ 30 rfl w.heap.size 2 i0 (.int .i64 0) 1 8 Try.underlying30 hi hz0 hz1 hz2 rfl (by decide) _ _ _ rfl (hrow.alloc _) ⟨W.heap.size, 0, none⟩ 1 1 [.int .i64 x] rfl rfl (cell_one_new _ _ _) (by simp [Value.oneCell']) (by unfold maxLen; omega) (by omega) (by have := hB.size; simp; omega) ?_; intro v' w2 hown' hgrow _; obtain ⟨g', cap', rfl⟩ := ownsRow_succ hown'; obtain ⟨hv1, hv2, hr2, hk2, hb2⟩ := hv.appended (by decide) hrow hB.size (by omega) hown' hgrow; have hc1 := hv1.cell; have hf1 := hv1.frozen)
    exact ⟨hk2.from _, hb2, ⟨_, hv2, by rw [ints_snoc]; simpa using hr2, trivial⟩, hB.trans hb2⟩
  case done =>
    rintro D ys W hD rfl ⟨⟨v, hv, hrow, _⟩, hB⟩ hK
    have hc := hv.cell
    gi_wp2
    refine ⟨by simp, .inl ⟨_, _, rfl, run_takeDeferred hK, ?_⟩⟩
    exact ⟨_, results_tmp rfl _ _ _, v, rfl, ownsRow_putObj hrow _ hK rfl, hB.trans (belowK_b (w := w) (Nat.le_refl _) W D _ _ (by simp at hD; omega) hK rfl rfl)⟩
  case stop =>
    rintro D c pre W _ _ h _
    exact h.elim
set_option maxRecDepth 100000 in
theorem collect_any {w : World} {A : Option Addr} {len cap : Nat} {l : List Int} (hS : SeesI w A len cap l) (h1000 : len ≤ 1000) (Bs : Nat) (hB : Blk w Bs 30 #[.slice A len cap]) :
    Calls Try.prog 60 #[seqV Bs] w fun e w' => ∃ v, e = .returned v ∧ w'.ownsRow w.heap.size 2 1 v l.length (ints l) ∧ Below w.heap.size w w' := by
  have c := appendseq_any hS h1000 Bs hB
  generalize seqV Bs = F at *
  go_enter Try.func60, Try.ntmps60
  go_wp2_with (go_at_call 68; refine c.mono ?_; rintro e w' ⟨v, rfl, hrow, hb⟩)
  go_ret
  exact ⟨v, rfl, hrow, hb⟩
theorem sort_none (p : Option Addr) (cap : Nat) (w : World) : Calls Try.prog 61 #[.slice p 0 cap] w fun e w' => e = .returned (.tuple #[]) ∧ w' = w := AnyM.slices_Sort_int_none Try.sortP p cap w
theorem sort_some (blk off cap : Nat) (zs : List Int) (w : World) (hH : Holds (Value.int .i64) w blk off zs.toArray) (hblk : blk < w.heap.size) (hsz : zs.length < 4611686018427387904) :
    Calls Try.prog 61 #[.slice (some ⟨blk, off, none⟩) zs.length cap] w fun e w' => e = .returned (.tuple #[]) ∧ ∃ n os, w' = grow (putRow (Value.int .i64) (Sort.ahead w n) blk off (zs.mergeSort fun x y => decide (x ≤ y)).toArray) os := AnyM.slices_Sort_int Try.sortP blk off cap zs w hH hblk hsz
/-- The numbers, rising. -/
def risen (l : List Int) : List Int := l.mergeSort fun x y => decide (x ≤ y)
theorem risen_len (l : List Int) : (risen l).length = l.length := by unfold risen; simp
theorem risen_nil : risen [] = [] := by unfold risen; simp
theorem risen_mem (l : List Int) (x : Int) : x ∈ risen l ↔ x ∈ l := by unfold risen; simp
theorem risen_rises (l : List Int) : (risen l).Pairwise (· ≤ ·) := by
  have h := List.pairwise_mergeSort (le := fun x y : Int => decide (x ≤ y)) (fun a b c h1 h2 => by simp at *; omega) (fun a b => by simp; omega) l
  unfold risen
  exact h.imp (fun h => by simpa using h)
set_option maxRecDepth 100000 in
set_option maxHeartbeats 2000000 in
theorem sorted_any {w : World} {A : Option Addr} {len cap : Nat} {l : List Int} (hS : SeesI w A len cap l) (h1000 : len ≤ 1000) (Bs : Nat) (hB : Blk w Bs 30 #[.slice A len cap]) :
    Calls Try.prog 54 #[seqV Bs] w fun e w' => ∃ A' c', e = .returned (.slice A' len c') ∧ w'.ownsRow w.heap.size 2 1 (.slice A' len c') len (ints (risen l)) ∧ Below w.heap.size w w' := by
  have c := collect_any hS h1000 Bs hB
  have hll := hS.len
  rw [hll] at c
  generalize seqV Bs = F at *
  go_enter Try.func54, Try.ntmps54
  go_wp2_with (go_at_call 60; refine c.mono ?_; rintro e W ⟨v, rfl, hrow, hb⟩)
  rcases id hrow.2 with ⟨rfl, hz⟩ | ⟨gb, cp, cur, rfl, hbase, hgb, r1, r2, r3, r4⟩
  · have hl0 : l = [] := List.eq_nil_of_length_eq_zero (by omega)
    subst hl0
    subst hz
    have cs := sort_none none 0 W
    go_wp2_with (go_at_call 61; refine cs.mono ?_; rintro e w' ⟨rfl, rfl⟩)
    go_ret
    exact ⟨none, 0, rfl, by rw [risen_nil]; exact hrow, hb⟩
  · have hH : Holds (Value.int .i64) W gb 0 l.toArray := holds_of_blockI hgb (by rw [hll, ← ints_map]; simpa using r4)
    have hgl : gb < W.heap.size := (Array.getElem?_eq_some_iff.1 hgb).1
    have cs := sort_some gb 0 cp l W hH hgl (by omega)
    rw [hll] at cs
    go_wp2_with (go_at_call 61; refine cs.mono ?_; rintro e w' ⟨rfl, nn, os, rfl⟩)
    go_ret
    refine ⟨_, cp, rfl, ?_, hb.grown (grownBy_sortedI _) hb.size (fun j hj => by cases hj; exact hbase)⟩
    have e1 := ownsRow_sortedI (n := nn) (os := os) (e := 2) (base := w.heap.size) (ss := l) (ts := risen l) (risen_len l) hbase hgb (by omega) r2 r3
    rw [hll] at e1
    rw [ints_map]
    exact e1
set_option maxRecDepth 100000 in
theorem search_nil (x : Int) (w : World) : Calls Try.prog 56 #[.slice none 0 0, .int .i64 x] w fun e w' => e = .returned (.tuple #[.int .i64 0, .bool false]) ∧ w' = w := by
  go_enter Try.func56, Try.ntmps56
  go_wp2
  refine wp_loop_rounds 1 ?_
  rw [rounds_succ]
  go_wp2
  refine bodyPost_ret (v := .tuple #[.int .i64 0, .bool false]) (by simp [results, Try.f56, go_sem]) rfl ?_
  exact ⟨rfl, rfl⟩
theorem search_any {w : World} {B len cap : Nat} {A : Option Addr} {z : List Int} (h : w.ownsRow B 2 1 (.slice A len cap) len (ints z)) (h1000 : len ≤ 1000) (hs : z.Pairwise (· ≤ ·)) (x : Int) :
    Calls Try.prog 56 #[.slice A len cap, .int .i64 x] w fun e w' => ∃ k : Int, e = .returned (.tuple #[.int .i64 k, .bool (decide (x ∈ z))]) ∧ ∃ q, w' = w.drewN q := by
  have hl : z.length = len := by
    have := h.1
    unfold ints at this
    rw [flat_len int1_len] at this
    omega
  rcases id h.2 with ⟨e, h0⟩ | ⟨g, c, cur, e, hb, hh, h1, h2, h3, h4⟩
  · injection e with e1 e2 e3
    subst e1 e3 h0
    have hz : z = [] := List.eq_nil_of_length_eq_zero hl
    subst hz
    refine (search_nil x w).mono ?_
    rintro e w' ⟨rfl, rfl⟩
    exact ⟨0, by simp, 0, rfl⟩
  · injection e with e1 e2 e3
    subst e1 e3
    have hc : ∀ j, j < z.length → w.cell? ⟨g, 0 + j, none⟩ = some (.int .i64 (z.getD j 0)) := fun j hj => by
      have := h.cellAt j (by omega)
      rw [Nat.zero_add, this, ints_map]
      simp [List.getD, List.getElem?_eq_getElem hj]
    refine (AnyG.slices_BinarySearch_int Try.seekP g 0 len cap z x w (by omega) (by omega) hc (by rw [← hl, List.take_length]; exact hs)).mono ?_
    rintro e w' ⟨rfl, q, rfl⟩
    refine ⟨((z.take len).countP (· < x) : Nat), ?_, q, rfl⟩
    rw [← hl, List.take_length, List.contains_eq_mem]
end Go.Proofs.Ytllcgidachbnlaa
