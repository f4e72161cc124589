/- The contract of Get's deferred closure: what it does behind a panic with a fault, and behind none. Conditions: none. -/
import Derived.Test.YtcbekkbhhepeaaaDoorGetWalk
import Derived.Tactics
import Derived.Tactics2
import Derived.Defers
import Derived.Recover
import Derived.Laws.Pointers
namespace Go.Proofs.YtcbekkbhhepeaaaDoor
open Go.RowKit
set_option linter.unusedSimpArgs false

theorem assert_nil (w : World) : (Instr.typeAssert .nilIface 20 59 true).run Tryd.prog w = .ok (.tuple #[.agg #[.int .i64 0, .int .i64 0], .bool false]) w := by kernel_rfl
theorem assert_some (a b : Int) (w : World) : (Instr.typeAssert (.iface 59 (.agg #[.int .i64 a, .int .i64 b])) 20 59 true).run Tryd.prog w = .ok (.tuple #[.agg #[.int .i64 a, .int .i64 b], .bool true]) w := by kernel_rfl
set_option maxRecDepth 100000 in
theorem catch_idle (p q r : Addr) (w : World) :
    CallsD Tryd.prog 28 #[.pointer (some p), .pointer (some q), .pointer (some r)] .returning w fun e u' w' => e = .returned (.tuple #[]) ∧ u' = .returning ∧ Below w.heap.size w w' := by
  have ht := assert_nil
  refine callsD_of_wpS Tryd.func28 rfl fun c₀ cs hu => ?_
  change Code.wpS Tryd.prog _ _ { tmps := #[.pointer (some p), .pointer (some q), .pointer (some r), undef, undef, undef, undef, undef, undef, undef, undef, undef, undef, undef, undef, undef], defers := [] } (c₀ :: cs) w
  apply wpS_seq
  apply wpS_region
  simp [wpOpsS, go_sem, recoverD, hu, Exit.thenS, ht]
  refine wpS_of_wp ?_
  go_wp2
  refine ⟨rfl, .returning, by cases c₀; simp_all, .tuple #[], by simp [results, Tryd.results28], rfl, rfl, (Below.refl _ _).alloc (Nat.le_refl _) _⟩
theorem cells24 (P : Nat) (W : World) {cs : Array Value} (h : Blk W P 24 cs) (i : Nat) : W.frozen? ⟨P, i, none⟩ = false := h.free i
set_option maxRecDepth 100000 in
set_option maxHeartbeats 1000000 in
theorem catch_fault (P Q R : Nat) (a b : Int) (older : List PanicEntry) (w : World) (c0 c1 c2 c3 x y : Value) (hP : Blk w P 24 #[c0, c1, c2, c3]) (hQ : Blk w Q 3 #[x]) (hR : Blk w R 27 #[y]) (hPQ : P ≠ Q) (hPR : P ≠ R) (hQR : Q ≠ R) :
    CallsD Tryd.prog 28 #[.pointer (some ⟨P, 0, none⟩), .pointer (some ⟨Q, 0, none⟩), .pointer (some ⟨R, 0, none⟩)] (.panicking ({ v := .iface 59 (.agg #[.int .i64 a, .int .i64 b]), recovered := false } :: older)) w fun e u' w' =>
      e = .returned (.tuple #[]) ∧ u' = .panicking ({ v := .iface 59 (.agg #[.int .i64 a, .int .i64 b]), recovered := true } :: older) ∧
        Blk w' P 24 (prg 0 0 0 none 0 0) ∧ Blk w' Q 3 #[.int .i64 a] ∧ Blk w' R 27 #[.int .i64 b] ∧ ∀ B, B ≤ P → B ≤ Q → B ≤ R → Below B w w' := by
  have ht := assert_some a b
  refine callsD_of_wpS Tryd.func28 rfl fun c₀ cs hu => ?_
  change Code.wpS Tryd.prog _ _ { tmps := #[.pointer (some ⟨P, 0, none⟩), .pointer (some ⟨Q, 0, none⟩), .pointer (some ⟨R, 0, none⟩), undef, undef, undef, undef, undef, undef, undef, undef, undef, undef, undef, undef, undef], defers := [] } (c₀ :: cs) w
  apply wpS_seq
  apply wpS_region
  simp [wpOpsS, go_sem, recoverD, hu, Exit.thenS, ht]
  obtain ⟨W0, eW0⟩ : ∃ W, W = w.alloc (.cells #[.int .i64 a, .int .i64 b] 59) := ⟨_, rfl⟩
  have b0 : Below w.heap.size w W0 := by rw [eW0]; exact (Below.refl _ w).alloc (Nat.le_refl _) _
  have hT : Blk W0 w.heap.size 59 #[.int .i64 a, .int .i64 b] := by rw [eW0]; exact heap_alloc_new w _
  have ltP := hP.lt
  have ltQ := hQ.lt
  have ltR := hR.lt
  replace hP := hP.below b0 ltP
  replace hQ := hQ.below b0 ltQ
  replace hR := hR.below b0 ltR
  have z0 : W0.cell? ⟨w.heap.size, 0, none⟩ = some (.int .i64 a) := hT.cell 0
  have z1 : W0.cell? ⟨w.heap.size, 1, none⟩ = some (.int .i64 b) := hT.cell 1
  refine wpS_of_wp ?_
  rw [← eW0]
  clear eW0
  go_wp2_with fail
  refine wp_region_noPanic ?_
  refine wp_region_held_drew (S := fun W => W.cell? ⟨w.heap.size, 0, none⟩ = some (.int .i64 a) ∧ W.cell? ⟨w.heap.size, 1, none⟩ = some (.int .i64 b)) (by kernel_rfl) ⟨z0, z1⟩ (fun hHeld => ?_)
  refine wpAnyH_take (i := 0) (oi := ⟨some 11, _, _, _, _, _⟩) (v := ?_) rfl (by kernel_rfl) (by kernel_rfl) (by kernel_rfl) (fun _ _ _ h => h) (Or.inl ⟨by rfl, ?_⟩) (by assumption) ?_
  rotate_left 1
  · (intro W hSw; go_simp <;> with_reducible rfl)
  try simp only [Act.put, List.setIfInBounds_toArray, List.set_cons_zero, List.set_cons_succ]
  refine wpAnyH_take (i := 1) (oi := ⟨some 12, _, _, _, _, _⟩) (v := ?_) rfl (by kernel_rfl) (by kernel_rfl) (by kernel_rfl) (fun _ _ _ h => h) (Or.inl ⟨by rfl, ?_⟩) (by assumption) ?_
  rotate_left 1
  · (intro W hSw; go_simp <;> with_reducible rfl)
  try simp only [Act.put, List.setIfInBounds_toArray, List.set_cons_zero, List.set_cons_succ]
  refine wpAnyH_take (i := 2) (oi := ⟨some 13, _, _, _, _, _⟩) (v := ?_) rfl (by kernel_rfl) (by kernel_rfl) (by kernel_rfl) (fun _ _ _ h => h) (Or.inl ⟨by rfl, ?_⟩) (by assumption) ?_
  rotate_left 1
  · (intro W hSw; go_simp <;> with_reducible rfl)
  try simp only [Act.put, List.setIfInBounds_toArray, List.set_cons_zero, List.set_cons_succ]
  refine wpAnyH_take (i := 3) (oi := ⟨some 14, _, _, _, _, _⟩) (v := ?_) rfl (by kernel_rfl) (by kernel_rfl) (by kernel_rfl) (fun _ _ _ h => h) (Or.inl ⟨by rfl, ?_⟩) (by assumption) ?_
  rotate_left 1
  · (intro W hSw; go_simp <;> with_reducible rfl)
  try simp only [Act.put, List.setIfInBounds_toArray, List.set_cons_zero, List.set_cons_succ]
  refine wpAnyH_take (i := 4) (oi := ⟨some 15, _, _, _, _, _⟩) (v := ?_) rfl (by kernel_rfl) (by kernel_rfl) (by kernel_rfl) (fun _ _ _ h => h) (Or.inl ⟨by rfl, ?_⟩) (by assumption) ?_
  rotate_left 1
  · (intro W hSw; go_simp <;> with_reducible rfl)
  try simp only [Act.put, List.setIfInBounds_toArray, List.set_cons_zero, List.set_cons_succ]
  have P1 : Blk W0.drew P 24 #[c0, c1, c2, c3] := hP
  have Q1 : Blk W0.drew Q 3 #[x] := hQ
  have R1 : Blk W0.drew R 27 #[y] := hR
  have T1 : Blk W0.drew w.heap.size 59 #[.int .i64 a, .int .i64 b] := hT
  have b1 : Below w.heap.size w W0.drew := b0.drew
  generalize W0.drew = v0 at *
  have P2 : Blk (v0.setRow P (prg 0 0 0 none 0 0)) P 24 (prg 0 0 0 none 0 0) := setRow_heap _ _ _ _ _ _ P1
  have Q2 : Blk (v0.setRow P (prg 0 0 0 none 0 0)) Q 3 #[x] := (setRow_other v0 P Q _ (Ne.symm hPQ)).trans Q1
  have R2 : Blk (v0.setRow P (prg 0 0 0 none 0 0)) R 27 #[y] := (setRow_other v0 P R _ (Ne.symm hPR)).trans R1
  have T2 : Blk (v0.setRow P (prg 0 0 0 none 0 0)) w.heap.size 59 #[.int .i64 a, .int .i64 b] := (setRow_other v0 P w.heap.size _ (by omega)).trans T1
  have b2 : ∀ B, B ≤ P → B ≤ Q → B ≤ R → Below B w (v0.setRow P (prg 0 0 0 none 0 0)) := fun B h1 h2 h3 => below_setRow (b1.mono (by omega)) h1 _
  refine wpAnyH_ready (rs := [5]) (by kernel_rfl) (by simp) ?_
  refine AllReadyH.cons rfl (fun K hK => ?_) AllReadyH.nil
  rw [if_pos (by rfl)]
  refine wp_store_row 24 (.tmp 0) (.tmp 11) rfl P (prg 0 0 0 none 0 0) rfl rfl 24 #[c0, c1, c2, c3] P1 info24 rfl (prg_one 0 0 0 none 0 0) ?_
  refine hK.out _ _ ⟨T2.cell 0, T2.cell 1⟩ (fun hHeld => ?_)
  clear hK K P1 Q1 R1 T1 b1 z0 z1 hP hQ hR hT b0
  generalize v0.setRow P (prg 0 0 0 none 0 0) = v1 at *
  try simp only [Act.put, List.setIfInBounds_toArray, List.set_cons_zero, List.set_cons_succ]
  have q0 : v1.cell? ⟨Q, 0, none⟩ = some x := Q2.cell 0
  have qf := Q2.free 0
  have P3 : Blk (v1.setCell ⟨Q, 0, none⟩ (.int .i64 a)) P 24 (prg 0 0 0 none 0 0) := (heap_set v1 Q 0 P _ hPQ).trans P2
  have Q3 : Blk (v1.setCell ⟨Q, 0, none⟩ (.int .i64 a)) Q 3 #[.int .i64 a] := Q2.set_ 0 _
  have R3 : Blk (v1.setCell ⟨Q, 0, none⟩ (.int .i64 a)) R 27 #[y] := (heap_set v1 Q 0 R _ (Ne.symm hQR)).trans R2
  have T3 : Blk (v1.setCell ⟨Q, 0, none⟩ (.int .i64 a)) w.heap.size 59 #[.int .i64 a, .int .i64 b] := (heap_set v1 Q 0 w.heap.size _ (by omega)).trans T2
  have b3 : ∀ B, B ≤ P → B ≤ Q → B ≤ R → Below B w (v1.setCell ⟨Q, 0, none⟩ (.int .i64 a)) := fun B h1 h2 h3 => (b2 B h1 h2 h3).setCell h2 _
  refine wpAnyH_ready (rs := [6]) (by kernel_rfl) (by simp) ?_
  refine AllReadyH.cons rfl (fun K hK => ?_) AllReadyH.nil
  go_simp
  refine hK.out _ _ ⟨T3.cell 0, T3.cell 1⟩ (fun hHeld => ?_)
  clear hK K P2 Q2 R2 T2 b2 q0 qf
  generalize v1.setCell ⟨Q, 0, none⟩ (.int .i64 a) = v2 at *
  try simp only [Act.put, List.setIfInBounds_toArray, List.set_cons_zero, List.set_cons_succ]
  have r0 : v2.cell? ⟨R, 0, none⟩ = some y := R3.cell 0
  have rf := R3.free 0
  have P4 : Blk (v2.setCell ⟨R, 0, none⟩ (.int .i64 b)) P 24 (prg 0 0 0 none 0 0) := (heap_set v2 R 0 P _ hPR).trans P3
  have Q4 : Blk (v2.setCell ⟨R, 0, none⟩ (.int .i64 b)) Q 3 #[.int .i64 a] := (heap_set v2 R 0 Q _ hQR).trans Q3
  have R4 : Blk (v2.setCell ⟨R, 0, none⟩ (.int .i64 b)) R 27 #[.int .i64 b] := R3.set_ 0 _
  have T4 : Blk (v2.setCell ⟨R, 0, none⟩ (.int .i64 b)) w.heap.size 59 #[.int .i64 a, .int .i64 b] := (heap_set v2 R 0 w.heap.size _ (by omega)).trans T3
  have b4 : ∀ B, B ≤ P → B ≤ Q → B ≤ R → Below B w (v2.setCell ⟨R, 0, none⟩ (.int .i64 b)) := fun B h1 h2 h3 => (b3 B h1 h2 h3).setCell h3 _
  refine wpAnyH_ready (rs := [7]) (by kernel_rfl) (by simp) ?_
  refine AllReadyH.cons rfl (fun K hK => ?_) AllReadyH.nil
  go_simp
  refine hK.out _ _ ⟨T4.cell 0, T4.cell 1⟩ (fun hHeld => ?_)
  clear hK K P3 Q3 R3 T3 b3 r0 rf
  try simp only [Act.put, List.setIfInBounds_toArray, List.set_cons_zero, List.set_cons_succ]
  refine wpAnyH_done (by kernel_rfl) ?_ _
  refine NoPanic.normal ?_
  refine ⟨rfl, .panicking ({ v := .iface 59 (.agg #[.int .i64 a, .int .i64 b]), recovered := true } :: older), by cases c₀; simp_all, .tuple #[], by simp [results, Tryd.results28], rfl, rfl, P4, Q4, R4, b4⟩
end Go.Proofs.YtcbekkbhhepeaaaDoor
