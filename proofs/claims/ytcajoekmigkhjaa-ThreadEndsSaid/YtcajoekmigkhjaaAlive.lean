/- A thread of empty lists started, and behind an instruction; the statements' small trial comes out true. Conditions: none. -/
import Derived.Test.YtcajoekmigkhjaaLocB
namespace Go.Proofs.Ytcajoekmigkhjaa
open Go.RowKit Go.ChangeShapes Go.WideShapes Go.Great

theorem seesI_nil (w : World) : SeesI w none 0 0 [] := ⟨rfl, Nat.le_refl _, Nat.zero_le _, fun _ => rfl, fun ad e => (by cases e)⟩
theorem begT_reads (w : World) (f : Int) : Reads w (begT f) [] [] [] := ⟨seesI_nil w, seesB_nil w, seesI_nil w⟩
theorem nil_n {w : World} {x : Th} (h : Reads w x [] [] []) : x.se.n = 0 ∧ x.bg.n = 0 ∧ x.sn.n = 0 := by
  have h1 := h.se.len
  have h2 := h.bg.len
  have h3 := h.sn.len
  simp only [List.length_nil] at h1 h2 h3
  exact ⟨h1.symm, h2.symm, h3.symm⟩
theorem start_nil {w : World} {x : Th} (h : Reads w x [] [] []) : Calls Try.prog 14 #[.agg x.cs.toArray] w fun e w' => ∃ y : Th, e = .returned (.agg y.cs.toArray) ∧ (∃ a b c, y = (stT x).put a b c) ∧ Reads w' y [] [] [] ∧ Below w.heap.size w w' := by
  obtain ⟨n1, n2, n3⟩ := nil_n h
  refine (start_any h (by omega) (by omega) (by omega)).mono ?_
  rintro e w' ⟨A1, c1, A2, c2, A3, c3, rfl, ho, hb⟩
  exact ⟨_, rfl, ⟨_, _, _, rfl⟩, ⟨ho.reads.se, ho.reads.bg, ho.reads.sn⟩, hb⟩
theorem local_nil {w : World} {x : Th} (i : Ins) (h : Reads w x [] [] []) : Calls Try.prog 23 #[.agg x.cs.toArray, .agg i.cs.toArray] w fun e w' => ∃ y : Th, e = .returned (.tuple #[.agg y.cs.toArray, .bool (locB i)]) ∧ (∃ a b c, y = (locT x i).put a b c) ∧ Reads w' y [] [] [] ∧ Below w.heap.size w w' := by
  obtain ⟨n1, n2, n3⟩ := nil_n h
  refine (local_any i h (by omega) (by omega) (by omega)).mono ?_
  rintro e w' ⟨A1, c1, A2, c2, A3, c3, rfl, ho, hb⟩
  exact ⟨_, rfl, ⟨_, _, _, rfl⟩, ho.reads, hb⟩
def trT (a1 a2 a3 a4 a5 a6 a7 a8 a9 a10 a11 a12 : Sl) : Th := (locT ((stT ((locT ((stT (begT 3)).put a1 a2 a3) ⟨2, 0, 0, 0, 5⟩).put a4 a5 a6)).put a7 a8 a9) ⟨3, 1, 0, 0, 0⟩).put a10 a11 a12
section
variable (a1 a2 a3 a4 a5 a6 a7 a8 a9 a10 a11 a12 : Sl)
theorem tr_fu : (trT a1 a2 a3 a4 a5 a6 a7 a8 a9 a10 a11 a12).fu = 1 := by kernel_rfl
theorem tr_pc : (trT a1 a2 a3 a4 a5 a6 a7 a8 a9 a10 a11 a12).pc = 2 := by kernel_rfl
theorem tr_rg : (regI (trT a1 a2 a3 a4 a5 a6 a7 a8 a9 a10 a11 a12) 1).n = 5 := by kernel_rfl
theorem tr_dn : doneB (trT a1 a2 a3 a4 a5 a6 a7 a8 a9 a10 a11 a12) 0 = true := by kernel_rfl
end
theorem reads_row {w W : World} {x : Th} {g : Nat} {t : TypeId} {cs cs' : Array Value} (h : Reads w x [] [] []) (_hb : Blk w g t cs) (_e : w.setRow g cs' = W) : Reads W x [] [] [] := by
  obtain ⟨n1, n2, n3⟩ := nil_n h
  exact ⟨⟨Sees.len h.se, Sees.room h.se, Sees.most h.se, Sees.none_ h.se, fun _ _ h0 => by omega⟩, ⟨Sees.len h.bg, Sees.room h.bg, Sees.most h.bg, Sees.none_ h.bg, fun _ _ h0 => by omega⟩, ⟨Sees.len h.sn, Sees.room h.sn, Sees.most h.sn, Sees.none_ h.sn, fun _ _ h0 => by omega⟩⟩
set_option maxRecDepth 100000 in
set_option maxHeartbeats 4000000 in
theorem alive_any (w : World) : Calls Try.prog 8 #[] w fun e w' => e = .returned (.bool true) ∧ Below w.heap.size w w' := by
  have d1 : Calls Try.prog 12 #[.agg (Cf.mk 0 0 0 3 0).cs.toArray] w fun e w' => e = .returned (.agg (begT 3).cs.toArray) ∧ Below w.heap.size w w' := begin_any (Cf.mk 0 0 0 3 0) w
  go_enter Try.func8, Try.ntmps8
  go_wp2_with fail
  refine (d1).mono ?_
  rintro e W1 ⟨rfl, k1⟩
  have kk : Below w.heap.size w W1 := k1
  clear k1
  clear d1
  obtain ⟨p1, f1⟩ : ∃ p, W1.heap.size = p := ⟨_, rfl⟩
  obtain ⟨W2, ea2⟩ : ∃ W, W1.alloc (.cells #[.int .i64 0, .int .i64 0, .int .i64 0, .int .i64 0, .int .i64 0, .int .i64 0, .int .i64 0, .int .i64 0, .int .i64 0, .int .i64 0, .int .i64 0, .int .i64 0, .int .i64 0, .int .i64 0, .int .i64 0, .int .i64 0, .int .i64 0, .int .i64 0, .slice none 0 0, .slice none 0 0, .slice none 0 0, .int .i64 0] 32) = W := ⟨_, rfl⟩
  have ka2 : Below W1.heap.size W1 W2 := by rw [← ea2]; exact (Below.refl _ W1).alloc (Nat.le_refl _) _
  have b1 : Blk W2 p1 32 #[.int .i64 0, .int .i64 0, .int .i64 0, .int .i64 0, .int .i64 0, .int .i64 0, .int .i64 0, .int .i64 0, .int .i64 0, .int .i64 0, .int .i64 0, .int .i64 0, .int .i64 0, .int .i64 0, .int .i64 0, .int .i64 0, .int .i64 0, .int .i64 0, .slice none 0 0, .slice none 0 0, .slice none 0 0, .int .i64 0] := by rw [← ea2]; exact blk_new W1 _ 32 _ f1
  have kk0 := kk
  replace kk := kk.trans (ka2.mono kk.size)
  have hp1 : w.heap.size ≤ p1 := by rw [← f1]; exact kk0.size
  clear ka2 kk0
  obtain ⟨W3, es3⟩ : ∃ W, W2.setRow p1 (begT 3).cs.toArray = W := ⟨_, rfl⟩
  have bo1 := b1
  replace b1 : Blk W3 p1 32 (begT 3).cs.toArray := row_named b1 es3
  replace kk := kk.trans (row_below es3 hp1 kk.size)
  have bo1_ := bo1
  clear bo1
  have d2 := start_nil (begT_reads W3 3)
  go_wp2_with (first | ((with_reducible refine at_store 32 (.tmp 1) (.tmp 5) ?_); refine wpList_store_row rfl 32 (.tmp 1) (.tmp 5) rfl p1 (begT 3).cs.toArray rfl rfl 32 #[.int .i64 0, .int .i64 0, .int .i64 0, .int .i64 0, .int .i64 0, .int .i64 0, .int .i64 0, .int .i64 0, .int .i64 0, .int .i64 0, .int .i64 0, .int .i64 0, .int .i64 0, .int .i64 0, .int .i64 0, .int .i64 0, .int .i64 0, .int .i64 0, .slice none 0 0, .slice none 0 0, .slice none 0 0, .int .i64 0] bo1_ (sizeT _) rfl (Th.onea _) ?_; rw [es3]) | ((with_reducible refine at_load 32 (.tmp 1) ?_); refine wpList_load_row rfl 32 (.tmp 1) rfl p1 rfl 32 (begT 3).cs.toArray (0, 0) _ b1 Try.underlying32 rfl (sizeT _) ?_))
  refine (d2).mono ?_
  rintro e W4 ⟨y1, rfl, hy1, ry1, k2⟩
  replace b1 := b1.on k2
  replace kk := kk.trans (k2.mono kk.size)
  clear k2
  clear d2
  have d2 := local_nil ⟨2, 0, 0, 0, 5⟩ ry1
  go_wp2_with fail
  refine (d2).mono ?_
  rintro e W5 ⟨y2, rfl, hy2, ry2, k2⟩
  replace b1 := b1.on k2
  replace kk := kk.trans (k2.mono kk.size)
  clear k2
  clear d2 ry1
  obtain ⟨W6, es6⟩ : ∃ W, W5.setRow p1 y2.cs.toArray = W := ⟨_, rfl⟩
  have bo1 := b1
  replace b1 : Blk W6 p1 32 y2.cs.toArray := row_named b1 es6
  replace kk := kk.trans (row_below es6 hp1 kk.size)
  have bo2_ := bo1
  clear bo1
  replace ry2 : Reads W6 y2 [] [] [] := reads_row ry2 bo2_ es6
  have d3 := start_nil ry2
  go_wp2_with (first | ((with_reducible refine at_store 32 (.tmp 1) (.tmp 11) ?_); refine wpList_store_row rfl 32 (.tmp 1) (.tmp 11) rfl p1 y2.cs.toArray rfl rfl 32 (begT 3).cs.toArray bo2_ (sizeT _) rfl (Th.onea _) ?_; rw [es6]) | ((with_reducible refine at_load 32 (.tmp 1) ?_); refine wpList_load_row rfl 32 (.tmp 1) rfl p1 rfl 32 y2.cs.toArray (0, 0) _ b1 Try.underlying32 rfl (sizeT _) ?_))
  refine (d3).mono ?_
  rintro e W7 ⟨y3, rfl, hy3, ry3, k3⟩
  replace b1 := b1.on k3
  replace kk := kk.trans (k3.mono kk.size)
  clear k3
  clear d3
  have d3 := local_nil ⟨3, 1, 0, 0, 0⟩ ry3
  go_wp2_with fail
  refine (d3).mono ?_
  rintro e W8 ⟨y4, rfl, hy4, ry4, k3⟩
  replace b1 := b1.on k3
  replace kk := kk.trans (k3.mono kk.size)
  clear k3
  clear d3 ry3
  obtain ⟨W9, es9⟩ : ∃ W, W8.setRow p1 y4.cs.toArray = W := ⟨_, rfl⟩
  have bo1 := b1
  replace b1 : Blk W9 p1 32 y4.cs.toArray := row_named b1 es9
  replace kk := kk.trans (row_below es9 hp1 kk.size)
  have bo3_ := bo1
  clear bo1
  replace ry4 : Reads W9 y4 [] [] [] := reads_row ry4 bo3_ es9
  obtain ⟨a1, a2, a3, e1⟩ := hy1
  obtain ⟨a4, a5, a6, e2⟩ := hy2
  obtain ⟨a7, a8, a9, e3⟩ := hy3
  obtain ⟨a10, a11, a12, e4⟩ := hy4
  rw [e1] at e2
  rw [e2] at e3
  rw [e3] at e4
  have hfu : y4.fu = 1 := by rw [e4]; exact tr_fu _ _ _ _ _ _ _ _ _ _ _ _
  have hpc : y4.pc = 2 := by rw [e4]; exact tr_pc _ _ _ _ _ _ _ _ _ _ _ _
  have hrg : (regI y4 1).n = 5 := by rw [e4]; exact tr_rg _ _ _ _ _ _ _ _ _ _ _ _
  have hdn : doneB y4 0 = true := by rw [e4]; exact tr_dn _ _ _ _ _ _ _ _ _ _ _ _
  clear e1 e2 e3 e4
  have fl : ∀ W, (Instr.field 25 (.agg (regI y4 1).cs.toArray) 0).run Try.prog W = .ok (.int .i64 5) W := fun W => by rw [field25, hrg]
  have dn : ∀ W, Calls Try.prog 18 #[.agg y4.cs.toArray, .slice none 0 0] W fun e w' => e = .returned (.bool true) ∧ Below W.heap.size W w' := fun W => by have := done_any y4 none 0 0 (by omega) W; rw [hdn] at this; exact this
  have cf : ∀ W, Blk W p1 32 y4.cs.toArray → W.cell? ⟨p1, 1, none⟩ = some (.int .i64 1) := fun W hb => by rw [← hfu]; exact hb.cell 1
  have cp : ∀ W, Blk W p1 32 y4.cs.toArray → W.cell? ⟨p1, 0, none⟩ = some (.int .i64 2) := fun W hb => by rw [← hpc]; exact hb.cell 0
  clear hfu hpc hrg hdn
  go_wp2_with (first | ((with_reducible refine at_store 32 (.tmp 1) (.tmp 18) ?_); refine wpList_store_row rfl 32 (.tmp 1) (.tmp 18) rfl p1 y4.cs.toArray rfl rfl 32 y2.cs.toArray bo3_ (sizeT _) rfl (Th.onea _) ?_; rw [es9]) | ((with_reducible refine at_load 32 (.tmp 1) ?_); refine wpList_mid (by rfl) 32 (.tmp 1) rfl p1 0 rfl y4.cs _ (range_blk b1) Try.underlying32 rfl (sizeT _) ?_))
  refine (get_any y4 1 _).mono ?_
  rintro e W10 ⟨rfl, k5⟩
  replace b1 := b1.on k5
  replace kk := kk.trans (k5.mono kk.size)
  clear k5
  have g1 := cf W10 b1
  have g0 := cp W10 b1
  go_wp2_with (((with_reducible refine at_load 32 (.tmp 1) ?_); refine wpList_mid (by rfl) 32 (.tmp 1) rfl p1 0 rfl y4.cs _ (range_blk b1) Try.underlying32 rfl (sizeT _) ?_))
  refine (dn _).mono ?_
  rintro e W11 ⟨rfl, k6⟩
  replace b1 := b1.on k6
  replace kk := kk.trans (k6.mono kk.size)
  clear k6
  go_wp2_with fail
  go_ret
  exact ⟨rfl, kk⟩
end Go.Proofs.Ytcajoekmigkhjaa
