/- Which places of a kind a program has. Conditions: none. -/
import Derived.Test.YtlajjadpcaobiaaSmall
namespace Go.Proofs.Ytlajjadpcaobiaa
open Go.RowKit Go.ChangeShapes Go.WideShapes

/-- The first one's number, how many, of how many parts. -/
structure Sp where
  f : Int
  m : Int
  p : Int
def Sp.cs (s : Sp) : List Value := [.int .i64 s.f, .int .i64 s.m, .int .i64 s.p]
def spanP (k : Int) (p : Pg) : Sp :=
  if k = 1 then ⟨0, cl p.r 4, 1⟩
  else if k = 2 then ⟨1, cl p.c 6, 1⟩
  else if k = 3 then ⟨1, cl p.c 6, 2⟩
  else if k = 4 then ⟨0, 1, 1⟩
  else if k = 5 then ⟨0, cl p.n 4, cl p.s 2⟩
  else if k = 6 then ⟨0, 1, 1⟩
  else if k = 7 then ⟨0, cl p.n 4, 1⟩
  else if k = 8 then ⟨0, cl p.n 4, 1⟩
  else ⟨0, 0, 0⟩
theorem spanP_else (k : Int) (p : Pg) (h : ¬ (1 ≤ k ∧ k ≤ 8)) : spanP k p = ⟨0, 0, 0⟩ := by
  unfold spanP
  rw [if_neg (by omega), if_neg (by omega), if_neg (by omega), if_neg (by omega), if_neg (by omega), if_neg (by omega), if_neg (by omega), if_neg (by omega)]
theorem spanP_of (k : Int) (p : Pg) : 0 ≤ (spanP k p).f ∧ (spanP k p).f ≤ 1 ∧ 0 ≤ (spanP k p).m ∧ (spanP k p).m ≤ 6 ∧ 0 ≤ (spanP k p).p ∧ (spanP k p).p ≤ 2 := by
  have h1 := cl_of p.r 4 (by omega)
  have h2 := cl_of p.c 6 (by omega)
  have h3 := cl_of p.n 4 (by omega)
  have h4 := cl_of p.s 2 (by omega)
  by_cases h : 1 ≤ k ∧ k ≤ 8
  · have hk : k = 1 ∨ k = 2 ∨ k = 3 ∨ k = 4 ∨ k = 5 ∨ k = 6 ∨ k = 7 ∨ k = 8 := by omega
    rcases hk with rfl | rfl | rfl | rfl | rfl | rfl | rfl | rfl <;> simp [spanP] <;> omega
  · rw [spanP_else k p h]
    simp
theorem len_i64 {n cap : Nat} (h : n ≤ cap) (hm : cap ≤ maxLen) : (n : Int) ≤ 9223372036854775807 := by
  unfold maxLen at hm
  omega
set_option maxRecDepth 100000 in
set_option maxHeartbeats 2000000 in
theorem span_1 (p : Pg) (hp : p.Ok) (w : World) : Calls Try.prog 41 #[.int .i64 1, .agg p.cs.toArray] w fun e w' => e = .returned (.agg (Sp.cs ⟨0, cl p.r 4, 1⟩).toArray) ∧ Below w.heap.size w w' := by
  obtain ⟨r, c, s, A, n, cap⟩ := p
  have hm := len_i64 hp.room hp.most
  simp only at hm
  obtain ⟨W0, eW0⟩ : ∃ W, W = (w.alloc (.cells #[.int .i64 r, .int .i64 c, .int .i64 s, .slice A n cap] 24)).alloc (.cells #[.int .i64 0, .int .i64 0, .int .i64 0] 86) := ⟨_, rfl⟩
  have hb0 : Below w.heap.size w W0 := by rw [eW0]; exact ((Below.refl _ w).alloc (Nat.le_refl _) _).alloc (by simp) _
  have hx : Blk W0 w.heap.size 24 #[.int .i64 r, .int .i64 c, .int .i64 s, .slice A n cap] := by rw [eW0]; exact Blk.below (heap_alloc_new w _) ((Below.refl _ _).alloc (Nat.le_refl _) _) (by simp)
  have hy : Blk W0 (w.heap.size + 1) 86 #[.int .i64 0, .int .i64 0, .int .i64 0] := by rw [eW0]; exact blk_new _ _ 86 _ (by simp)
  have c0 : W0.cell? ⟨w.heap.size, 0, none⟩ = some (.int .i64 r) := hx.cell 0
  have c1 : W0.cell? ⟨w.heap.size, 1, none⟩ = some (.int .i64 c) := hx.cell 1
  have c2 : W0.cell? ⟨w.heap.size, 2, none⟩ = some (.int .i64 s) := hx.cell 2
  have c3 : W0.cell? ⟨w.heap.size, 3, none⟩ = some (.slice A n cap) := hx.cell 3
  clear hx
  show Calls Try.prog 41 #[.int .i64 1, .agg #[.int .i64 r, .int .i64 c, .int .i64 s, .slice A n cap]] w _
  go_enter Try.func41, Try.ntmps41
  go_wp2_with fail
  rw [← eW0]
  clear eW0
  go_wp2_with fail
  refine (clamp_any c 6 _).mono ?_
  rintro e w' ⟨rfl, rfl⟩
  go_wp2_with fail
  refine (clamp_any (n : Int) 4 _).mono ?_
  rintro e w' ⟨rfl, rfl⟩
  go_wp2_with fail
  refine (clamp_any r 4 _).mono ?_
  rintro e w' ⟨rfl, rfl⟩
  go_wp2_with (refine wpList_store_row rfl 86 (.tmp 4) _ rfl (w.heap.size + 1) #[.int .i64 0, .int .i64 (cl r 4), .int .i64 1] rfl rfl 86 #[.int .i64 0, .int .i64 0, .int .i64 0] hy size86 rfl (by simp [Value.oneCell']) ?_)
  refine bodyPost_ret (results_cell_row (cs := #[.int .i64 0, .int .i64 (cl r 4), .int .i64 1]) rfl _ _ (w.heap.size + 1) 86 (0, 0) _ rfl (setRow_heap _ _ _ _ _ _ hy) Try.underlying86 rfl size86) rfl ?_
  exact ⟨rfl, below_setRow hb0 (by omega) _⟩
set_option maxRecDepth 100000 in
set_option maxHeartbeats 2000000 in
theorem span_2 (p : Pg) (hp : p.Ok) (w : World) : Calls Try.prog 41 #[.int .i64 2, .agg p.cs.toArray] w fun e w' => e = .returned (.agg (Sp.cs ⟨1, cl p.c 6, 1⟩).toArray) ∧ Below w.heap.size w w' := by
  obtain ⟨r, c, s, A, n, cap⟩ := p
  have hm := len_i64 hp.room hp.most
  simp only at hm
  obtain ⟨W0, eW0⟩ : ∃ W, W = (w.alloc (.cells #[.int .i64 r, .int .i64 c, .int .i64 s, .slice A n cap] 24)).alloc (.cells #[.int .i64 0, .int .i64 0, .int .i64 0] 86) := ⟨_, rfl⟩
  have hb0 : Below w.heap.size w W0 := by rw [eW0]; exact ((Below.refl _ w).alloc (Nat.le_refl _) _).alloc (by simp) _
  have hx : Blk W0 w.heap.size 24 #[.int .i64 r, .int .i64 c, .int .i64 s, .slice A n cap] := by rw [eW0]; exact Blk.below (heap_alloc_new w _) ((Below.refl _ _).alloc (Nat.le_refl _) _) (by simp)
  have hy : Blk W0 (w.heap.size + 1) 86 #[.int .i64 0, .int .i64 0, .int .i64 0] := by rw [eW0]; exact blk_new _ _ 86 _ (by simp)
  have c0 : W0.cell? ⟨w.heap.size, 0, none⟩ = some (.int .i64 r) := hx.cell 0
  have c1 : W0.cell? ⟨w.heap.size, 1, none⟩ = some (.int .i64 c) := hx.cell 1
  have c2 : W0.cell? ⟨w.heap.size, 2, none⟩ = some (.int .i64 s) := hx.cell 2
  have c3 : W0.cell? ⟨w.heap.size, 3, none⟩ = some (.slice A n cap) := hx.cell 3
  clear hx
  show Calls Try.prog 41 #[.int .i64 2, .agg #[.int .i64 r, .int .i64 c, .int .i64 s, .slice A n cap]] w _
  go_enter Try.func41, Try.ntmps41
  go_wp2_with fail
  rw [← eW0]
  clear eW0
  go_wp2_with fail
  refine (clamp_any c 6 _).mono ?_
  rintro e w' ⟨rfl, rfl⟩
  go_wp2_with fail
  refine (clamp_any (n : Int) 4 _).mono ?_
  rintro e w' ⟨rfl, rfl⟩
  go_wp2_with (refine wpList_store_row rfl 86 (.tmp 4) _ rfl (w.heap.size + 1) #[.int .i64 1, .int .i64 (cl c 6), .int .i64 1] rfl rfl 86 #[.int .i64 0, .int .i64 0, .int .i64 0] hy size86 rfl (by simp [Value.oneCell']) ?_)
  refine bodyPost_ret (results_cell_row (cs := #[.int .i64 1, .int .i64 (cl c 6), .int .i64 1]) rfl _ _ (w.heap.size + 1) 86 (0, 0) _ rfl (setRow_heap _ _ _ _ _ _ hy) Try.underlying86 rfl size86) rfl ?_
  exact ⟨rfl, below_setRow hb0 (by omega) _⟩
set_option maxRecDepth 100000 in
set_option maxHeartbeats 2000000 in
theorem span_3 (p : Pg) (hp : p.Ok) (w : World) : Calls Try.prog 41 #[.int .i64 3, .agg p.cs.toArray] w fun e w' => e = .returned (.agg (Sp.cs ⟨1, cl p.c 6, 2⟩).toArray) ∧ Below w.heap.size w w' := by
  obtain ⟨r, c, s, A, n, cap⟩ := p
  have hm := len_i64 hp.room hp.most
  simp only at hm
  obtain ⟨W0, eW0⟩ : ∃ W, W = (w.alloc (.cells #[.int .i64 r, .int .i64 c, .int .i64 s, .slice A n cap] 24)).alloc (.cells #[.int .i64 0, .int .i64 0, .int .i64 0] 86) := ⟨_, rfl⟩
  have hb0 : Below w.heap.size w W0 := by rw [eW0]; exact ((Below.refl _ w).alloc (Nat.le_refl _) _).alloc (by simp) _
  have hx : Blk W0 w.heap.size 24 #[.int .i64 r, .int .i64 c, .int .i64 s, .slice A n cap] := by rw [eW0]; exact Blk.below (heap_alloc_new w _) ((Below.refl _ _).alloc (Nat.le_refl _) _) (by simp)
  have hy : Blk W0 (w.heap.size + 1) 86 #[.int .i64 0, .int .i64 0, .int .i64 0] := by rw [eW0]; exact blk_new _ _ 86 _ (by simp)
  have c0 : W0.cell? ⟨w.heap.size, 0, none⟩ = some (.int .i64 r) := hx.cell 0
  have c1 : W0.cell? ⟨w.heap.size, 1, none⟩ = some (.int .i64 c) := hx.cell 1
  have c2 : W0.cell? ⟨w.heap.size, 2, none⟩ = some (.int .i64 s) := hx.cell 2
  have c3 : W0.cell? ⟨w.heap.size, 3, none⟩ = some (.slice A n cap) := hx.cell 3
  clear hx
  show Calls Try.prog 41 #[.int .i64 3, .agg #[.int .i64 r, .int .i64 c, .int .i64 s, .slice A n cap]] w _
  go_enter Try.func41, Try.ntmps41
  go_wp2_with fail
  rw [← eW0]
  clear eW0
  go_wp2_with fail
  refine (clamp_any c 6 _).mono ?_
  rintro e w' ⟨rfl, rfl⟩
  go_wp2_with fail
  refine (clamp_any (n : Int) 4 _).mono ?_
  rintro e w' ⟨rfl, rfl⟩
  go_wp2_with (refine wpList_store_row rfl 86 (.tmp 4) _ rfl (w.heap.size + 1) #[.int .i64 1, .int .i64 (cl c 6), .int .i64 2] rfl rfl 86 #[.int .i64 0, .int .i64 0, .int .i64 0] hy size86 rfl (by simp [Value.oneCell']) ?_)
  refine bodyPost_ret (results_cell_row (cs := #[.int .i64 1, .int .i64 (cl c 6), .int .i64 2]) rfl _ _ (w.heap.size + 1) 86 (0, 0) _ rfl (setRow_heap _ _ _ _ _ _ hy) Try.underlying86 rfl size86) rfl ?_
  exact ⟨rfl, below_setRow hb0 (by omega) _⟩
set_option maxRecDepth 100000 in
set_option maxHeartbeats 2000000 in
theorem span_4 (p : Pg) (hp : p.Ok) (w : World) : Calls Try.prog 41 #[.int .i64 4, .agg p.cs.toArray] w fun e w' => e = .returned (.agg (Sp.cs ⟨0, 1, 1⟩).toArray) ∧ Below w.heap.size w w' := by
  obtain ⟨r, c, s, A, n, cap⟩ := p
  have hm := len_i64 hp.room hp.most
  simp only at hm
  obtain ⟨W0, eW0⟩ : ∃ W, W = (w.alloc (.cells #[.int .i64 r, .int .i64 c, .int .i64 s, .slice A n cap] 24)).alloc (.cells #[.int .i64 0, .int .i64 0, .int .i64 0] 86) := ⟨_, rfl⟩
  have hb0 : Below w.heap.size w W0 := by rw [eW0]; exact ((Below.refl _ w).alloc (Nat.le_refl _) _).alloc (by simp) _
  have hx : Blk W0 w.heap.size 24 #[.int .i64 r, .int .i64 c, .int .i64 s, .slice A n cap] := by rw [eW0]; exact Blk.below (heap_alloc_new w _) ((Below.refl _ _).alloc (Nat.le_refl _) _) (by simp)
  have hy : Blk W0 (w.heap.size + 1) 86 #[.int .i64 0, .int .i64 0, .int .i64 0] := by rw [eW0]; exact blk_new _ _ 86 _ (by simp)
  have c0 : W0.cell? ⟨w.heap.size, 0, none⟩ = some (.int .i64 r) := hx.cell 0
  have c1 : W0.cell? ⟨w.heap.size, 1, none⟩ = some (.int .i64 c) := hx.cell 1
  have c2 : W0.cell? ⟨w.heap.size, 2, none⟩ = some (.int .i64 s) := hx.cell 2
  have c3 : W0.cell? ⟨w.heap.size, 3, none⟩ = some (.slice A n cap) := hx.cell 3
  clear hx
  show Calls Try.prog 41 #[.int .i64 4, .agg #[.int .i64 r, .int .i64 c, .int .i64 s, .slice A n cap]] w _
  go_enter Try.func41, Try.ntmps41
  go_wp2_with fail
  rw [← eW0]
  clear eW0
  go_wp2_with fail
  refine (clamp_any c 6 _).mono ?_
  rintro e w' ⟨rfl, rfl⟩
  go_wp2_with fail
  refine (clamp_any (n : Int) 4 _).mono ?_
  rintro e w' ⟨rfl, rfl⟩
  go_wp2_with (refine wpList_store_row rfl 86 (.tmp 4) _ rfl (w.heap.size + 1) #[.int .i64 0, .int .i64 1, .int .i64 1] rfl rfl 86 #[.int .i64 0, .int .i64 0, .int .i64 0] hy size86 rfl (by simp [Value.oneCell']) ?_)
  refine bodyPost_ret (results_cell_row (cs := #[.int .i64 0, .int .i64 1, .int .i64 1]) rfl _ _ (w.heap.size + 1) 86 (0, 0) _ rfl (setRow_heap _ _ _ _ _ _ hy) Try.underlying86 rfl size86) rfl ?_
  exact ⟨rfl, below_setRow hb0 (by omega) _⟩
set_option maxRecDepth 100000 in
set_option maxHeartbeats 2000000 in
theorem span_5 (p : Pg) (hp : p.Ok) (w : World) : Calls Try.prog 41 #[.int .i64 5, .agg p.cs.toArray] w fun e w' => e = .returned (.agg (Sp.cs ⟨0, cl p.n 4, cl p.s 2⟩).toArray) ∧ Below w.heap.size w w' := by
  obtain ⟨r, c, s, A, n, cap⟩ := p
  have hm := len_i64 hp.room hp.most
  simp only at hm
  obtain ⟨W0, eW0⟩ : ∃ W, W = (w.alloc (.cells #[.int .i64 r, .int .i64 c, .int .i64 s, .slice A n cap] 24)).alloc (.cells #[.int .i64 0, .int .i64 0, .int .i64 0] 86) := ⟨_, rfl⟩
  have hb0 : Below w.heap.size w W0 := by rw [eW0]; exact ((Below.refl _ w).alloc (Nat.le_refl _) _).alloc (by simp) _
  have hx : Blk W0 w.heap.size 24 #[.int .i64 r, .int .i64 c, .int .i64 s, .slice A n cap] := by rw [eW0]; exact Blk.below (heap_alloc_new w _) ((Below.refl _ _).alloc (Nat.le_refl _) _) (by simp)
  have hy : Blk W0 (w.heap.size + 1) 86 #[.int .i64 0, .int .i64 0, .int .i64 0] := by rw [eW0]; exact blk_new _ _ 86 _ (by simp)
  have c0 : W0.cell? ⟨w.heap.size, 0, none⟩ = some (.int .i64 r) := hx.cell 0
  have c1 : W0.cell? ⟨w.heap.size, 1, none⟩ = some (.int .i64 c) := hx.cell 1
  have c2 : W0.cell? ⟨w.heap.size, 2, none⟩ = some (.int .i64 s) := hx.cell 2
  have c3 : W0.cell? ⟨w.heap.size, 3, none⟩ = some (.slice A n cap) := hx.cell 3
  clear hx
  show Calls Try.prog 41 #[.int .i64 5, .agg #[.int .i64 r, .int .i64 c, .int .i64 s, .slice A n cap]] w _
  go_enter Try.func41, Try.ntmps41
  go_wp2_with fail
  rw [← eW0]
  clear eW0
  go_wp2_with fail
  refine (clamp_any c 6 _).mono ?_
  rintro e w' ⟨rfl, rfl⟩
  go_wp2_with fail
  refine (clamp_any (n : Int) 4 _).mono ?_
  rintro e w' ⟨rfl, rfl⟩
  go_wp2_with fail
  refine (clamp_any s 2 _).mono ?_
  rintro e w' ⟨rfl, rfl⟩
  go_wp2_with (refine wpList_store_row rfl 86 (.tmp 4) _ rfl (w.heap.size + 1) #[.int .i64 0, .int .i64 (cl n 4), .int .i64 (cl s 2)] rfl rfl 86 #[.int .i64 0, .int .i64 0, .int .i64 0] hy size86 rfl (by simp [Value.oneCell']) ?_)
  refine bodyPost_ret (results_cell_row (cs := #[.int .i64 0, .int .i64 (cl n 4), .int .i64 (cl s 2)]) rfl _ _ (w.heap.size + 1) 86 (0, 0) _ rfl (setRow_heap _ _ _ _ _ _ hy) Try.underlying86 rfl size86) rfl ?_
  exact ⟨rfl, below_setRow hb0 (by omega) _⟩
set_option maxRecDepth 100000 in
set_option maxHeartbeats 2000000 in
theorem span_6 (p : Pg) (hp : p.Ok) (w : World) : Calls Try.prog 41 #[.int .i64 6, .agg p.cs.toArray] w fun e w' => e = .returned (.agg (Sp.cs ⟨0, 1, 1⟩).toArray) ∧ Below w.heap.size w w' := by
  obtain ⟨r, c, s, A, n, cap⟩ := p
  have hm := len_i64 hp.room hp.most
  simp only at hm
  obtain ⟨W0, eW0⟩ : ∃ W, W = (w.alloc (.cells #[.int .i64 r, .int .i64 c, .int .i64 s, .slice A n cap] 24)).alloc (.cells #[.int .i64 0, .int .i64 0, .int .i64 0] 86) := ⟨_, rfl⟩
  have hb0 : Below w.heap.size w W0 := by rw [eW0]; exact ((Below.refl _ w).alloc (Nat.le_refl _) _).alloc (by simp) _
  have hx : Blk W0 w.heap.size 24 #[.int .i64 r, .int .i64 c, .int .i64 s, .slice A n cap] := by rw [eW0]; exact Blk.below (heap_alloc_new w _) ((Below.refl _ _).alloc (Nat.le_refl _) _) (by simp)
  have hy : Blk W0 (w.heap.size + 1) 86 #[.int .i64 0, .int .i64 0, .int .i64 0] := by rw [eW0]; exact blk_new _ _ 86 _ (by simp)
  have c0 : W0.cell? ⟨w.heap.size, 0, none⟩ = some (.int .i64 r) := hx.cell 0
  have c1 : W0.cell? ⟨w.heap.size, 1, none⟩ = some (.int .i64 c) := hx.cell 1
  have c2 : W0.cell? ⟨w.heap.size, 2, none⟩ = some (.int .i64 s) := hx.cell 2
  have c3 : W0.cell? ⟨w.heap.size, 3, none⟩ = some (.slice A n cap) := hx.cell 3
  clear hx
  show Calls Try.prog 41 #[.int .i64 6, .agg #[.int .i64 r, .int .i64 c, .int .i64 s, .slice A n cap]] w _
  go_enter Try.func41, Try.ntmps41
  go_wp2_with fail
  rw [← eW0]
  clear eW0
  go_wp2_with fail
  refine (clamp_any c 6 _).mono ?_
  rintro e w' ⟨rfl, rfl⟩
  go_wp2_with fail
  refine (clamp_any (n : Int) 4 _).mono ?_
  rintro e w' ⟨rfl, rfl⟩
  go_wp2_with (refine wpList_store_row rfl 86 (.tmp 4) _ rfl (w.heap.size + 1) #[.int .i64 0, .int .i64 1, .int .i64 1] rfl rfl 86 #[.int .i64 0, .int .i64 0, .int .i64 0] hy size86 rfl (by simp [Value.oneCell']) ?_)
  refine bodyPost_ret (results_cell_row (cs := #[.int .i64 0, .int .i64 1, .int .i64 1]) rfl _ _ (w.heap.size + 1) 86 (0, 0) _ rfl (setRow_heap _ _ _ _ _ _ hy) Try.underlying86 rfl size86) rfl ?_
  exact ⟨rfl, below_setRow hb0 (by omega) _⟩
set_option maxRecDepth 100000 in
set_option maxHeartbeats 2000000 in
theorem span_7 (p : Pg) (hp : p.Ok) (w : World) : Calls Try.prog 41 #[.int .i64 7, .agg p.cs.toArray] w fun e w' => e = .returned (.agg (Sp.cs ⟨0, cl p.n 4, 1⟩).toArray) ∧ Below w.heap.size w w' := by
  obtain ⟨r, c, s, A, n, cap⟩ := p
  have hm := len_i64 hp.room hp.most
  simp only at hm
  obtain ⟨W0, eW0⟩ : ∃ W, W = (w.alloc (.cells #[.int .i64 r, .int .i64 c, .int .i64 s, .slice A n cap] 24)).alloc (.cells #[.int .i64 0, .int .i64 0, .int .i64 0] 86) := ⟨_, rfl⟩
  have hb0 : Below w.heap.size w W0 := by rw [eW0]; exact ((Below.refl _ w).alloc (Nat.le_refl _) _).alloc (by simp) _
  have hx : Blk W0 w.heap.size 24 #[.int .i64 r, .int .i64 c, .int .i64 s, .slice A n cap] := by rw [eW0]; exact Blk.below (heap_alloc_new w _) ((Below.refl _ _).alloc (Nat.le_refl _) _) (by simp)
  have hy : Blk W0 (w.heap.size + 1) 86 #[.int .i64 0, .int .i64 0, .int .i64 0] := by rw [eW0]; exact blk_new _ _ 86 _ (by simp)
  have c0 : W0.cell? ⟨w.heap.size, 0, none⟩ = some (.int .i64 r) := hx.cell 0
  have c1 : W0.cell? ⟨w.heap.size, 1, none⟩ = some (.int .i64 c) := hx.cell 1
  have c2 : W0.cell? ⟨w.heap.size, 2, none⟩ = some (.int .i64 s) := hx.cell 2
  have c3 : W0.cell? ⟨w.heap.size, 3, none⟩ = some (.slice A n cap) := hx.cell 3
  clear hx
  show Calls Try.prog 41 #[.int .i64 7, .agg #[.int .i64 r, .int .i64 c, .int .i64 s, .slice A n cap]] w _
  go_enter Try.func41, Try.ntmps41
  go_wp2_with fail
  rw [← eW0]
  clear eW0
  go_wp2_with fail
  refine (clamp_any c 6 _).mono ?_
  rintro e w' ⟨rfl, rfl⟩
  go_wp2_with fail
  refine (clamp_any (n : Int) 4 _).mono ?_
  rintro e w' ⟨rfl, rfl⟩
  go_wp2_with (refine wpList_store_row rfl 86 (.tmp 4) _ rfl (w.heap.size + 1) #[.int .i64 0, .int .i64 (cl n 4), .int .i64 1] rfl rfl 86 #[.int .i64 0, .int .i64 0, .int .i64 0] hy size86 rfl (by simp [Value.oneCell']) ?_)
  refine bodyPost_ret (results_cell_row (cs := #[.int .i64 0, .int .i64 (cl n 4), .int .i64 1]) rfl _ _ (w.heap.size + 1) 86 (0, 0) _ rfl (setRow_heap _ _ _ _ _ _ hy) Try.underlying86 rfl size86) rfl ?_
  exact ⟨rfl, below_setRow hb0 (by omega) _⟩
set_option maxRecDepth 100000 in
set_option maxHeartbeats 2000000 in
theorem span_8 (p : Pg) (hp : p.Ok) (w : World) : Calls Try.prog 41 #[.int .i64 8, .agg p.cs.toArray] w fun e w' => e = .returned (.agg (Sp.cs ⟨0, cl p.n 4, 1⟩).toArray) ∧ Below w.heap.size w w' := by
  obtain ⟨r, c, s, A, n, cap⟩ := p
  have hm := len_i64 hp.room hp.most
  simp only at hm
  obtain ⟨W0, eW0⟩ : ∃ W, W = (w.alloc (.cells #[.int .i64 r, .int .i64 c, .int .i64 s, .slice A n cap] 24)).alloc (.cells #[.int .i64 0, .int .i64 0, .int .i64 0] 86) := ⟨_, rfl⟩
  have hb0 : Below w.heap.size w W0 := by rw [eW0]; exact ((Below.refl _ w).alloc (Nat.le_refl _) _).alloc (by simp) _
  have hx : Blk W0 w.heap.size 24 #[.int .i64 r, .int .i64 c, .int .i64 s, .slice A n cap] := by rw [eW0]; exact Blk.below (heap_alloc_new w _) ((Below.refl _ _).alloc (Nat.le_refl _) _) (by simp)
  have hy : Blk W0 (w.heap.size + 1) 86 #[.int .i64 0, .int .i64 0, .int .i64 0] := by rw [eW0]; exact blk_new _ _ 86 _ (by simp)
  have c0 : W0.cell? ⟨w.heap.size, 0, none⟩ = some (.int .i64 r) := hx.cell 0
  have c1 : W0.cell? ⟨w.heap.size, 1, none⟩ = some (.int .i64 c) := hx.cell 1
  have c2 : W0.cell? ⟨w.heap.size, 2, none⟩ = some (.int .i64 s) := hx.cell 2
  have c3 : W0.cell? ⟨w.heap.size, 3, none⟩ = some (.slice A n cap) := hx.cell 3
  clear hx
  show Calls Try.prog 41 #[.int .i64 8, .agg #[.int .i64 r, .int .i64 c, .int .i64 s, .slice A n cap]] w _
  go_enter Try.func41, Try.ntmps41
  go_wp2_with fail
  rw [← eW0]
  clear eW0
  go_wp2_with fail
  refine (clamp_any c 6 _).mono ?_
  rintro e w' ⟨rfl, rfl⟩
  go_wp2_with fail
  refine (clamp_any (n : Int) 4 _).mono ?_
  rintro e w' ⟨rfl, rfl⟩
  go_wp2_with (refine wpList_store_row rfl 86 (.tmp 4) _ rfl (w.heap.size + 1) #[.int .i64 0, .int .i64 (cl n 4), .int .i64 1] rfl rfl 86 #[.int .i64 0, .int .i64 0, .int .i64 0] hy size86 rfl (by simp [Value.oneCell']) ?_)
  refine bodyPost_ret (results_cell_row (cs := #[.int .i64 0, .int .i64 (cl n 4), .int .i64 1]) rfl _ _ (w.heap.size + 1) 86 (0, 0) _ rfl (setRow_heap _ _ _ _ _ _ hy) Try.underlying86 rfl size86) rfl ?_
  exact ⟨rfl, below_setRow hb0 (by omega) _⟩
set_option maxRecDepth 100000 in
set_option maxHeartbeats 2000000 in
theorem span_else (k : Int) (h : ¬ (1 ≤ k ∧ k ≤ 8)) (p : Pg) (hp : p.Ok) (w : World) : Calls Try.prog 41 #[.int .i64 k, .agg p.cs.toArray] w fun e w' => e = .returned (.agg (Sp.cs ⟨0, 0, 0⟩).toArray) ∧ Below w.heap.size w w' := by
  obtain ⟨r, c, s, A, n, cap⟩ := p
  have hm := len_i64 hp.room hp.most
  simp only at hm
  obtain ⟨W0, eW0⟩ : ∃ W, W = (w.alloc (.cells #[.int .i64 r, .int .i64 c, .int .i64 s, .slice A n cap] 24)).alloc (.cells #[.int .i64 0, .int .i64 0, .int .i64 0] 86) := ⟨_, rfl⟩
  have hb0 : Below w.heap.size w W0 := by rw [eW0]; exact ((Below.refl _ w).alloc (Nat.le_refl _) _).alloc (by simp) _
  have hx : Blk W0 w.heap.size 24 #[.int .i64 r, .int .i64 c, .int .i64 s, .slice A n cap] := by rw [eW0]; exact Blk.below (heap_alloc_new w _) ((Below.refl _ _).alloc (Nat.le_refl _) _) (by simp)
  have hy : Blk W0 (w.heap.size + 1) 86 #[.int .i64 0, .int .i64 0, .int .i64 0] := by rw [eW0]; exact blk_new _ _ 86 _ (by simp)
  have c0 : W0.cell? ⟨w.heap.size, 0, none⟩ = some (.int .i64 r) := hx.cell 0
  have c1 : W0.cell? ⟨w.heap.size, 1, none⟩ = some (.int .i64 c) := hx.cell 1
  have c2 : W0.cell? ⟨w.heap.size, 2, none⟩ = some (.int .i64 s) := hx.cell 2
  have c3 : W0.cell? ⟨w.heap.size, 3, none⟩ = some (.slice A n cap) := hx.cell 3
  obtain ⟨t1, t2, t3, t4, t5, t6, t7, t8⟩ : (k == 1) = false ∧ (k == 2) = false ∧ (k == 3) = false ∧ (k == 4) = false ∧ (k == 5) = false ∧ (k == 6) = false ∧ (k == 7) = false ∧ (k == 8) = false := by
    simp only [beq_eq_false_iff_ne]
    omega
  clear h
  clear hx
  show Calls Try.prog 41 #[.int .i64 k, .agg #[.int .i64 r, .int .i64 c, .int .i64 s, .slice A n cap]] w _
  go_enter Try.func41, Try.ntmps41
  go_wp2_with fail
  rw [← eW0]
  clear eW0
  go_wp2_with fail
  refine (clamp_any c 6 _).mono ?_
  rintro e w' ⟨rfl, rfl⟩
  go_wp2_with fail
  refine (clamp_any (n : Int) 4 _).mono ?_
  rintro e w' ⟨rfl, rfl⟩
  go_wp2_with (refine wpList_store_row rfl 86 (.tmp 4) _ rfl (w.heap.size + 1) #[.int .i64 0, .int .i64 0, .int .i64 0] rfl rfl 86 #[.int .i64 0, .int .i64 0, .int .i64 0] hy size86 rfl (by simp [Value.oneCell']) ?_)
  refine bodyPost_ret (results_cell_row (cs := #[.int .i64 0, .int .i64 0, .int .i64 0]) rfl _ _ (w.heap.size + 1) 86 (0, 0) _ rfl (setRow_heap _ _ _ _ _ _ hy) Try.underlying86 rfl size86) rfl ?_
  exact ⟨rfl, below_setRow hb0 (by omega) _⟩
theorem span_any (k : Int) (p : Pg) (hp : p.Ok) (w : World) : Calls Try.prog 41 #[.int .i64 k, .agg p.cs.toArray] w fun e w' => e = .returned (.agg (spanP k p).cs.toArray) ∧ Below w.heap.size w w' := by
  by_cases h : 1 ≤ k ∧ k ≤ 8
  · have hk : k = 1 ∨ k = 2 ∨ k = 3 ∨ k = 4 ∨ k = 5 ∨ k = 6 ∨ k = 7 ∨ k = 8 := by omega
    rcases hk with rfl | rfl | rfl | rfl | rfl | rfl | rfl | rfl
    · exact span_1 p hp w
    · exact span_2 p hp w
    · exact span_3 p hp w
    · exact span_4 p hp w
    · exact span_5 p hp w
    · exact span_6 p hp w
    · exact span_7 p hp w
    · exact span_8 p hp w
  · rw [spanP_else k p h]
    exact span_else k h p hp w
end Go.Proofs.Ytlajjadpcaobiaa
