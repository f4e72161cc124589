/- The contract of instr's Check: may an instruction be. Conditions: the variable 'rows' lies as it is laid. -/
import Derived.Test.YtfadfdfpocpelaaDoorPCells
namespace Go.Proofs.YtfadfdfpocpelaaDoor.P
open Go.RowKit

/-- Is it one of so many? -/
def inB (n m : Int) : Bool := decide (0 ≤ n) && decide (n < m)
theorem inB_iff (n m : Int) : inB n m = true ↔ 0 ≤ n ∧ n < m := by simp [inB]
set_option maxRecDepth 100000 in
theorem below_any (n m : Int) (w : World) : Calls Tryd.prog 63 #[.int .i64 n, .int .i64 m] w fun e w' => e = .returned (.bool (inB n m)) ∧ w = w' := by
  by_cases h1 : 0 ≤ n
  · by_cases h2 : n < m
    · have e : inB n m = true := by simp [inB, h1, h2]
      rw [e]
      go_enter Tryd.func63, Tryd.ntmps63
      go_wp2
      go_ret
      exact ⟨rfl, rfl⟩
    · have e : inB n m = false := by simp [inB]; omega
      have h3 : decide (n < m) = false := decide_eq_false h2
      rw [e]
      clear e h2
      go_enter Tryd.func63, Tryd.ntmps63
      go_wp2
      go_ret
      exact ⟨rfl, rfl⟩
  · have e : inB n m = false := by simp [inB, h1]
    have h3 : decide (0 ≤ n) = false := decide_eq_false h1
    rw [e]
    clear e h1
    go_enter Tryd.func63, Tryd.ntmps63
    go_wp2
    go_ret
    exact ⟨rfl, rfl⟩

/-- Is an operand as its letter tells? -/
def fitB (l n r s c : Int) : Bool :=
  if l = 114 then inB n 4 else if l = 103 then inB n r else if l = 115 then inB n s else if l = 102 then inB n 2
  else if l = 116 then decide (0 ≤ n) && decide (n ≤ c) else if l = 110 then true else decide (n = 0)

set_option maxRecDepth 100000 in
theorem fit_r (n r q s c : Int) (A : Option Addr) (k m : Nat) (w : World) :
    Calls Tryd.prog 54 #[.int .i64 n, .int .u8 114, .agg #[.int .i64 r, .int .i64 q, .int .i64 s, .slice A k m], .int .i64 c] w fun e w' => e = .returned (.bool (inB n 4)) ∧ Below w.heap.size w w' := by
  have hb := below_any n 4
  have g0 : Blk (w.alloc (.cells #[.int .i64 r, .int .i64 q, .int .i64 s, .slice A k m] 39)) w.heap.size 39 #[.int .i64 r, .int .i64 q, .int .i64 s, .slice A k m] := heap_alloc_new w _
  have c0 := g0.cell 0
  have c2 := g0.cell 2
  go_enter Tryd.func54, Tryd.ntmps54
  go_wp2_with fail
  refine (hb _).mono ?_
  rintro e w1 ⟨rfl, rfl⟩
  go_wp2
  go_ret
  exact ⟨rfl, (Below.refl _ w).alloc (Nat.le_refl _) _⟩
set_option maxRecDepth 100000 in
theorem fit_g (n r q s c : Int) (A : Option Addr) (k m : Nat) (w : World) :
    Calls Tryd.prog 54 #[.int .i64 n, .int .u8 103, .agg #[.int .i64 r, .int .i64 q, .int .i64 s, .slice A k m], .int .i64 c] w fun e w' => e = .returned (.bool (inB n r)) ∧ Below w.heap.size w w' := by
  have hb := below_any n r
  have g0 : Blk (w.alloc (.cells #[.int .i64 r, .int .i64 q, .int .i64 s, .slice A k m] 39)) w.heap.size 39 #[.int .i64 r, .int .i64 q, .int .i64 s, .slice A k m] := heap_alloc_new w _
  have c0 := g0.cell 0
  have c2 := g0.cell 2
  go_enter Tryd.func54, Tryd.ntmps54
  go_wp2_with fail
  refine (hb _).mono ?_
  rintro e w1 ⟨rfl, rfl⟩
  go_wp2
  go_ret
  exact ⟨rfl, (Below.refl _ w).alloc (Nat.le_refl _) _⟩
set_option maxRecDepth 100000 in
theorem fit_s (n r q s c : Int) (A : Option Addr) (k m : Nat) (w : World) :
    Calls Tryd.prog 54 #[.int .i64 n, .int .u8 115, .agg #[.int .i64 r, .int .i64 q, .int .i64 s, .slice A k m], .int .i64 c] w fun e w' => e = .returned (.bool (inB n s)) ∧ Below w.heap.size w w' := by
  have hb := below_any n s
  have g0 : Blk (w.alloc (.cells #[.int .i64 r, .int .i64 q, .int .i64 s, .slice A k m] 39)) w.heap.size 39 #[.int .i64 r, .int .i64 q, .int .i64 s, .slice A k m] := heap_alloc_new w _
  have c0 := g0.cell 0
  have c2 := g0.cell 2
  go_enter Tryd.func54, Tryd.ntmps54
  go_wp2_with fail
  refine (hb _).mono ?_
  rintro e w1 ⟨rfl, rfl⟩
  go_wp2
  go_ret
  exact ⟨rfl, (Below.refl _ w).alloc (Nat.le_refl _) _⟩
set_option maxRecDepth 100000 in
theorem fit_f (n r q s c : Int) (A : Option Addr) (k m : Nat) (w : World) :
    Calls Tryd.prog 54 #[.int .i64 n, .int .u8 102, .agg #[.int .i64 r, .int .i64 q, .int .i64 s, .slice A k m], .int .i64 c] w fun e w' => e = .returned (.bool (inB n 2)) ∧ Below w.heap.size w w' := by
  have hb := below_any n 2
  have g0 : Blk (w.alloc (.cells #[.int .i64 r, .int .i64 q, .int .i64 s, .slice A k m] 39)) w.heap.size 39 #[.int .i64 r, .int .i64 q, .int .i64 s, .slice A k m] := heap_alloc_new w _
  have c0 := g0.cell 0
  have c2 := g0.cell 2
  go_enter Tryd.func54, Tryd.ntmps54
  go_wp2_with fail
  refine (hb _).mono ?_
  rintro e w1 ⟨rfl, rfl⟩
  go_wp2
  go_ret
  exact ⟨rfl, (Below.refl _ w).alloc (Nat.le_refl _) _⟩
set_option maxRecDepth 100000 in
theorem fit_t (n r q s c : Int) (A : Option Addr) (k m : Nat) (w : World) :
    Calls Tryd.prog 54 #[.int .i64 n, .int .u8 116, .agg #[.int .i64 r, .int .i64 q, .int .i64 s, .slice A k m], .int .i64 c] w fun e w' => e = .returned (.bool (decide (0 ≤ n) && decide (n ≤ c))) ∧ Below w.heap.size w w' := by
  by_cases h1 : 0 ≤ n
  · by_cases h2 : n ≤ c
    · have e : (decide (0 ≤ n) && decide (n ≤ c)) = true := by simp [h1, h2]
      rw [e]
      clear e
      go_enter Tryd.func54, Tryd.ntmps54
      go_wp2
      go_ret
      exact ⟨rfl, (Below.refl _ w).alloc (Nat.le_refl _) _⟩
    · have e : (decide (0 ≤ n) && decide (n ≤ c)) = false := by simp [h2]
      have h3 : decide (n ≤ c) = false := decide_eq_false h2
      rw [e]
      clear e h2
      go_enter Tryd.func54, Tryd.ntmps54
      go_wp2
      go_ret
      exact ⟨rfl, (Below.refl _ w).alloc (Nat.le_refl _) _⟩
  · have e : (decide (0 ≤ n) && decide (n ≤ c)) = false := by simp [h1]
    have h3 : decide (0 ≤ n) = false := decide_eq_false h1
    rw [e]
    clear e h1
    go_enter Tryd.func54, Tryd.ntmps54
    go_wp2
    go_ret
    exact ⟨rfl, (Below.refl _ w).alloc (Nat.le_refl _) _⟩
set_option maxRecDepth 100000 in
theorem fit_n (n r q s c : Int) (A : Option Addr) (k m : Nat) (w : World) :
    Calls Tryd.prog 54 #[.int .i64 n, .int .u8 110, .agg #[.int .i64 r, .int .i64 q, .int .i64 s, .slice A k m], .int .i64 c] w fun e w' => e = .returned (.bool true) ∧ Below w.heap.size w w' := by
  go_enter Tryd.func54, Tryd.ntmps54
  go_wp2
  go_ret
  exact ⟨rfl, (Below.refl _ w).alloc (Nat.le_refl _) _⟩
set_option maxRecDepth 100000 in
theorem fit_0 (l : Int) (h1 : l ≠ 114) (h2 : l ≠ 103) (h3 : l ≠ 115) (h4 : l ≠ 102) (h5 : l ≠ 116) (h6 : l ≠ 110) (n r q s c : Int) (A : Option Addr) (k m : Nat) (w : World) :
    Calls Tryd.prog 54 #[.int .i64 n, .int .u8 l, .agg #[.int .i64 r, .int .i64 q, .int .i64 s, .slice A k m], .int .i64 c] w fun e w' => e = .returned (.bool (decide (n = 0))) ∧ Below w.heap.size w w' := by
  go_enter Tryd.func54, Tryd.ntmps54
  go_wp2
  go_ret
  exact ⟨rfl, (Below.refl _ w).alloc (Nat.le_refl _) _⟩
theorem fit_any (l : Int) (n r q s c : Int) (A : Option Addr) (k m : Nat) (w : World) :
    Calls Tryd.prog 54 #[.int .i64 n, .int .u8 l, .agg #[.int .i64 r, .int .i64 q, .int .i64 s, .slice A k m], .int .i64 c] w fun e w' => e = .returned (.bool (fitB l n r s c)) ∧ Below w.heap.size w w' := by
  unfold fitB
  by_cases h1 : l = 114
  · rw [if_pos h1, h1]; exact fit_r n r q s c A k m w
  by_cases h2 : l = 103
  · rw [if_neg h1, if_pos h2, h2]; exact fit_g n r q s c A k m w
  by_cases h3 : l = 115
  · rw [if_neg h1, if_neg h2, if_pos h3, h3]; exact fit_s n r q s c A k m w
  by_cases h4 : l = 102
  · rw [if_neg h1, if_neg h2, if_neg h3, if_pos h4, h4]; exact fit_f n r q s c A k m w
  by_cases h5 : l = 116
  · rw [if_neg h1, if_neg h2, if_neg h3, if_neg h4, if_pos h5, h5]; exact fit_t n r q s c A k m w
  by_cases h6 : l = 110
  · rw [if_neg h1, if_neg h2, if_neg h3, if_neg h4, if_neg h5, if_pos h6, h6]; exact fit_n n r q s c A k m w
  rw [if_neg h1, if_neg h2, if_neg h3, if_neg h4, if_neg h5, if_neg h6]
  exact fit_0 l h1 h2 h3 h4 h5 h6 n r q s c A k m w

theorem cells46 : Tryd.prog.cellsOf 100 = 4 := by kernel_rfl
set_option maxRecDepth 100000 in
theorem operands_any (o a b c n : Int) (w : World) : Calls Tryd.prog 53 #[.agg #[.int .i64 o, .int .i64 a, .int .i64 b, .int .i64 c, .int .i64 n]] w
    fun e w' => e = .returned (.agg #[.int .i64 a, .int .i64 b, .int .i64 c, .int .i64 n]) ∧ Below w.heap.size w w' := by
  obtain ⟨_, d1, d2, d3, d4⟩ := At5.new w o a b c n
  go_enter Tryd.func53, Tryd.ntmps53
  go_wp2
  refine bodyPost_ret (results_cell_row (cs := #[.int .i64 a, .int .i64 b, .int .i64 c, .int .i64 n]) rfl _ _ (w.heap.size + 1) 100 (0, 0) _ rfl (heap_alloc2_new w _ _) Tryd.underlying100 rfl (by kernel_rfl)) rfl ?_
  exact ⟨rfl, ((Below.refl _ w).alloc (Nat.le_refl _) _).alloc (by simp) _⟩

/-- What Check answers over an instruction's letters. -/
def chkL (ls : List UInt8) (a b c n r s k : Int) : Int :=
  match ls with
  | [l0, l1, l2, l3] => if fitB l0.toNat a r s k && fitB l1.toNat b r s k && fitB l2.toNat c r s k && fitB l3.toNat n r s k then 0 else 3
  | _ => 2
def chk (o a b c n r s k : Int) : Int := chkL (shapeZ o) a b c n r s k

theorem toList_txt (l : List UInt8) : (txt l).toList = l := by rw [ByteArray.toList_eq]; rfl
set_option maxRecDepth 100000 in
theorem check_none (o a b c n r q s k : Int) (A : Option Addr) (l m : Nat) (w : World) (hL : Laid w) (ho : shapeZ o = []) :
    Calls Tryd.prog 43 #[.agg #[.int .i64 o, .int .i64 a, .int .i64 b, .int .i64 c, .int .i64 n], .agg #[.int .i64 r, .int .i64 q, .int .i64 s, .slice A l m], .int .i64 k] w
      fun e w' => e = .returned (.int .i64 2) ∧ Below w.heap.size w w' := by
  obtain ⟨W0, eW0⟩ : ∃ W0, W0 = (w.alloc (.cells #[.int .i64 o, .int .i64 a, .int .i64 b, .int .i64 c, .int .i64 n] 35)).alloc (.cells #[.int .i64 r, .int .i64 q, .int .i64 s, .slice A l m] 39) := ⟨_, rfl⟩
  have b0 : Below w.heap.size w W0 := by rw [eW0]; exact ((Below.refl _ w).alloc (Nat.le_refl _) _).alloc (by simp) _
  have h0 : At5 W0 w.heap.size o a b c n := by rw [eW0]; exact (At5.new w o a b c n).on ((Below.refl _ _).alloc (Nat.le_refl _) _)
  obtain ⟨d0, d1, d2, d3, d4⟩ := id h0
  have hS := shape_any o W0 (hL.on b0)
  rw [ho] at hS
  have te : (txt []).toList.isEmpty = true := by rw [toList_txt]; rfl
  go_enter Tryd.func43, Tryd.ntmps43
  go_wp2_with fail
  rw [← eW0]
  refine hS.mono ?_
  rintro e w1 ⟨rfl, hb1⟩
  go_wp2
  go_ret
  exact ⟨rfl, b0.trans (hb1.mono b0.size)⟩
theorem index_0 (a b c n : Int) (w : World) : (Instr.index 100 (.agg #[.int .i64 a, .int .i64 b, .int .i64 c, .int .i64 n]) (.int .i64 0)).run Tryd.prog w = .ok (.int .i64 a) w := by kernel_rfl
theorem index_1 (a b c n : Int) (w : World) : (Instr.index 100 (.agg #[.int .i64 a, .int .i64 b, .int .i64 c, .int .i64 n]) (.int .i64 1)).run Tryd.prog w = .ok (.int .i64 b) w := by kernel_rfl
theorem index_2 (a b c n : Int) (w : World) : (Instr.index 100 (.agg #[.int .i64 a, .int .i64 b, .int .i64 c, .int .i64 n]) (.int .i64 2)).run Tryd.prog w = .ok (.int .i64 c) w := by kernel_rfl
theorem index_3 (a b c n : Int) (w : World) : (Instr.index 100 (.agg #[.int .i64 a, .int .i64 b, .int .i64 c, .int .i64 n]) (.int .i64 3)).run Tryd.prog w = .ok (.int .i64 n) w := by kernel_rfl

set_option maxRecDepth 100000 in
theorem check_some (o a b c n r q s k : Int) (l0 l1 l2 l3 : UInt8) (A : Option Addr) (l m : Nat) (w : World) (hL : Laid w) (ho : shapeZ o = [l0, l1, l2, l3]) :
    Calls Tryd.prog 43 #[.agg #[.int .i64 o, .int .i64 a, .int .i64 b, .int .i64 c, .int .i64 n], .agg #[.int .i64 r, .int .i64 q, .int .i64 s, .slice A l m], .int .i64 k] w
      fun e w' => e = .returned (.int .i64 (chkL [l0, l1, l2, l3] a b c n r s k)) ∧ Below w.heap.size w w' := by
  obtain ⟨f0, ef0⟩ : ∃ f, fitB (l0.toNat : Int) a r s k = f := ⟨_, rfl⟩
  have F0 := fit_any (l0.toNat : Int) a r q s k A l m
  rw [ef0] at F0
  obtain ⟨f1, ef1⟩ : ∃ f, fitB (l1.toNat : Int) b r s k = f := ⟨_, rfl⟩
  have F1 := fit_any (l1.toNat : Int) b r q s k A l m
  rw [ef1] at F1
  obtain ⟨f2, ef2⟩ : ∃ f, fitB (l2.toNat : Int) c r s k = f := ⟨_, rfl⟩
  have F2 := fit_any (l2.toNat : Int) c r q s k A l m
  rw [ef2] at F2
  obtain ⟨f3, ef3⟩ : ∃ f, fitB (l3.toNat : Int) n r s k = f := ⟨_, rfl⟩
  have F3 := fit_any (l3.toNat : Int) n r q s k A l m
  rw [ef3] at F3
  have HV : Hid (chkL [l0, l1, l2, l3] a b c n r s k = if f0 && f1 && f2 && f3 then 0 else 3) := Lib.hid (by unfold chkL; simp only [ef0, ef1, ef2, ef3])
  clear ef0 ef1 ef2 ef3
  obtain ⟨W0, eW0⟩ : ∃ W0, W0 = (w.alloc (.cells #[.int .i64 o, .int .i64 a, .int .i64 b, .int .i64 c, .int .i64 n] 35)).alloc (.cells #[.int .i64 r, .int .i64 q, .int .i64 s, .slice A l m] 39) := ⟨_, rfl⟩
  have b0 : Below w.heap.size w W0 := by rw [eW0]; exact ((Below.refl _ w).alloc (Nat.le_refl _) _).alloc (by simp) _
  have h0 : At5 W0 w.heap.size o a b c n := by rw [eW0]; exact (At5.new w o a b c n).on ((Below.refl _ _).alloc (Nat.le_refl _) _)
  have p0 : Blk W0 (w.heap.size + 1) 39 #[.int .i64 r, .int .i64 q, .int .i64 s, .slice A l m] := by rw [eW0]; exact heap_alloc2_new w _ _
  obtain ⟨d0, d1, d2, d3, d4⟩ := id h0
  have hS := shape_any o W0 (hL.on b0)
  rw [ho] at hS
  have te : (txt [l0, l1, l2, l3]).toList.isEmpty = false := by rw [toList_txt]; rfl
  have tz : (txt [l0, l1, l2, l3]).size = 4 := txt_size _
  have hO := operands_any o a b c n
  have x0 := index_0 a b c n
  have x1 := index_1 a b c n
  have x2 := index_2 a b c n
  have x3 := index_3 a b c n
  go_enter Tryd.func43, Tryd.ntmps43
  go_wp2_with fail
  rw [← eW0]
  clear eW0
  refine hS.mono ?_
  rintro e w1 ⟨rfl, hb1⟩
  have h1 := h0.on hb1
  have p1 := p0.below hb1 p0.lt
  clear d0 d1 d2 d3 d4
  obtain ⟨d0, d1, d2, d3, d4⟩ := id h1
  go_wp2_with fail
  refine (hO _).mono ?_
  rintro e w2 ⟨rfl, hb2⟩
  have p2 := p1.below hb2 p1.lt
  have q2 := (b0.trans (hb1.mono b0.size)).trans (hb2.mono (Nat.le_trans b0.size hb1.size))
  clear hS hb1 h1 hb2 p1 d0 d1 d2 d3 d4 h0 p0 b0
  go_wp2_with fail
  refine wp_loop_rounds 5 ?_
  rw [rounds_succ]
  go_wp2_with fail
  refine wp_region_still_tail 6 (by kernel_rfl) (by kernel_rfl) ?_
  simp only [List.take_succ_cons, List.take_zero, List.drop_succ_cons, List.drop_zero]
  change wpStill _ _ w2.drew (fun a' => wpList _ _ _ _ a' w2.drew) _ _
  replace p2 : Blk w2.drew (w.heap.size + 1) 39 #[.int .i64 r, .int .i64 q, .int .i64 s, .slice A l m] := p2
  replace q2 : Below w.heap.size w w2.drew := q2.drew
  generalize w2.drew = v0 at *
  have y0 := p2.cell 0
  have y1 := p2.cell 1
  have y2 := p2.cell 2
  have y3 := p2.cell 3
  repeat still_step
  refine wpStill_nil ?_
  go_wp2_with fail
  clear y0 y1 y2 y3
  refine (F0 v0).mono ?_
  rintro e w3 ⟨rfl, hb⟩
  replace p2 := p2.below hb p2.lt
  replace q2 := q2.trans (hb.mono q2.size)
  clear hb
  cases f0 with
  | false =>
    go_wp2
    go_ret
    exact ⟨by rw [HV.out]; rfl, q2⟩
  | true =>
  go_wp2_with fail
  rw [rounds_succ]
  go_wp2_with fail
  refine wp_region_still_tail 6 (by kernel_rfl) (by kernel_rfl) ?_
  simp only [List.take_succ_cons, List.take_zero, List.drop_succ_cons, List.drop_zero]
  change wpStill _ _ w3.drew (fun a' => wpList _ _ _ _ a' w3.drew) _ _
  replace p2 : Blk w3.drew (w.heap.size + 1) 39 #[.int .i64 r, .int .i64 q, .int .i64 s, .slice A l m] := p2
  replace q2 : Below w.heap.size w w3.drew := q2.drew
  generalize w3.drew = v1 at *
  have y0 := p2.cell 0
  have y1 := p2.cell 1
  have y2 := p2.cell 2
  have y3 := p2.cell 3
  repeat still_step
  refine wpStill_nil ?_
  go_wp2_with fail
  clear y0 y1 y2 y3
  refine (F1 v1).mono ?_
  rintro e w4 ⟨rfl, hb⟩
  replace p2 := p2.below hb p2.lt
  replace q2 := q2.trans (hb.mono q2.size)
  clear hb
  cases f1 with
  | false =>
    go_wp2
    go_ret
    exact ⟨by rw [HV.out]; rfl, q2⟩
  | true =>
  go_wp2_with fail
  rw [rounds_succ]
  go_wp2_with fail
  refine wp_region_still_tail 6 (by kernel_rfl) (by kernel_rfl) ?_
  simp only [List.take_succ_cons, List.take_zero, List.drop_succ_cons, List.drop_zero]
  change wpStill _ _ w4.drew (fun a' => wpList _ _ _ _ a' w4.drew) _ _
  replace p2 : Blk w4.drew (w.heap.size + 1) 39 #[.int .i64 r, .int .i64 q, .int .i64 s, .slice A l m] := p2
  replace q2 : Below w.heap.size w w4.drew := q2.drew
  generalize w4.drew = v2 at *
  have y0 := p2.cell 0
  have y1 := p2.cell 1
  have y2 := p2.cell 2
  have y3 := p2.cell 3
  repeat still_step
  refine wpStill_nil ?_
  go_wp2_with fail
  clear y0 y1 y2 y3
  refine (F2 v2).mono ?_
  rintro e w5 ⟨rfl, hb⟩
  replace p2 := p2.below hb p2.lt
  replace q2 := q2.trans (hb.mono q2.size)
  clear hb
  cases f2 with
  | false =>
    go_wp2
    go_ret
    exact ⟨by rw [HV.out]; rfl, q2⟩
  | true =>
  go_wp2_with fail
  rw [rounds_succ]
  go_wp2_with fail
  refine wp_region_still_tail 6 (by kernel_rfl) (by kernel_rfl) ?_
  simp only [List.take_succ_cons, List.take_zero, List.drop_succ_cons, List.drop_zero]
  change wpStill _ _ w5.drew (fun a' => wpList _ _ _ _ a' w5.drew) _ _
  replace p2 : Blk w5.drew (w.heap.size + 1) 39 #[.int .i64 r, .int .i64 q, .int .i64 s, .slice A l m] := p2
  replace q2 : Below w.heap.size w w5.drew := q2.drew
  generalize w5.drew = v3 at *
  have y0 := p2.cell 0
  have y1 := p2.cell 1
  have y2 := p2.cell 2
  have y3 := p2.cell 3
  repeat still_step
  refine wpStill_nil ?_
  go_wp2_with fail
  clear y0 y1 y2 y3
  refine (F3 v3).mono ?_
  rintro e w6 ⟨rfl, hb⟩
  replace p2 := p2.below hb p2.lt
  replace q2 := q2.trans (hb.mono q2.size)
  clear hb
  cases f3 with
  | false =>
    go_wp2
    go_ret
    exact ⟨by rw [HV.out]; rfl, q2⟩
  | true =>
  go_wp2_with fail
  rw [rounds_succ]
  go_wp2
  go_ret
  exact ⟨by rw [HV.out]; rfl, q2⟩
end Go.Proofs.YtfadfdfpocpelaaDoor.P
