/- A thread of which not more is looked at. Conditions: lists have room. -/
import Derived.Test.YtfadfdfpocpelaaGreatDoorDone
import Derived.Lib.SliceRun
namespace Go.Proofs.YtfadfdfpocpelaaGreatDoor
open Go.RowKit Go.ChangeShapes Go.WideShapes

theorem under31 : Tryz.prog.underlying 31 = some (.slice (Tryz.prog.elem 31)) := by kernel_rfl
theorem sizeE31 (w : World) : (sizeOf (Tryz.prog.elem 31)).run Tryz.prog w = .ok 3 w := by kernel_rfl
theorem upto31 (A : Option Addr) (n cap k : Nat) (hk : k ≤ cap) (hA : A = none → cap = 0) (w : World) :
    (Instr.slice 31 (.slice A n cap) none (some (.int .i64 (k : Int))) none).run Tryz.prog w = .ok (.slice A k cap) w := by
  rw [run_slice_h w 31 _ n cap under31 .i64 _ (by omega) (by omega), sizeE31]
  simp only [Result.andThen, sliced, Int.toNat_natCast, Nat.sub_zero, Nat.zero_mul]
  rcases A with _ | ad
  · have := hA rfl
    subst this
    obtain rfl : k = 0 := by omega
    rfl
  · split <;> simp [Addr.add]
theorem under28 : Tryz.prog.underlying 28 = some (.slice (Tryz.prog.elem 28)) := by kernel_rfl
theorem sizeE28 (w : World) : (sizeOf (Tryz.prog.elem 28)).run Tryz.prog w = .ok 1 w := by kernel_rfl
theorem upto28 (A : Option Addr) (n cap k : Nat) (hk : k ≤ cap) (hA : A = none → cap = 0) (w : World) :
    (Instr.slice 28 (.slice A n cap) none (some (.int .i64 (k : Int))) none).run Tryz.prog w = .ok (.slice A k cap) w := by
  rw [run_slice_h w 28 _ n cap under28 .i64 _ (by omega) (by omega), sizeE28]
  simp only [Result.andThen, sliced, Int.toNat_natCast, Nat.sub_zero, Nat.zero_mul]
  rcases A with _ | ad
  · have := hA rfl
    subst this
    obtain rfl : k = 0 := by omega
    rfl
  · split <;> simp [Addr.add]

/-- A slice of at most so many. -/
def Sl.cut (s : Sl) (m : Nat) : Sl := if m < s.n then ⟨s.A, m, s.cap⟩ else s
theorem Sl.cut_n (s : Sl) (m : Nat) : (s.cut m).n ≤ m := by
  unfold Sl.cut
  split
  · exact Nat.le_refl _
  · omega
theorem Sl.cut_le (s : Sl) (m : Nat) : (s.cut m).n ≤ s.n := by
  unfold Sl.cut
  split
  · show m ≤ s.n
    omega
  · exact Nat.le_refl _
theorem cut_seesI {w : World} {s : Sl} {z : List Int} (h : SeesI w s.A s.n s.cap z) (m : Nat) : SeesI w (s.cut m).A (s.cut m).n (s.cut m).cap (z.take m) := by
  unfold Sl.cut
  split
  · exact Sees.first int1_len h m (by omega) (by omega)
  · rw [List.take_of_length_le (by have := h.len; omega)]
    exact h
theorem cut_seesB {w : World} {s : Sl} {z : List Bg} (h : SeesB w s.A s.n s.cap z) (m : Nat) : SeesB w (s.cut m).A (s.cut m).n (s.cut m).cap (z.take m) := by
  unfold Sl.cut
  split
  · exact Sees.first Bg.len h m (by omega) (by omega)
  · rw [List.take_of_length_le (by have := h.len; omega)]
    exact h
/-- A thread of which not more is looked at. -/
def fewT (x : Th) : Th := x.put (x.se.cut 12) (x.bg.cut 12) (x.sn.cut 8)
theorem fewT_reads {w : World} {x : Th} {z s : List Int} {l : List Bg} (h : Reads w x z l s) : Reads w (fewT x) (z.take 12) (l.take 12) (s.take 8) := ⟨cut_seesI h.se 12, cut_seesB h.bg 12, cut_seesI h.sn 8⟩
set_option maxRecDepth 100000 in
set_option maxHeartbeats 4000000 in
theorem fewt_any {w : World} {x : Th} {z s : List Int} {l : List Bg} (h : Reads w x z l s) : Calls Tryz.prog 6 #[.agg x.cs.toArray] w fun e w' => e = .returned (.agg (fewT x).cs.toArray) ∧ Below w.heap.size w w' := by
  have mA := Sees.most h.se
  have mB := Sees.most h.bg
  have mC := Sees.most h.sn
  have rA := Sees.room h.se
  have rB := Sees.room h.bg
  have rC := Sees.room h.sn
  have aA := Sees.none_ h.se
  have aB := Sees.none_ h.bg
  have aC := Sees.none_ h.sn
  unfold maxLen at mA mB mC
  have nA : (x.se.n : Int) ≤ 9223372036854775807 := by omega
  have nB : (x.bg.n : Int) ≤ 9223372036854775807 := by omega
  have nC : (x.sn.n : Int) ≤ 9223372036854775807 := by omega
  unfold fewT Sl.cut
  obtain ⟨p1, f1⟩ : ∃ p, w.heap.size = p := ⟨_, rfl⟩
  obtain ⟨W1, ea1⟩ : ∃ W, w.alloc (.cells x.cs.toArray 33) = W := ⟨_, rfl⟩
  have ka1 : Below w.heap.size w W1 := by rw [← ea1]; exact (Below.refl _ w).alloc (Nat.le_refl _) _
  have b1 : Blk W1 p1 33 x.cs.toArray := by rw [← ea1]; exact blk_new w _ 33 _ f1
  have kk : Below w.heap.size w W1 := ka1
  have hp1 : w.heap.size ≤ p1 := Nat.le_of_eq f1
  clear ka1
  obtain ⟨p2, f2⟩ : ∃ p, W1.heap.size = p := ⟨_, rfl⟩
  obtain ⟨W2, ea2⟩ : ∃ W, W1.alloc (.cells #[.int .i64 0, .int .i64 0, .int .i64 0, .int .i64 0, .int .i64 0, .int .i64 0, .int .i64 0, .int .i64 0, .int .i64 0, .int .i64 0, .int .i64 0, .int .i64 0, .int .i64 0, .int .i64 0, .int .i64 0, .int .i64 0, .int .i64 0, .int .i64 0, .slice none 0 0, .slice none 0 0, .slice none 0 0, .int .i64 0] 33) = W := ⟨_, rfl⟩
  have ka2 : Below W1.heap.size W1 W2 := by rw [← ea2]; exact (Below.refl _ W1).alloc (Nat.le_refl _) _
  have b2 : Blk W2 p2 33 #[.int .i64 0, .int .i64 0, .int .i64 0, .int .i64 0, .int .i64 0, .int .i64 0, .int .i64 0, .int .i64 0, .int .i64 0, .int .i64 0, .int .i64 0, .int .i64 0, .int .i64 0, .int .i64 0, .int .i64 0, .int .i64 0, .int .i64 0, .int .i64 0, .slice none 0 0, .slice none 0 0, .slice none 0 0, .int .i64 0] := by rw [← ea2]; exact blk_new W1 _ 33 _ f2
  have q1_2 : p1 < p2 := by rw [← f2]; exact b1.lt
  replace b1 := b1.on ka2
  have kk0 := kk
  replace kk := kk.trans (ka2.mono kk.size)
  have hp2 : w.heap.size ≤ p2 := by rw [← f2]; exact kk0.size
  clear ka2 kk0
  by_cases hB : 12 < x.bg.n
  · by_cases hC : 8 < x.sn.n
    · by_cases hA : 12 < x.se.n
      · rw [if_pos hA, if_pos hB, if_pos hC]
        have tbg : decide ((12 : Int) < (x.bg.n : Int)) = true := decide_eq_true (by omega)
        have tsn : decide ((8 : Int) < (x.sn.n : Int)) = true := decide_eq_true (by omega)
        have tse : decide ((12 : Int) < (x.se.n : Int)) = true := decide_eq_true (by omega)
        have c2_1_19 : W2.cell? ⟨p1, 19, none⟩ = some (.slice x.bg.A x.bg.n x.bg.cap) := b1.cell 19
        have fr2_1_19 := b1.free 19
        have hcutbg : ∀ W, (Instr.slice 31 (.slice x.bg.A x.bg.n x.bg.cap) none (some (.int .i64 12)) none).run Tryz.prog W = .ok (.slice x.bg.A 12 x.bg.cap) W := fun W => upto31 x.bg.A x.bg.n x.bg.cap 12 (by omega) aB W
        obtain ⟨W3, es3⟩ : ∃ W, W2.setCell ⟨p1, 19, none⟩ (.slice x.bg.A 12 x.bg.cap) = W := ⟨_, rfl⟩
        replace b2 := set_far b2 es3 (by omega)
        replace b1 : Blk W3 p1 33 (x.put x.se ⟨x.bg.A, 12, x.bg.cap⟩ x.sn).cs.toArray := set_named b1 es3 rfl
        replace kk := kk.trans (set_below es3 hp1 kk.size)
        have c3_1_20 : W3.cell? ⟨p1, 20, none⟩ = some (.slice x.sn.A x.sn.n x.sn.cap) := b1.cell 20
        have fr3_1_20 := b1.free 20
        have hcutsn : ∀ W, (Instr.slice 28 (.slice x.sn.A x.sn.n x.sn.cap) none (some (.int .i64 8)) none).run Tryz.prog W = .ok (.slice x.sn.A 8 x.sn.cap) W := fun W => upto28 x.sn.A x.sn.n x.sn.cap 8 (by omega) aC W
        obtain ⟨W4, es4⟩ : ∃ W, W3.setCell ⟨p1, 20, none⟩ (.slice x.sn.A 8 x.sn.cap) = W := ⟨_, rfl⟩
        replace b2 := set_far b2 es4 (by omega)
        replace b1 : Blk W4 p1 33 (x.put x.se ⟨x.bg.A, 12, x.bg.cap⟩ ⟨x.sn.A, 8, x.sn.cap⟩).cs.toArray := set_named b1 es4 rfl
        replace kk := kk.trans (set_below es4 hp1 kk.size)
        have c4_1_18 : W4.cell? ⟨p1, 18, none⟩ = some (.slice x.se.A x.se.n x.se.cap) := b1.cell 18
        have fr4_1_18 := b1.free 18
        have hcutse : ∀ W, (Instr.slice 28 (.slice x.se.A x.se.n x.se.cap) none (some (.int .i64 12)) none).run Tryz.prog W = .ok (.slice x.se.A 12 x.se.cap) W := fun W => upto28 x.se.A x.se.n x.se.cap 12 (by omega) aA W
        obtain ⟨W5, es5⟩ : ∃ W, W4.setCell ⟨p1, 18, none⟩ (.slice x.se.A 12 x.se.cap) = W := ⟨_, rfl⟩
        replace b2 := set_far b2 es5 (by omega)
        replace b1 : Blk W5 p1 33 (x.put ⟨x.se.A, 12, x.se.cap⟩ ⟨x.bg.A, 12, x.bg.cap⟩ ⟨x.sn.A, 8, x.sn.cap⟩).cs.toArray := set_named b1 es5 rfl
        replace kk := kk.trans (set_below es5 hp1 kk.size)
        have lb1 := b1
        obtain ⟨W6, es6⟩ : ∃ W, W5.setRow p2 (x.put ⟨x.se.A, 12, x.se.cap⟩ ⟨x.bg.A, 12, x.bg.cap⟩ ⟨x.sn.A, 8, x.sn.cap⟩).cs.toArray = W := ⟨_, rfl⟩
        have bo2 := b2
        replace b1 := row_far b1 es6 (by omega)
        replace b2 : Blk W6 p2 33 (x.put ⟨x.se.A, 12, x.se.cap⟩ ⟨x.bg.A, 12, x.bg.cap⟩ ⟨x.sn.A, 8, x.sn.cap⟩).cs.toArray := row_named b2 es6
        replace kk := kk.trans (row_below es6 hp2 kk.size)
        clear h mA mB mC rA rB rC aA aB aC
        go_enter Tryz.func6, Tryz.ntmps6
        go_wp2_with (first | ((with_reducible refine at_load 33 (.tmp 1) ?_); refine wpList_load_row rfl 33 (.tmp 1) rfl p1 rfl 33 (x.put ⟨x.se.A, 12, x.se.cap⟩ ⟨x.bg.A, 12, x.bg.cap⟩ ⟨x.sn.A, 8, x.sn.cap⟩).cs.toArray (0, 0) _ lb1 Tryz.underlying33 rfl (sizeT _) ?_) | ((with_reducible refine at_store 33 (.tmp 2) (.tmp 30) ?_); refine wpList_store_row rfl 33 (.tmp 2) (.tmp 30) rfl p2 (x.put ⟨x.se.A, 12, x.se.cap⟩ ⟨x.bg.A, 12, x.bg.cap⟩ ⟨x.sn.A, 8, x.sn.cap⟩).cs.toArray rfl rfl 33 #[.int .i64 0, .int .i64 0, .int .i64 0, .int .i64 0, .int .i64 0, .int .i64 0, .int .i64 0, .int .i64 0, .int .i64 0, .int .i64 0, .int .i64 0, .int .i64 0, .int .i64 0, .int .i64 0, .int .i64 0, .int .i64 0, .int .i64 0, .int .i64 0, .slice none 0 0, .slice none 0 0, .slice none 0 0, .int .i64 0] bo2 (sizeT _) rfl (Th.onea _) ?_))
        rw [es6]
        refine bodyPost_ret (results_cell_row (cs := (x.put ⟨x.se.A, 12, x.se.cap⟩ ⟨x.bg.A, 12, x.bg.cap⟩ ⟨x.sn.A, 8, x.sn.cap⟩).cs.toArray) rfl _ _ p2 33 (0, 0) _ rfl b2 Tryz.underlying33 rfl (sizeT _)) rfl ?_
        exact ⟨rfl, kk⟩
      · rw [if_neg hA, if_pos hB, if_pos hC]
        have tbg : decide ((12 : Int) < (x.bg.n : Int)) = true := decide_eq_true (by omega)
        have tsn : decide ((8 : Int) < (x.sn.n : Int)) = true := decide_eq_true (by omega)
        have tse : decide ((12 : Int) < (x.se.n : Int)) = false := decide_eq_false (by omega)
        have c2_1_19 : W2.cell? ⟨p1, 19, none⟩ = some (.slice x.bg.A x.bg.n x.bg.cap) := b1.cell 19
        have fr2_1_19 := b1.free 19
        have hcutbg : ∀ W, (Instr.slice 31 (.slice x.bg.A x.bg.n x.bg.cap) none (some (.int .i64 12)) none).run Tryz.prog W = .ok (.slice x.bg.A 12 x.bg.cap) W := fun W => upto31 x.bg.A x.bg.n x.bg.cap 12 (by omega) aB W
        obtain ⟨W3, es3⟩ : ∃ W, W2.setCell ⟨p1, 19, none⟩ (.slice x.bg.A 12 x.bg.cap) = W := ⟨_, rfl⟩
        replace b2 := set_far b2 es3 (by omega)
        replace b1 : Blk W3 p1 33 (x.put x.se ⟨x.bg.A, 12, x.bg.cap⟩ x.sn).cs.toArray := set_named b1 es3 rfl
        replace kk := kk.trans (set_below es3 hp1 kk.size)
        have c3_1_20 : W3.cell? ⟨p1, 20, none⟩ = some (.slice x.sn.A x.sn.n x.sn.cap) := b1.cell 20
        have fr3_1_20 := b1.free 20
        have hcutsn : ∀ W, (Instr.slice 28 (.slice x.sn.A x.sn.n x.sn.cap) none (some (.int .i64 8)) none).run Tryz.prog W = .ok (.slice x.sn.A 8 x.sn.cap) W := fun W => upto28 x.sn.A x.sn.n x.sn.cap 8 (by omega) aC W
        obtain ⟨W4, es4⟩ : ∃ W, W3.setCell ⟨p1, 20, none⟩ (.slice x.sn.A 8 x.sn.cap) = W := ⟨_, rfl⟩
        replace b2 := set_far b2 es4 (by omega)
        replace b1 : Blk W4 p1 33 (x.put x.se ⟨x.bg.A, 12, x.bg.cap⟩ ⟨x.sn.A, 8, x.sn.cap⟩).cs.toArray := set_named b1 es4 rfl
        replace kk := kk.trans (set_below es4 hp1 kk.size)
        have c4_1_18 : W4.cell? ⟨p1, 18, none⟩ = some (.slice x.se.A x.se.n x.se.cap) := b1.cell 18
        have fr4_1_18 := b1.free 18
        have lb1 := b1
        obtain ⟨W5, es5⟩ : ∃ W, W4.setRow p2 (x.put x.se ⟨x.bg.A, 12, x.bg.cap⟩ ⟨x.sn.A, 8, x.sn.cap⟩).cs.toArray = W := ⟨_, rfl⟩
        have bo2 := b2
        replace b1 := row_far b1 es5 (by omega)
        replace b2 : Blk W5 p2 33 (x.put x.se ⟨x.bg.A, 12, x.bg.cap⟩ ⟨x.sn.A, 8, x.sn.cap⟩).cs.toArray := row_named b2 es5
        replace kk := kk.trans (row_below es5 hp2 kk.size)
        clear h mA mB mC rA rB rC aA aB aC
        go_enter Tryz.func6, Tryz.ntmps6
        go_wp2_with (first | ((with_reducible refine at_load 33 (.tmp 1) ?_); refine wpList_load_row rfl 33 (.tmp 1) rfl p1 rfl 33 (x.put x.se ⟨x.bg.A, 12, x.bg.cap⟩ ⟨x.sn.A, 8, x.sn.cap⟩).cs.toArray (0, 0) _ lb1 Tryz.underlying33 rfl (sizeT _) ?_) | ((with_reducible refine at_store 33 (.tmp 2) (.tmp 30) ?_); refine wpList_store_row rfl 33 (.tmp 2) (.tmp 30) rfl p2 (x.put x.se ⟨x.bg.A, 12, x.bg.cap⟩ ⟨x.sn.A, 8, x.sn.cap⟩).cs.toArray rfl rfl 33 #[.int .i64 0, .int .i64 0, .int .i64 0, .int .i64 0, .int .i64 0, .int .i64 0, .int .i64 0, .int .i64 0, .int .i64 0, .int .i64 0, .int .i64 0, .int .i64 0, .int .i64 0, .int .i64 0, .int .i64 0, .int .i64 0, .int .i64 0, .int .i64 0, .slice none 0 0, .slice none 0 0, .slice none 0 0, .int .i64 0] bo2 (sizeT _) rfl (Th.onea _) ?_))
        rw [es5]
        refine bodyPost_ret (results_cell_row (cs := (x.put x.se ⟨x.bg.A, 12, x.bg.cap⟩ ⟨x.sn.A, 8, x.sn.cap⟩).cs.toArray) rfl _ _ p2 33 (0, 0) _ rfl b2 Tryz.underlying33 rfl (sizeT _)) rfl ?_
        exact ⟨rfl, kk⟩
    · by_cases hA : 12 < x.se.n
      · rw [if_pos hA, if_pos hB, if_neg hC]
        have tbg : decide ((12 : Int) < (x.bg.n : Int)) = true := decide_eq_true (by omega)
        have tsn : decide ((8 : Int) < (x.sn.n : Int)) = false := decide_eq_false (by omega)
        have tse : decide ((12 : Int) < (x.se.n : Int)) = true := decide_eq_true (by omega)
        have c2_1_19 : W2.cell? ⟨p1, 19, none⟩ = some (.slice x.bg.A x.bg.n x.bg.cap) := b1.cell 19
        have fr2_1_19 := b1.free 19
        have hcutbg : ∀ W, (Instr.slice 31 (.slice x.bg.A x.bg.n x.bg.cap) none (some (.int .i64 12)) none).run Tryz.prog W = .ok (.slice x.bg.A 12 x.bg.cap) W := fun W => upto31 x.bg.A x.bg.n x.bg.cap 12 (by omega) aB W
        obtain ⟨W3, es3⟩ : ∃ W, W2.setCell ⟨p1, 19, none⟩ (.slice x.bg.A 12 x.bg.cap) = W := ⟨_, rfl⟩
        replace b2 := set_far b2 es3 (by omega)
        replace b1 : Blk W3 p1 33 (x.put x.se ⟨x.bg.A, 12, x.bg.cap⟩ x.sn).cs.toArray := set_named b1 es3 rfl
        replace kk := kk.trans (set_below es3 hp1 kk.size)
        have c3_1_20 : W3.cell? ⟨p1, 20, none⟩ = some (.slice x.sn.A x.sn.n x.sn.cap) := b1.cell 20
        have fr3_1_20 := b1.free 20
        have c3_1_18 : W3.cell? ⟨p1, 18, none⟩ = some (.slice x.se.A x.se.n x.se.cap) := b1.cell 18
        have fr3_1_18 := b1.free 18
        have hcutse : ∀ W, (Instr.slice 28 (.slice x.se.A x.se.n x.se.cap) none (some (.int .i64 12)) none).run Tryz.prog W = .ok (.slice x.se.A 12 x.se.cap) W := fun W => upto28 x.se.A x.se.n x.se.cap 12 (by omega) aA W
        obtain ⟨W4, es4⟩ : ∃ W, W3.setCell ⟨p1, 18, none⟩ (.slice x.se.A 12 x.se.cap) = W := ⟨_, rfl⟩
        replace b2 := set_far b2 es4 (by omega)
        replace b1 : Blk W4 p1 33 (x.put ⟨x.se.A, 12, x.se.cap⟩ ⟨x.bg.A, 12, x.bg.cap⟩ x.sn).cs.toArray := set_named b1 es4 rfl
        replace kk := kk.trans (set_below es4 hp1 kk.size)
        have lb1 := b1
        obtain ⟨W5, es5⟩ : ∃ W, W4.setRow p2 (x.put ⟨x.se.A, 12, x.se.cap⟩ ⟨x.bg.A, 12, x.bg.cap⟩ x.sn).cs.toArray = W := ⟨_, rfl⟩
        have bo2 := b2
        replace b1 := row_far b1 es5 (by omega)
        replace b2 : Blk W5 p2 33 (x.put ⟨x.se.A, 12, x.se.cap⟩ ⟨x.bg.A, 12, x.bg.cap⟩ x.sn).cs.toArray := row_named b2 es5
        replace kk := kk.trans (row_below es5 hp2 kk.size)
        clear h mA mB mC rA rB rC aA aB aC
        go_enter Tryz.func6, Tryz.ntmps6
        go_wp2_with (first | ((with_reducible refine at_load 33 (.tmp 1) ?_); refine wpList_load_row rfl 33 (.tmp 1) rfl p1 rfl 33 (x.put ⟨x.se.A, 12, x.se.cap⟩ ⟨x.bg.A, 12, x.bg.cap⟩ x.sn).cs.toArray (0, 0) _ lb1 Tryz.underlying33 rfl (sizeT _) ?_) | ((with_reducible refine at_store 33 (.tmp 2) (.tmp 30) ?_); refine wpList_store_row rfl 33 (.tmp 2) (.tmp 30) rfl p2 (x.put ⟨x.se.A, 12, x.se.cap⟩ ⟨x.bg.A, 12, x.bg.cap⟩ x.sn).cs.toArray rfl rfl 33 #[.int .i64 0, .int .i64 0, .int .i64 0, .int .i64 0, .int .i64 0, .int .i64 0, .int .i64 0, .int .i64 0, .int .i64 0, .int .i64 0, .int .i64 0, .int .i64 0, .int .i64 0, .int .i64 0, .int .i64 0, .int .i64 0, .int .i64 0, .int .i64 0, .slice none 0 0, .slice none 0 0, .slice none 0 0, .int .i64 0] bo2 (sizeT _) rfl (Th.onea _) ?_))
        rw [es5]
        refine bodyPost_ret (results_cell_row (cs := (x.put ⟨x.se.A, 12, x.se.cap⟩ ⟨x.bg.A, 12, x.bg.cap⟩ x.sn).cs.toArray) rfl _ _ p2 33 (0, 0) _ rfl b2 Tryz.underlying33 rfl (sizeT _)) rfl ?_
        exact ⟨rfl, kk⟩
      · rw [if_neg hA, if_pos hB, if_neg hC]
        have tbg : decide ((12 : Int) < (x.bg.n : Int)) = true := decide_eq_true (by omega)
        have tsn : decide ((8 : Int) < (x.sn.n : Int)) = false := decide_eq_false (by omega)
        have tse : decide ((12 : Int) < (x.se.n : Int)) = false := decide_eq_false (by omega)
        have c2_1_19 : W2.cell? ⟨p1, 19, none⟩ = some (.slice x.bg.A x.bg.n x.bg.cap) := b1.cell 19
        have fr2_1_19 := b1.free 19
        have hcutbg : ∀ W, (Instr.slice 31 (.slice x.bg.A x.bg.n x.bg.cap) none (some (.int .i64 12)) none).run Tryz.prog W = .ok (.slice x.bg.A 12 x.bg.cap) W := fun W => upto31 x.bg.A x.bg.n x.bg.cap 12 (by omega) aB W
        obtain ⟨W3, es3⟩ : ∃ W, W2.setCell ⟨p1, 19, none⟩ (.slice x.bg.A 12 x.bg.cap) = W := ⟨_, rfl⟩
        replace b2 := set_far b2 es3 (by omega)
        replace b1 : Blk W3 p1 33 (x.put x.se ⟨x.bg.A, 12, x.bg.cap⟩ x.sn).cs.toArray := set_named b1 es3 rfl
        replace kk := kk.trans (set_below es3 hp1 kk.size)
        have c3_1_20 : W3.cell? ⟨p1, 20, none⟩ = some (.slice x.sn.A x.sn.n x.sn.cap) := b1.cell 20
        have fr3_1_20 := b1.free 20
        have c3_1_18 : W3.cell? ⟨p1, 18, none⟩ = some (.slice x.se.A x.se.n x.se.cap) := b1.cell 18
        have fr3_1_18 := b1.free 18
        have lb1 := b1
        obtain ⟨W4, es4⟩ : ∃ W, W3.setRow p2 (x.put x.se ⟨x.bg.A, 12, x.bg.cap⟩ x.sn).cs.toArray = W := ⟨_, rfl⟩
        have bo2 := b2
        replace b1 := row_far b1 es4 (by omega)
        replace b2 : Blk W4 p2 33 (x.put x.se ⟨x.bg.A, 12, x.bg.cap⟩ x.sn).cs.toArray := row_named b2 es4
        replace kk := kk.trans (row_below es4 hp2 kk.size)
        clear h mA mB mC rA rB rC aA aB aC
        go_enter Tryz.func6, Tryz.ntmps6
        go_wp2_with (first | ((with_reducible refine at_load 33 (.tmp 1) ?_); refine wpList_load_row rfl 33 (.tmp 1) rfl p1 rfl 33 (x.put x.se ⟨x.bg.A, 12, x.bg.cap⟩ x.sn).cs.toArray (0, 0) _ lb1 Tryz.underlying33 rfl (sizeT _) ?_) | ((with_reducible refine at_store 33 (.tmp 2) (.tmp 30) ?_); refine wpList_store_row rfl 33 (.tmp 2) (.tmp 30) rfl p2 (x.put x.se ⟨x.bg.A, 12, x.bg.cap⟩ x.sn).cs.toArray rfl rfl 33 #[.int .i64 0, .int .i64 0, .int .i64 0, .int .i64 0, .int .i64 0, .int .i64 0, .int .i64 0, .int .i64 0, .int .i64 0, .int .i64 0, .int .i64 0, .int .i64 0, .int .i64 0, .int .i64 0, .int .i64 0, .int .i64 0, .int .i64 0, .int .i64 0, .slice none 0 0, .slice none 0 0, .slice none 0 0, .int .i64 0] bo2 (sizeT _) rfl (Th.onea _) ?_))
        rw [es4]
        refine bodyPost_ret (results_cell_row (cs := (x.put x.se ⟨x.bg.A, 12, x.bg.cap⟩ x.sn).cs.toArray) rfl _ _ p2 33 (0, 0) _ rfl b2 Tryz.underlying33 rfl (sizeT _)) rfl ?_
        exact ⟨rfl, kk⟩
  · by_cases hC : 8 < x.sn.n
    · by_cases hA : 12 < x.se.n
      · rw [if_pos hA, if_neg hB, if_pos hC]
        have tbg : decide ((12 : Int) < (x.bg.n : Int)) = false := decide_eq_false (by omega)
        have tsn : decide ((8 : Int) < (x.sn.n : Int)) = true := decide_eq_true (by omega)
        have tse : decide ((12 : Int) < (x.se.n : Int)) = true := decide_eq_true (by omega)
        have c2_1_19 : W2.cell? ⟨p1, 19, none⟩ = some (.slice x.bg.A x.bg.n x.bg.cap) := b1.cell 19
        have fr2_1_19 := b1.free 19
        have c2_1_20 : W2.cell? ⟨p1, 20, none⟩ = some (.slice x.sn.A x.sn.n x.sn.cap) := b1.cell 20
        have fr2_1_20 := b1.free 20
        have hcutsn : ∀ W, (Instr.slice 28 (.slice x.sn.A x.sn.n x.sn.cap) none (some (.int .i64 8)) none).run Tryz.prog W = .ok (.slice x.sn.A 8 x.sn.cap) W := fun W => upto28 x.sn.A x.sn.n x.sn.cap 8 (by omega) aC W
        obtain ⟨W3, es3⟩ : ∃ W, W2.setCell ⟨p1, 20, none⟩ (.slice x.sn.A 8 x.sn.cap) = W := ⟨_, rfl⟩
        replace b2 := set_far b2 es3 (by omega)
        replace b1 : Blk W3 p1 33 (x.put x.se x.bg ⟨x.sn.A, 8, x.sn.cap⟩).cs.toArray := set_named b1 es3 rfl
        replace kk := kk.trans (set_below es3 hp1 kk.size)
        have c3_1_18 : W3.cell? ⟨p1, 18, none⟩ = some (.slice x.se.A x.se.n x.se.cap) := b1.cell 18
        have fr3_1_18 := b1.free 18
        have hcutse : ∀ W, (Instr.slice 28 (.slice x.se.A x.se.n x.se.cap) none (some (.int .i64 12)) none).run Tryz.prog W = .ok (.slice x.se.A 12 x.se.cap) W := fun W => upto28 x.se.A x.se.n x.se.cap 12 (by omega) aA W
        obtain ⟨W4, es4⟩ : ∃ W, W3.setCell ⟨p1, 18, none⟩ (.slice x.se.A 12 x.se.cap) = W := ⟨_, rfl⟩
        replace b2 := set_far b2 es4 (by omega)
        replace b1 : Blk W4 p1 33 (x.put ⟨x.se.A, 12, x.se.cap⟩ x.bg ⟨x.sn.A, 8, x.sn.cap⟩).cs.toArray := set_named b1 es4 rfl
        replace kk := kk.trans (set_below es4 hp1 kk.size)
        have lb1 := b1
        obtain ⟨W5, es5⟩ : ∃ W, W4.setRow p2 (x.put ⟨x.se.A, 12, x.se.cap⟩ x.bg ⟨x.sn.A, 8, x.sn.cap⟩).cs.toArray = W := ⟨_, rfl⟩
        have bo2 := b2
        replace b1 := row_far b1 es5 (by omega)
        replace b2 : Blk W5 p2 33 (x.put ⟨x.se.A, 12, x.se.cap⟩ x.bg ⟨x.sn.A, 8, x.sn.cap⟩).cs.toArray := row_named b2 es5
        replace kk := kk.trans (row_below es5 hp2 kk.size)
        clear h mA mB mC rA rB rC aA aB aC
        go_enter Tryz.func6, Tryz.ntmps6
        go_wp2_with (first | ((with_reducible refine at_load 33 (.tmp 1) ?_); refine wpList_load_row rfl 33 (.tmp 1) rfl p1 rfl 33 (x.put ⟨x.se.A, 12, x.se.cap⟩ x.bg ⟨x.sn.A, 8, x.sn.cap⟩).cs.toArray (0, 0) _ lb1 Tryz.underlying33 rfl (sizeT _) ?_) | ((with_reducible refine at_store 33 (.tmp 2) (.tmp 30) ?_); refine wpList_store_row rfl 33 (.tmp 2) (.tmp 30) rfl p2 (x.put ⟨x.se.A, 12, x.se.cap⟩ x.bg ⟨x.sn.A, 8, x.sn.cap⟩).cs.toArray rfl rfl 33 #[.int .i64 0, .int .i64 0, .int .i64 0, .int .i64 0, .int .i64 0, .int .i64 0, .int .i64 0, .int .i64 0, .int .i64 0, .int .i64 0, .int .i64 0, .int .i64 0, .int .i64 0, .int .i64 0, .int .i64 0, .int .i64 0, .int .i64 0, .int .i64 0, .slice none 0 0, .slice none 0 0, .slice none 0 0, .int .i64 0] bo2 (sizeT _) rfl (Th.onea _) ?_))
        rw [es5]
        refine bodyPost_ret (results_cell_row (cs := (x.put ⟨x.se.A, 12, x.se.cap⟩ x.bg ⟨x.sn.A, 8, x.sn.cap⟩).cs.toArray) rfl _ _ p2 33 (0, 0) _ rfl b2 Tryz.underlying33 rfl (sizeT _)) rfl ?_
        exact ⟨rfl, kk⟩
      · rw [if_neg hA, if_neg hB, if_pos hC]
        have tbg : decide ((12 : Int) < (x.bg.n : Int)) = false := decide_eq_false (by omega)
        have tsn : decide ((8 : Int) < (x.sn.n : Int)) = true := decide_eq_true (by omega)
        have tse : decide ((12 : Int) < (x.se.n : Int)) = false := decide_eq_false (by omega)
        have c2_1_19 : W2.cell? ⟨p1, 19, none⟩ = some (.slice x.bg.A x.bg.n x.bg.cap) := b1.cell 19
        have fr2_1_19 := b1.free 19
        have c2_1_20 : W2.cell? ⟨p1, 20, none⟩ = some (.slice x.sn.A x.sn.n x.sn.cap) := b1.cell 20
        have fr2_1_20 := b1.free 20
        have hcutsn : ∀ W, (Instr.slice 28 (.slice x.sn.A x.sn.n x.sn.cap) none (some (.int .i64 8)) none).run Tryz.prog W = .ok (.slice x.sn.A 8 x.sn.cap) W := fun W => upto28 x.sn.A x.sn.n x.sn.cap 8 (by omega) aC W
        obtain ⟨W3, es3⟩ : ∃ W, W2.setCell ⟨p1, 20, none⟩ (.slice x.sn.A 8 x.sn.cap) = W := ⟨_, rfl⟩
        replace b2 := set_far b2 es3 (by omega)
        replace b1 : Blk W3 p1 33 (x.put x.se x.bg ⟨x.sn.A, 8, x.sn.cap⟩).cs.toArray := set_named b1 es3 rfl
        replace kk := kk.trans (set_below es3 hp1 kk.size)
        have c3_1_18 : W3.cell? ⟨p1, 18, none⟩ = some (.slice x.se.A x.se.n x.se.cap) := b1.cell 18
        have fr3_1_18 := b1.free 18
        have lb1 := b1
        obtain ⟨W4, es4⟩ : ∃ W, W3.setRow p2 (x.put x.se x.bg ⟨x.sn.A, 8, x.sn.cap⟩).cs.toArray = W := ⟨_, rfl⟩
        have bo2 := b2
        replace b1 := row_far b1 es4 (by omega)
        replace b2 : Blk W4 p2 33 (x.put x.se x.bg ⟨x.sn.A, 8, x.sn.cap⟩).cs.toArray := row_named b2 es4
        replace kk := kk.trans (row_below es4 hp2 kk.size)
        clear h mA mB mC rA rB rC aA aB aC
        go_enter Tryz.func6, Tryz.ntmps6
        go_wp2_with (first | ((with_reducible refine at_load 33 (.tmp 1) ?_); refine wpList_load_row rfl 33 (.tmp 1) rfl p1 rfl 33 (x.put x.se x.bg ⟨x.sn.A, 8, x.sn.cap⟩).cs.toArray (0, 0) _ lb1 Tryz.underlying33 rfl (sizeT _) ?_) | ((with_reducible refine at_store 33 (.tmp 2) (.tmp 30) ?_); refine wpList_store_row rfl 33 (.tmp 2) (.tmp 30) rfl p2 (x.put x.se x.bg ⟨x.sn.A, 8, x.sn.cap⟩).cs.toArray rfl rfl 33 #[.int .i64 0, .int .i64 0, .int .i64 0, .int .i64 0, .int .i64 0, .int .i64 0, .int .i64 0, .int .i64 0, .int .i64 0, .int .i64 0, .int .i64 0, .int .i64 0, .int .i64 0, .int .i64 0, .int .i64 0, .int .i64 0, .int .i64 0, .int .i64 0, .slice none 0 0, .slice none 0 0, .slice none 0 0, .int .i64 0] bo2 (sizeT _) rfl (Th.onea _) ?_))
        rw [es4]
        refine bodyPost_ret (results_cell_row (cs := (x.put x.se x.bg ⟨x.sn.A, 8, x.sn.cap⟩).cs.toArray) rfl _ _ p2 33 (0, 0) _ rfl b2 Tryz.underlying33 rfl (sizeT _)) rfl ?_
        exact ⟨rfl, kk⟩
    · by_cases hA : 12 < x.se.n
      · rw [if_pos hA, if_neg hB, if_neg hC]
        have tbg : decide ((12 : Int) < (x.bg.n : Int)) = false := decide_eq_false (by omega)
        have tsn : decide ((8 : Int) < (x.sn.n : Int)) = false := decide_eq_false (by omega)
        have tse : decide ((12 : Int) < (x.se.n : Int)) = true := decide_eq_true (by omega)
        have c2_1_19 : W2.cell? ⟨p1, 19, none⟩ = some (.slice x.bg.A x.bg.n x.bg.cap) := b1.cell 19
        have fr2_1_19 := b1.free 19
        have c2_1_20 : W2.cell? ⟨p1, 20, none⟩ = some (.slice x.sn.A x.sn.n x.sn.cap) := b1.cell 20
        have fr2_1_20 := b1.free 20
        have c2_1_18 : W2.cell? ⟨p1, 18, none⟩ = some (.slice x.se.A x.se.n x.se.cap) := b1.cell 18
        have fr2_1_18 := b1.free 18
        have hcutse : ∀ W, (Instr.slice 28 (.slice x.se.A x.se.n x.se.cap) none (some (.int .i64 12)) none).run Tryz.prog W = .ok (.slice x.se.A 12 x.se.cap) W := fun W => upto28 x.se.A x.se.n x.se.cap 12 (by omega) aA W
        obtain ⟨W3, es3⟩ : ∃ W, W2.setCell ⟨p1, 18, none⟩ (.slice x.se.A 12 x.se.cap) = W := ⟨_, rfl⟩
        replace b2 := set_far b2 es3 (by omega)
        replace b1 : Blk W3 p1 33 (x.put ⟨x.se.A, 12, x.se.cap⟩ x.bg x.sn).cs.toArray := set_named b1 es3 rfl
        replace kk := kk.trans (set_below es3 hp1 kk.size)
        have lb1 := b1
        obtain ⟨W4, es4⟩ : ∃ W, W3.setRow p2 (x.put ⟨x.se.A, 12, x.se.cap⟩ x.bg x.sn).cs.toArray = W := ⟨_, rfl⟩
        have bo2 := b2
        replace b1 := row_far b1 es4 (by omega)
        replace b2 : Blk W4 p2 33 (x.put ⟨x.se.A, 12, x.se.cap⟩ x.bg x.sn).cs.toArray := row_named b2 es4
        replace kk := kk.trans (row_below es4 hp2 kk.size)
        clear h mA mB mC rA rB rC aA aB aC
        go_enter Tryz.func6, Tryz.ntmps6
        go_wp2_with (first | ((with_reducible refine at_load 33 (.tmp 1) ?_); refine wpList_load_row rfl 33 (.tmp 1) rfl p1 rfl 33 (x.put ⟨x.se.A, 12, x.se.cap⟩ x.bg x.sn).cs.toArray (0, 0) _ lb1 Tryz.underlying33 rfl (sizeT _) ?_) | ((with_reducible refine at_store 33 (.tmp 2) (.tmp 30) ?_); refine wpList_store_row rfl 33 (.tmp 2) (.tmp 30) rfl p2 (x.put ⟨x.se.A, 12, x.se.cap⟩ x.bg x.sn).cs.toArray rfl rfl 33 #[.int .i64 0, .int .i64 0, .int .i64 0, .int .i64 0, .int .i64 0, .int .i64 0, .int .i64 0, .int .i64 0, .int .i64 0, .int .i64 0, .int .i64 0, .int .i64 0, .int .i64 0, .int .i64 0, .int .i64 0, .int .i64 0, .int .i64 0, .int .i64 0, .slice none 0 0, .slice none 0 0, .slice none 0 0, .int .i64 0] bo2 (sizeT _) rfl (Th.onea _) ?_))
        rw [es4]
        refine bodyPost_ret (results_cell_row (cs := (x.put ⟨x.se.A, 12, x.se.cap⟩ x.bg x.sn).cs.toArray) rfl _ _ p2 33 (0, 0) _ rfl b2 Tryz.underlying33 rfl (sizeT _)) rfl ?_
        exact ⟨rfl, kk⟩
      · rw [if_neg hA, if_neg hB, if_neg hC]
        have tbg : decide ((12 : Int) < (x.bg.n : Int)) = false := decide_eq_false (by omega)
        have tsn : decide ((8 : Int) < (x.sn.n : Int)) = false := decide_eq_false (by omega)
        have tse : decide ((12 : Int) < (x.se.n : Int)) = false := decide_eq_false (by omega)
        have c2_1_19 : W2.cell? ⟨p1, 19, none⟩ = some (.slice x.bg.A x.bg.n x.bg.cap) := b1.cell 19
        have fr2_1_19 := b1.free 19
        have c2_1_20 : W2.cell? ⟨p1, 20, none⟩ = some (.slice x.sn.A x.sn.n x.sn.cap) := b1.cell 20
        have fr2_1_20 := b1.free 20
        have c2_1_18 : W2.cell? ⟨p1, 18, none⟩ = some (.slice x.se.A x.se.n x.se.cap) := b1.cell 18
        have fr2_1_18 := b1.free 18
        have lb1 := b1
        obtain ⟨W3, es3⟩ : ∃ W, W2.setRow p2 (x.put x.se x.bg x.sn).cs.toArray = W := ⟨_, rfl⟩
        have bo2 := b2
        replace b1 := row_far b1 es3 (by omega)
        replace b2 : Blk W3 p2 33 (x.put x.se x.bg x.sn).cs.toArray := row_named b2 es3
        replace kk := kk.trans (row_below es3 hp2 kk.size)
        clear h mA mB mC rA rB rC aA aB aC
        go_enter Tryz.func6, Tryz.ntmps6
        go_wp2_with (first | ((with_reducible refine at_load 33 (.tmp 1) ?_); refine wpList_load_row rfl 33 (.tmp 1) rfl p1 rfl 33 (x.put x.se x.bg x.sn).cs.toArray (0, 0) _ lb1 Tryz.underlying33 rfl (sizeT _) ?_) | ((with_reducible refine at_store 33 (.tmp 2) (.tmp 30) ?_); refine wpList_store_row rfl 33 (.tmp 2) (.tmp 30) rfl p2 (x.put x.se x.bg x.sn).cs.toArray rfl rfl 33 #[.int .i64 0, .int .i64 0, .int .i64 0, .int .i64 0, .int .i64 0, .int .i64 0, .int .i64 0, .int .i64 0, .int .i64 0, .int .i64 0, .int .i64 0, .int .i64 0, .int .i64 0, .int .i64 0, .int .i64 0, .int .i64 0, .int .i64 0, .int .i64 0, .slice none 0 0, .slice none 0 0, .slice none 0 0, .int .i64 0] bo2 (sizeT _) rfl (Th.onea _) ?_))
        rw [es3]
        refine bodyPost_ret (results_cell_row (cs := (x.put x.se x.bg x.sn).cs.toArray) rfl _ _ p2 33 (0, 0) _ rfl b2 Tryz.underlying33 rfl (sizeT _)) rfl ?_
        exact ⟨rfl, kk⟩
end Go.Proofs.YtfadfdfpocpelaaGreatDoor
