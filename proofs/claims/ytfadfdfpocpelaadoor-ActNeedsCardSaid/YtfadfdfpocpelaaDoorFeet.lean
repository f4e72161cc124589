/- What an act that reads through a pointer touches; what an act needs. Conditions: those that each row names. -/
import Derived.Test.YtfadfdfpocpelaaDoorMicro
import Derived.Test.YtfadfdfpocpelaaDoorFOf
namespace Go.Proofs.YtfadfdfpocpelaaDoor
set_option linter.unusedSimpArgs false
set_option linter.unusedVariables false
open Go.RowKit Go.ChangeShapes Go.WideShapes

set_option maxRecDepth 100000 in
set_option maxHeartbeats 4000000 in
theorem room_any (a : Ac) (w : World) : Calls Tryd.prog 6 #[.agg a.cs.toArray] w fun e w' => e = .returned (.bool (a.k == 3)) ∧ Below w.heap.size w w' := by
  obtain ⟨p1, f1⟩ : ∃ p, w.heap.size = p := ⟨_, rfl⟩
  obtain ⟨W1, ea1⟩ : ∃ W, w.alloc (.cells a.cs.toArray 27) = W := ⟨_, rfl⟩
  have ka1 : Below w.heap.size w W1 := by rw [← ea1]; exact (Below.refl _ w).alloc (Nat.le_refl _) _
  have b1 : Blk W1 p1 27 a.cs.toArray := by rw [← ea1]; exact blk_new w _ 27 _ f1
  have kk : Below w.heap.size w W1 := ka1
  have hp1 : w.heap.size ≤ p1 := Nat.le_of_eq f1
  clear ka1
  have c1_1_0 : W1.cell? ⟨p1, 0, none⟩ = some (.int .i64 a.k) := b1.cell 0
  go_enter Tryd.func6, Tryd.ntmps6
  go_wp2_with fail
  go_ret
  first | exact ⟨rfl, kk⟩ | (rw [f1] at kk; exact ⟨rfl, kk⟩)
set_option maxRecDepth 100000 in
set_option maxHeartbeats 4000000 in
theorem drained_any (a : Ac) (w : World) : Calls Tryd.prog 7 #[.agg a.cs.toArray] w fun e w' => e = .returned (.bool ((a.k == 4) || (a.k == 5))) ∧ Below w.heap.size w w' := by
  obtain ⟨b1_, e1⟩ : ∃ b, (a.k == 4) = b := ⟨_, rfl⟩
  obtain ⟨b2_, e2⟩ : ∃ b, (a.k == 5) = b := ⟨_, rfl⟩
  rw [e1, e2]
  obtain ⟨p1, f1⟩ : ∃ p, w.heap.size = p := ⟨_, rfl⟩
  obtain ⟨W1, ea1⟩ : ∃ W, w.alloc (.cells a.cs.toArray 27) = W := ⟨_, rfl⟩
  have ka1 : Below w.heap.size w W1 := by rw [← ea1]; exact (Below.refl _ w).alloc (Nat.le_refl _) _
  have b1 : Blk W1 p1 27 a.cs.toArray := by rw [← ea1]; exact blk_new w _ 27 _ f1
  have kk : Below w.heap.size w W1 := ka1
  have hp1 : w.heap.size ≤ p1 := Nat.le_of_eq f1
  clear ka1
  have c1_1_0 : W1.cell? ⟨p1, 0, none⟩ = some (.int .i64 a.k) := b1.cell 0
  cases b1_ with
  | true =>
    go_enter Tryd.func7, Tryd.ntmps7
    go_wp2_with fail
    go_ret
    first | exact ⟨rfl, kk⟩ | (rw [f1] at kk; exact ⟨rfl, kk⟩)
  | false =>
    go_enter Tryd.func7, Tryd.ntmps7
    go_wp2_with fail
    go_ret
    first | exact ⟨rfl, kk⟩ | (rw [f1] at kk; exact ⟨rfl, kk⟩)
set_option maxRecDepth 100000 in
set_option maxHeartbeats 4000000 in
theorem pointed_some (x : Wd) (h : 1 ≤ x.c) (w : World) : Calls Tryd.prog 37 #[.agg x.cs.toArray] w fun e w' => ∃ g, e = .returned (.slice (some ⟨g, 0, none⟩) 1 1) ∧ Blk w' g 3 #[.int .i64 x.c] ∧ Below w.heap.size w w' := by
  have m1 := is_any x
  rw [show decide (1 ≤ x.c) = true from decide_eq_true h] at m1
  obtain ⟨p1, f1⟩ : ∃ p, w.heap.size = p := ⟨_, rfl⟩
  obtain ⟨W1, ea1⟩ : ∃ W, w.alloc (.cells x.cs.toArray 25) = W := ⟨_, rfl⟩
  have ka1 : Below w.heap.size w W1 := by rw [← ea1]; exact (Below.refl _ w).alloc (Nat.le_refl _) _
  have b1 : Blk W1 p1 25 x.cs.toArray := by rw [← ea1]; exact blk_new w _ 25 _ f1
  have kk : Below w.heap.size w W1 := ka1
  have hp1 : w.heap.size ≤ p1 := Nat.le_of_eq f1
  clear ka1
  go_enter Tryd.func37, Tryd.ntmps37
  go_wp2_with (((with_reducible refine at_load 25 (.tmp 1) ?_); refine wpList_load_row rfl 25 (.tmp 1) rfl p1 rfl 25 x.cs.toArray (0, 0) _ b1 Tryd.underlying25 rfl size25 ?_))
  refine (m1 _).mono ?_
  rintro e W2 ⟨rfl, k1⟩
  replace b1 := b1.on k1
  replace kk := kk.trans (k1.mono kk.size)
  clear k1
  have c2_1_1 : W2.cell? ⟨p1, 1, none⟩ = some (.int .i64 x.c) := b1.cell 1
  obtain ⟨p2, f2⟩ : ∃ p, W2.heap.size = p := ⟨_, rfl⟩
  obtain ⟨W3, ea3⟩ : ∃ W, W2.alloc (.cells #[.int .i64 x.c] 3) = W := ⟨_, rfl⟩
  have ka3 : Below W2.heap.size W2 W3 := by rw [← ea3]; exact (Below.refl _ W2).alloc (Nat.le_refl _) _
  have b2 : Blk W3 p2 3 #[.int .i64 x.c] := by rw [← ea3]; exact blk_new W2 _ 3 _ f2
  have q1_2 : p1 < p2 := by rw [← f2]; exact b1.lt
  replace b1 := b1.on ka3
  have kk0 := kk
  replace kk := kk.trans (ka3.mono kk.size)
  have hp2 : w.heap.size ≤ p2 := by rw [← f2]; exact kk0.size
  clear ka3 kk0
  go_wp2_with fail
  go_ret
  exact ⟨p2, rfl, b2, kk⟩
set_option maxRecDepth 100000 in
set_option maxHeartbeats 4000000 in
theorem told_some (x : Pl) (h : x.k ≠ 0) (w : World) : Calls Tryd.prog 38 #[.agg x.cs.toArray] w fun e w' => ∃ g, e = .returned (.slice (some ⟨g, 0, none⟩) 1 1) ∧ Blk w' g 23 x.cs.toArray ∧ Below w.heap.size w w' := by
  obtain ⟨x0, x1, x2⟩ := x
  have t0 : (x0 == 0) = false := beq_eq_false_iff_ne.2 h
  show Calls Tryd.prog 38 #[.agg #[.int .i64 x0, .int .i64 x1, .int .i64 x2]] w fun e w' => ∃ g, e = .returned (.slice (some ⟨g, 0, none⟩) 1 1) ∧ Blk w' g 23 #[.int .i64 x0, .int .i64 x1, .int .i64 x2] ∧ Below w.heap.size w w'
  obtain ⟨p1, f1⟩ : ∃ p, w.heap.size = p := ⟨_, rfl⟩
  obtain ⟨W1, ea1⟩ : ∃ W, w.alloc (.cells #[.int .i64 x0, .int .i64 x1, .int .i64 x2] 23) = W := ⟨_, rfl⟩
  have ka1 : Below w.heap.size w W1 := by rw [← ea1]; exact (Below.refl _ w).alloc (Nat.le_refl _) _
  have b1 : Blk W1 p1 23 #[.int .i64 x0, .int .i64 x1, .int .i64 x2] := by rw [← ea1]; exact blk_new w _ 23 _ f1
  have kk : Below w.heap.size w W1 := ka1
  have hp1 : w.heap.size ≤ p1 := Nat.le_of_eq f1
  clear ka1
  have c1_1_0 : W1.cell? ⟨p1, 0, none⟩ = some (.int .i64 x0) := b1.cell 0
  have bq1 := b1
  obtain ⟨p2, f2⟩ : ∃ p, W1.heap.size = p := ⟨_, rfl⟩
  obtain ⟨W2, ea2⟩ : ∃ W, W1.alloc (.cells #[.int .i64 x0, .int .i64 x1, .int .i64 x2] 23) = W := ⟨_, rfl⟩
  have ka2 : Below W1.heap.size W1 W2 := by rw [← ea2]; exact (Below.refl _ W1).alloc (Nat.le_refl _) _
  have b2 : Blk W2 p2 23 #[.int .i64 x0, .int .i64 x1, .int .i64 x2] := by rw [← ea2]; exact blk_new W1 _ 23 _ f2
  have q1_2 : p1 < p2 := by rw [← f2]; exact b1.lt
  replace b1 := b1.on ka2
  have kk0 := kk
  replace kk := kk.trans (ka2.mono kk.size)
  have hp2 : w.heap.size ≤ p2 := by rw [← f2]; exact kk0.size
  clear ka2 kk0
  go_enter Tryd.func38, Tryd.ntmps38
  go_wp2_with (((with_reducible refine at_load 23 (.tmp 1) ?_); refine wpList_load_row rfl 23 (.tmp 1) rfl p1 rfl 23 #[.int .i64 x0, .int .i64 x1, .int .i64 x2] (0, 0) _ bq1 Tryd.underlying23 rfl size23 ?_))
  go_ret
  first | exact ⟨p2, rfl, b2, kk⟩ | (rw [f1] at kk; exact ⟨p2, rfl, b2, kk⟩)
theorem info23b : (Tryd.prog.info? 23).map (fun i => (i.zero, i.size, i.bytes)) = some (some (.agg noP.cs.toArray), 3, 24) := by kernel_rfl
set_option maxRecDepth 100000 in
set_option maxHeartbeats 4000000 in
theorem heads_one {w : World} {p0 : Nat} {c : Int} (b0 : Blk w p0 3 #[.int .i64 c]) : Calls Tryd.prog 36 #[.slice (some ⟨p0, 0, none⟩) 1 1] w fun e w' => ∃ A cap, e = .returned (.slice A 1 cap) ∧ w'.ownsRow w.heap.size 23 3 (.slice A 1 cap) 1 (flatP [⟨2, c, 0⟩]) ∧ Below w.heap.size w w' := by
  obtain ⟨i0, hi, hz0, hz1, hz2⟩ := info_parts info23b
  have HI := Lib.hid hi
  have HZ0 := Lib.hid hz0
  have HZ1 := Lib.hid hz1
  have HZ2 := Lib.hid hz2
  clear hi hz0 hz1 hz2
  have c0_0_0 : w.cell? ⟨p0, 0, none⟩ = some (.int .i64 c) := b0.cell 0
  go_enter Tryd.func36, Tryd.ntmps36
  go_wp2_with fail
  refine wp_loop_rounds 2 ?_
  rw [rounds_succ]
  have hs0 : w.heap.size ≤ w.heap.size := Nat.le_refl _
  obtain ⟨p1, f1⟩ : ∃ p, w.heap.size = p := ⟨_, rfl⟩
  obtain ⟨W1, ea1⟩ : ∃ W, w.alloc (.cells #[.int .i64 c] 3) = W := ⟨_, rfl⟩
  have ka1 : Below w.heap.size w W1 := by rw [← ea1]; exact (Below.refl _ w).alloc (Nat.le_refl _) _
  have b1 : Blk W1 p1 3 #[.int .i64 c] := by rw [← ea1]; exact blk_new w _ 3 _ f1
  go_wp2_with fail
  have dA : Calls Tryd.prog 26 #[.int .i64 2, .slice (some ⟨p1, 0, none⟩) 1 1] W1 fun e w' => e = .returned (.agg #[.int .i64 2, .int .i64 c, .int .i64 0]) ∧ Below W1.heap.size W1 w' := at1_any 2 c W1 b1
  refine dA.mono ?_
  rintro e W2 ⟨rfl, k1⟩
  have kk : Below w.heap.size w W2 := ka1.trans (k1.mono ka1.size)
  clear k1
  obtain ⟨p2, f2⟩ : ∃ p, W2.heap.size = p := ⟨_, rfl⟩
  obtain ⟨W3, ea3⟩ : ∃ W, W2.alloc (.cells #[.int .i64 2, .int .i64 c, .int .i64 0] 23) = W := ⟨_, rfl⟩
  have ka3 : Below W2.heap.size W2 W3 := by rw [← ea3]; exact (Below.refl _ W2).alloc (Nat.le_refl _) _
  have b3 : Blk W3 p2 23 #[.int .i64 2, .int .i64 c, .int .i64 0] := by rw [← ea3]; exact blk_new W2 _ 23 _ f2
  replace kk := kk.trans (ka3.mono kk.size)
  have hsz3 : W2.heap.size < W3.heap.size := by rw [f2]; exact b3.lt
  skip
  go_wp2_with ((at_builtin; refine wpList_append_lies W3 rfl (.tmp 12) (.tmp 16) 48 rfl w.heap.size 23 i0 _ 3 24 Tryd.underlying48 HI.out HZ0.out HZ1.out HZ2.out rfl (by decide) (.slice none 0 0) 0 [] rfl (World.ownsRow_nil _ _ _ _) ⟨p2, 0, none⟩ 1 1 (Pl.mk 2 c 0).cs rfl rfl (World.news_of_block (cs := #[.int .i64 2, .int .i64 c, .int .i64 0]) (t := 23) (fr := (0, 0)) b3) (Pl.one _) (by decide) (by unfold maxLen; omega) (by omega) (Nat.le_trans hs0 kk.size) W3.heap.size rfl ?_; intro g cap W4 ho hg hat hlt; have kk4 : Below w.heap.size w W4 := kk.grown hg kk.size (fun _ h => by cases h)))
  rw [rounds_succ]
  go_wp2_with fail
  go_ret
  exact ⟨some ⟨g, 0, none⟩, cap, rfl, ho, kk4⟩
end Go.Proofs.YtfadfdfpocpelaaDoor
