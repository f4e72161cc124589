/- Micros, threads held against each other, whatever they hold. Conditions: none. -/
import Derived.Test.YtfmkmmmaoiepmaaEq
namespace Go.Proofs.Ytfmkmmmaoiepmaa
set_option linter.unusedSimpArgs false
set_option linter.unusedVariables false
open Go.RowKit Go.ChangeShapes Go.WideShapes

theorem size36L (x : Th) : (Try.prog.info? 36).map (·.size) = some x.rgc.length := by show _ = some 12; kernel_rfl
def MiSame (m u : Mi) (z v : List Int) : Prop := m.k = u.k ∧ m.i = u.i ∧ m.n = u.n ∧ z = v
instance (m u : Mi) (z v : List Int) : Decidable (MiSame m u z v) := by unfold MiSame; infer_instance
theorem con_iff (t u : Tc) : t.con = u.con ↔ t.x.pc = u.x.pc ∧ t.x.fu = u.x.fu ∧ t.x.st = u.x.st ∧ t.x.rgs = u.x.rgs ∧ MiSame t.x.mi u.x.mi t.z u.z ∧ t.l = u.l ∧ t.s = u.s ∧ t.x.old = u.x.old := by
  simp only [Tc.con, Th.key, Th.rgs, MiSame, Th.mi, Prod.mk.injEq, List.cons.injEq, and_true, and_assoc]
theorem mi_iff (m u : Mi) (z v : List Int) : MiSame m u z v ↔ m.k = u.k ∧ m.i = u.i ∧ m.n = u.n ∧ z = v := Iff.rfl
set_option maxRecDepth 100000 in
set_option maxHeartbeats 4000000 in
theorem micro_eq (m u : Mi) (z v : List Int) (w : World) (h : SeesI w m.se.A m.se.n m.se.cap z) (h2 : SeesI w u.se.A u.se.n u.se.cap v) : Calls Try.prog 56 #[.agg m.cs.toArray, .agg u.cs.toArray] w fun e w' => e = .returned (.bool (decide (MiSame m u z v))) ∧ Below w.heap.size w w' := by
  obtain ⟨p1, f1⟩ : ∃ p, w.heap.size = p := ⟨_, rfl⟩
  obtain ⟨W1, ea1⟩ : ∃ W, w.alloc (.cells m.cs.toArray 38) = W := ⟨_, rfl⟩
  have ka1 : Below w.heap.size w W1 := by rw [← ea1]; exact (Below.refl _ w).alloc (Nat.le_refl _) _
  have b1 : Blk W1 p1 38 m.cs.toArray := by rw [← ea1]; exact blk_new w _ 38 _ f1
  have kk : Below w.heap.size w W1 := ka1
  have hp1 : w.heap.size ≤ p1 := Nat.le_of_eq f1
  clear ka1
  obtain ⟨p2, f2⟩ : ∃ p, W1.heap.size = p := ⟨_, rfl⟩
  obtain ⟨W2, ea2⟩ : ∃ W, W1.alloc (.cells u.cs.toArray 38) = W := ⟨_, rfl⟩
  have ka2 : Below W1.heap.size W1 W2 := by rw [← ea2]; exact (Below.refl _ W1).alloc (Nat.le_refl _) _
  have b2 : Blk W2 p2 38 u.cs.toArray := by rw [← ea2]; exact blk_new W1 _ 38 _ f2
  have q1_2 : p1 < p2 := by rw [← f2]; exact b1.lt
  replace b1 := b1.on ka2
  have kk0 := kk
  replace kk := kk.trans (ka2.mono kk.size)
  have hp2 : w.heap.size ≤ p2 := by rw [← f2]; exact kk0.size
  clear ka2 kk0
  by_cases c0 : m.k = u.k
  · by_cases c1 : m.i = u.i
    · by_cases c2 : m.n = u.n
      · by_cases c3 : z = v
        · have HD := Lib.hid (show decide (MiSame m u z v) = true from decide_eq_true ((mi_iff m u z v).2 ⟨c0, c1, c2, c3⟩))
          have t_c0 : (m.k == u.k) = true := by simpa using c0
          have t_c1 : (m.i == u.i) = true := by simpa using c1
          have t_c2 : (m.n == u.n) = true := by simpa using c2
          clear c0 c1 c2
          have ZZ := True.intro
          have c2_1_0 : W2.cell? ⟨p1, 0, none⟩ = some (.int .i64 m.k) := b1.cell 0
          have c2_2_0 : W2.cell? ⟨p2, 0, none⟩ = some (.int .i64 u.k) := b2.cell 0
          have c2_1_1 : W2.cell? ⟨p1, 1, none⟩ = some (.int .i64 m.i) := b1.cell 1
          have c2_2_1 : W2.cell? ⟨p2, 1, none⟩ = some (.int .i64 u.i) := b2.cell 1
          have c2_1_2 : W2.cell? ⟨p1, 2, none⟩ = some (.int .i64 m.n) := b1.cell 2
          have c2_2_2 : W2.cell? ⟨p2, 2, none⟩ = some (.int .i64 u.n) := b2.cell 2
          have c2_1_3 : W2.cell? ⟨p1, 3, none⟩ = some (.slice m.se.A m.se.n m.se.cap) := b1.cell 3
          have c2_2_3 : W2.cell? ⟨p2, 3, none⟩ = some (.slice u.se.A u.se.n u.se.cap) := b2.cell 3
          have d3 := nums_eq m.se.A u.se.A m.se.n u.se.n m.se.cap u.se.cap z v W2 (h.on kk) (h2.on kk)
          rw [decide_eq_true c3] at d3
          go_enter Try.func56, Try.ntmps56
          go_wp2_with fail
          refine (d3).mono ?_
          rintro e W3 ⟨rfl, k1⟩
          clear c2_1_0 c2_2_0 c2_1_1 c2_2_1 c2_1_2 c2_2_2 c2_1_3 c2_2_3
          replace b1 := b1.on k1
          replace b2 := b2.on k1
          replace kk := kk.trans (k1.mono kk.size)
          clear k1
          clear d3
          go_wp2_with fail
          go_ret
          first | exact ⟨by rw [HD.out]; try rfl, kk⟩ | (rw [f1] at kk; exact ⟨by rw [HD.out]; try rfl, kk⟩)
        · have HD := Lib.hid (show decide (MiSame m u z v) = false from decide_eq_false fun e => c3 (((mi_iff m u z v).1 e).2.2.2))
          have t_c0 : (m.k == u.k) = true := by simpa using c0
          have t_c1 : (m.i == u.i) = true := by simpa using c1
          have t_c2 : (m.n == u.n) = true := by simpa using c2
          clear c0 c1 c2
          have ZZ := True.intro
          have c2_1_0 : W2.cell? ⟨p1, 0, none⟩ = some (.int .i64 m.k) := b1.cell 0
          have c2_2_0 : W2.cell? ⟨p2, 0, none⟩ = some (.int .i64 u.k) := b2.cell 0
          have c2_1_1 : W2.cell? ⟨p1, 1, none⟩ = some (.int .i64 m.i) := b1.cell 1
          have c2_2_1 : W2.cell? ⟨p2, 1, none⟩ = some (.int .i64 u.i) := b2.cell 1
          have c2_1_2 : W2.cell? ⟨p1, 2, none⟩ = some (.int .i64 m.n) := b1.cell 2
          have c2_2_2 : W2.cell? ⟨p2, 2, none⟩ = some (.int .i64 u.n) := b2.cell 2
          have c2_1_3 : W2.cell? ⟨p1, 3, none⟩ = some (.slice m.se.A m.se.n m.se.cap) := b1.cell 3
          have c2_2_3 : W2.cell? ⟨p2, 3, none⟩ = some (.slice u.se.A u.se.n u.se.cap) := b2.cell 3
          have d3 := nums_eq m.se.A u.se.A m.se.n u.se.n m.se.cap u.se.cap z v W2 (h.on kk) (h2.on kk)
          rw [decide_eq_false c3] at d3
          go_enter Try.func56, Try.ntmps56
          go_wp2_with fail
          refine (d3).mono ?_
          rintro e W3 ⟨rfl, k1⟩
          clear c2_1_0 c2_2_0 c2_1_1 c2_2_1 c2_1_2 c2_2_2 c2_1_3 c2_2_3
          replace b1 := b1.on k1
          replace b2 := b2.on k1
          replace kk := kk.trans (k1.mono kk.size)
          clear k1
          clear d3
          go_wp2_with fail
          go_ret
          first | exact ⟨by rw [HD.out]; try rfl, kk⟩ | (rw [f1] at kk; exact ⟨by rw [HD.out]; try rfl, kk⟩)
      · have HD := Lib.hid (show decide (MiSame m u z v) = false from decide_eq_false fun e => c2 (((mi_iff m u z v).1 e).2.2.1))
        have t_c0 : (m.k == u.k) = true := by simpa using c0
        have t_c1 : (m.i == u.i) = true := by simpa using c1
        have t_c2 : (m.n == u.n) = false := by simpa using c2
        clear c0 c1 c2
        have ZZ := True.intro
        have c2_1_0 : W2.cell? ⟨p1, 0, none⟩ = some (.int .i64 m.k) := b1.cell 0
        have c2_2_0 : W2.cell? ⟨p2, 0, none⟩ = some (.int .i64 u.k) := b2.cell 0
        have c2_1_1 : W2.cell? ⟨p1, 1, none⟩ = some (.int .i64 m.i) := b1.cell 1
        have c2_2_1 : W2.cell? ⟨p2, 1, none⟩ = some (.int .i64 u.i) := b2.cell 1
        have c2_1_2 : W2.cell? ⟨p1, 2, none⟩ = some (.int .i64 m.n) := b1.cell 2
        have c2_2_2 : W2.cell? ⟨p2, 2, none⟩ = some (.int .i64 u.n) := b2.cell 2
        go_enter Try.func56, Try.ntmps56
        go_wp2_with fail
        go_ret
        first | exact ⟨by rw [HD.out]; try rfl, kk⟩ | (rw [f1] at kk; exact ⟨by rw [HD.out]; try rfl, kk⟩)
    · have HD := Lib.hid (show decide (MiSame m u z v) = false from decide_eq_false fun e => c1 (((mi_iff m u z v).1 e).2.1))
      have t_c0 : (m.k == u.k) = true := by simpa using c0
      have t_c1 : (m.i == u.i) = false := by simpa using c1
      clear c0 c1
      have ZZ := True.intro
      have c2_1_0 : W2.cell? ⟨p1, 0, none⟩ = some (.int .i64 m.k) := b1.cell 0
      have c2_2_0 : W2.cell? ⟨p2, 0, none⟩ = some (.int .i64 u.k) := b2.cell 0
      have c2_1_1 : W2.cell? ⟨p1, 1, none⟩ = some (.int .i64 m.i) := b1.cell 1
      have c2_2_1 : W2.cell? ⟨p2, 1, none⟩ = some (.int .i64 u.i) := b2.cell 1
      go_enter Try.func56, Try.ntmps56
      go_wp2_with fail
      go_ret
      first | exact ⟨by rw [HD.out]; try rfl, kk⟩ | (rw [f1] at kk; exact ⟨by rw [HD.out]; try rfl, kk⟩)
  · have HD := Lib.hid (show decide (MiSame m u z v) = false from decide_eq_false fun e => c0 (((mi_iff m u z v).1 e).1))
    have t_c0 : (m.k == u.k) = false := by simpa using c0
    clear c0
    have ZZ := True.intro
    have c2_1_0 : W2.cell? ⟨p1, 0, none⟩ = some (.int .i64 m.k) := b1.cell 0
    have c2_2_0 : W2.cell? ⟨p2, 0, none⟩ = some (.int .i64 u.k) := b2.cell 0
    go_enter Try.func56, Try.ntmps56
    go_wp2_with fail
    go_ret
    first | exact ⟨by rw [HD.out]; try rfl, kk⟩ | (rw [f1] at kk; exact ⟨by rw [HD.out]; try rfl, kk⟩)
set_option maxRecDepth 100000 in
set_option maxHeartbeats 4000000 in
theorem thread_eq (t u : Tc) (w : World) (h : Reads w t.x t.z t.l t.s) (h2 : Reads w u.x u.z u.l u.s) : Calls Try.prog 34 #[.agg t.x.cs.toArray, .agg u.x.cs.toArray] w fun e w' => e = .returned (.bool (decide (t.con = u.con))) ∧ Below w.heap.size w w' := by
  obtain ⟨p1, f1⟩ : ∃ p, w.heap.size = p := ⟨_, rfl⟩
  obtain ⟨W1, ea1⟩ : ∃ W, w.alloc (.cells t.x.cs.toArray 41) = W := ⟨_, rfl⟩
  have ka1 : Below w.heap.size w W1 := by rw [← ea1]; exact (Below.refl _ w).alloc (Nat.le_refl _) _
  have b1 : Blk W1 p1 41 t.x.cs.toArray := by rw [← ea1]; exact blk_new w _ 41 _ f1
  have kk : Below w.heap.size w W1 := ka1
  have hp1 : w.heap.size ≤ p1 := Nat.le_of_eq f1
  clear ka1
  obtain ⟨p2, f2⟩ : ∃ p, W1.heap.size = p := ⟨_, rfl⟩
  obtain ⟨W2, ea2⟩ : ∃ W, W1.alloc (.cells u.x.cs.toArray 41) = W := ⟨_, rfl⟩
  have ka2 : Below W1.heap.size W1 W2 := by rw [← ea2]; exact (Below.refl _ W1).alloc (Nat.le_refl _) _
  have b2 : Blk W2 p2 41 u.x.cs.toArray := by rw [← ea2]; exact blk_new W1 _ 41 _ f2
  have q1_2 : p1 < p2 := by rw [← f2]; exact b1.lt
  replace b1 := b1.on ka2
  have kk0 := kk
  replace kk := kk.trans (ka2.mono kk.size)
  have hp2 : w.heap.size ≤ p2 := by rw [← f2]; exact kk0.size
  clear ka2 kk0
  by_cases c0 : t.x.pc = u.x.pc
  · by_cases c1 : t.x.fu = u.x.fu
    · by_cases c2 : t.x.st = u.x.st
      · by_cases c3 : t.x.rgs = u.x.rgs
        · by_cases c4 : MiSame t.x.mi u.x.mi t.z u.z
          · by_cases c5 : t.l = u.l
            · by_cases c6 : t.s = u.s
              · by_cases c7 : t.x.old = u.x.old
                · have HD := Lib.hid (show decide (t.con = u.con) = true from decide_eq_true ((con_iff t u).2 ⟨c0, c1, c2, c3, c4, c5, c6, c7⟩))
                  have t_c0 : (t.x.pc == u.x.pc) = true := by simpa using c0
                  have t_c1 : (t.x.fu == u.x.fu) = true := by simpa using c1
                  have t_c2 : (t.x.st == u.x.st) = true := by simpa using c2
                  have t_c7 : (t.x.old == u.x.old) = true := by simpa using c7
                  clear c0 c1 c2 c7
                  have ZZ := True.intro
                  have c2_1_0 : W2.cell? ⟨p1, 0, none⟩ = some (.int .i64 t.x.pc) := b1.cell 0
                  have c2_2_0 : W2.cell? ⟨p2, 0, none⟩ = some (.int .i64 u.x.pc) := b2.cell 0
                  have c2_1_1 : W2.cell? ⟨p1, 1, none⟩ = some (.int .i64 t.x.fu) := b1.cell 1
                  have c2_2_1 : W2.cell? ⟨p2, 1, none⟩ = some (.int .i64 u.x.fu) := b2.cell 1
                  have c2_1_2 : W2.cell? ⟨p1, 2, none⟩ = some (.int .i64 t.x.st) := b1.cell 2
                  have c2_2_2 : W2.cell? ⟨p2, 2, none⟩ = some (.int .i64 u.x.st) := b2.cell 2
                  have g1 := range_part b1 3 t.x.rgc rfl
                  have g2 := range_part b2 3 u.x.rgc rfl
                  have hq : ∀ W, (binOp BinOp.eql 36 (.agg t.x.rgc.toArray) (.agg u.x.rgc.toArray)).run Try.prog W = .ok (.bool true) W := fun W => by
                    have := eq36 t.x u.x W
                    rw [decide_eq_true c3] at this
                    exact this
                  have g3 := range_part b1 15 t.x.mi.cs rfl
                  have g4 := range_part b2 15 u.x.mi.cs rfl
                  have d4 := micro_eq t.x.mi u.x.mi t.z u.z W2 (h.on kk).se (h2.on kk).se
                  rw [decide_eq_true c4] at d4
                  go_enter Try.func34, Try.ntmps34
                  go_wp2_with (first | ((with_reducible refine at_load 36 (.tmp 25) ?_); refine wpList_mid (by rfl) 36 (.tmp 25) rfl p1 (3) rfl t.x.rgc _ g1 Try.underlying36 rfl (size36L _) ?_) | ((with_reducible refine at_load 36 (.tmp 27) ?_); refine wpList_mid (by rfl) 36 (.tmp 27) rfl p2 (3) rfl u.x.rgc _ g2 Try.underlying36 rfl (size36L _) ?_) | ((with_reducible refine at_load 38 (.tmp 32) ?_); refine wpList_mid (by rfl) 38 (.tmp 32) rfl p1 (15) rfl t.x.mi.cs _ g3 Try.underlying38 rfl size38 ?_) | ((with_reducible refine at_load 38 (.tmp 34) ?_); refine wpList_mid (by rfl) 38 (.tmp 34) rfl p2 (15) rfl u.x.mi.cs _ g4 Try.underlying38 rfl size38 ?_))
                  refine (d4).mono ?_
                  rintro e W3 ⟨rfl, k1⟩
                  clear c2_1_0 c2_2_0 c2_1_1 c2_2_1 c2_1_2 c2_2_2
                  replace b1 := b1.on k1
                  replace b2 := b2.on k1
                  replace kk := kk.trans (k1.mono kk.size)
                  clear k1
                  clear d4
                  clear g1 g2 g3 g4 hq
                  have c3_1_19 : W3.cell? ⟨p1, 19, none⟩ = some (.slice t.x.bg.A t.x.bg.n t.x.bg.cap) := b1.cell 19
                  have c3_2_19 : W3.cell? ⟨p2, 19, none⟩ = some (.slice u.x.bg.A u.x.bg.n u.x.bg.cap) := b2.cell 19
                  have d5 := bags_eq t.x.bg.A u.x.bg.A t.x.bg.n u.x.bg.n t.x.bg.cap u.x.bg.cap t.l u.l W3 (h.on kk).bg (h2.on kk).bg
                  rw [decide_eq_true c5] at d5
                  go_wp2_with fail
                  refine (d5).mono ?_
                  rintro e W4 ⟨rfl, k1⟩
                  clear c3_1_19 c3_2_19
                  replace b1 := b1.on k1
                  replace b2 := b2.on k1
                  replace kk := kk.trans (k1.mono kk.size)
                  clear k1
                  clear d5
                  have c4_1_20 : W4.cell? ⟨p1, 20, none⟩ = some (.slice t.x.sn.A t.x.sn.n t.x.sn.cap) := b1.cell 20
                  have c4_2_20 : W4.cell? ⟨p2, 20, none⟩ = some (.slice u.x.sn.A u.x.sn.n u.x.sn.cap) := b2.cell 20
                  have d6 := nums_eq t.x.sn.A u.x.sn.A t.x.sn.n u.x.sn.n t.x.sn.cap u.x.sn.cap t.s u.s W4 (h.on kk).sn (h2.on kk).sn
                  rw [decide_eq_true c6] at d6
                  go_wp2_with fail
                  refine (d6).mono ?_
                  rintro e W5 ⟨rfl, k1⟩
                  clear c4_1_20 c4_2_20
                  replace b1 := b1.on k1
                  replace b2 := b2.on k1
                  replace kk := kk.trans (k1.mono kk.size)
                  clear k1
                  clear d6
                  have c5_1_21 : W5.cell? ⟨p1, 21, none⟩ = some (.int .i64 t.x.old) := b1.cell 21
                  have c5_2_21 : W5.cell? ⟨p2, 21, none⟩ = some (.int .i64 u.x.old) := b2.cell 21
                  go_wp2_with fail
                  go_ret
                  first | exact ⟨by rw [HD.out]; try rfl, kk⟩ | (rw [f1] at kk; exact ⟨by rw [HD.out]; try rfl, kk⟩)
                · have HD := Lib.hid (show decide (t.con = u.con) = false from decide_eq_false fun e => c7 (((con_iff t u).1 e).2.2.2.2.2.2.2))
                  have t_c0 : (t.x.pc == u.x.pc) = true := by simpa using c0
                  have t_c1 : (t.x.fu == u.x.fu) = true := by simpa using c1
                  have t_c2 : (t.x.st == u.x.st) = true := by simpa using c2
                  have t_c7 : (t.x.old == u.x.old) = false := by simpa using c7
                  clear c0 c1 c2 c7
                  have ZZ := True.intro
                  have c2_1_0 : W2.cell? ⟨p1, 0, none⟩ = some (.int .i64 t.x.pc) := b1.cell 0
                  have c2_2_0 : W2.cell? ⟨p2, 0, none⟩ = some (.int .i64 u.x.pc) := b2.cell 0
                  have c2_1_1 : W2.cell? ⟨p1, 1, none⟩ = some (.int .i64 t.x.fu) := b1.cell 1
                  have c2_2_1 : W2.cell? ⟨p2, 1, none⟩ = some (.int .i64 u.x.fu) := b2.cell 1
                  have c2_1_2 : W2.cell? ⟨p1, 2, none⟩ = some (.int .i64 t.x.st) := b1.cell 2
                  have c2_2_2 : W2.cell? ⟨p2, 2, none⟩ = some (.int .i64 u.x.st) := b2.cell 2
                  have g1 := range_part b1 3 t.x.rgc rfl
                  have g2 := range_part b2 3 u.x.rgc rfl
                  have hq : ∀ W, (binOp BinOp.eql 36 (.agg t.x.rgc.toArray) (.agg u.x.rgc.toArray)).run Try.prog W = .ok (.bool true) W := fun W => by
                    have := eq36 t.x u.x W
                    rw [decide_eq_true c3] at this
                    exact this
                  have g3 := range_part b1 15 t.x.mi.cs rfl
                  have g4 := range_part b2 15 u.x.mi.cs rfl
                  have d4 := micro_eq t.x.mi u.x.mi t.z u.z W2 (h.on kk).se (h2.on kk).se
                  rw [decide_eq_true c4] at d4
                  go_enter Try.func34, Try.ntmps34
                  go_wp2_with (first | ((with_reducible refine at_load 36 (.tmp 25) ?_); refine wpList_mid (by rfl) 36 (.tmp 25) rfl p1 (3) rfl t.x.rgc _ g1 Try.underlying36 rfl (size36L _) ?_) | ((with_reducible refine at_load 36 (.tmp 27) ?_); refine wpList_mid (by rfl) 36 (.tmp 27) rfl p2 (3) rfl u.x.rgc _ g2 Try.underlying36 rfl (size36L _) ?_) | ((with_reducible refine at_load 38 (.tmp 32) ?_); refine wpList_mid (by rfl) 38 (.tmp 32) rfl p1 (15) rfl t.x.mi.cs _ g3 Try.underlying38 rfl size38 ?_) | ((with_reducible refine at_load 38 (.tmp 34) ?_); refine wpList_mid (by rfl) 38 (.tmp 34) rfl p2 (15) rfl u.x.mi.cs _ g4 Try.underlying38 rfl size38 ?_))
                  refine (d4).mono ?_
                  rintro e W3 ⟨rfl, k1⟩
                  clear c2_1_0 c2_2_0 c2_1_1 c2_2_1 c2_1_2 c2_2_2
                  replace b1 := b1.on k1
                  replace b2 := b2.on k1
                  replace kk := kk.trans (k1.mono kk.size)
                  clear k1
                  clear d4
                  clear g1 g2 g3 g4 hq
                  have c3_1_19 : W3.cell? ⟨p1, 19, none⟩ = some (.slice t.x.bg.A t.x.bg.n t.x.bg.cap) := b1.cell 19
                  have c3_2_19 : W3.cell? ⟨p2, 19, none⟩ = some (.slice u.x.bg.A u.x.bg.n u.x.bg.cap) := b2.cell 19
                  have d5 := bags_eq t.x.bg.A u.x.bg.A t.x.bg.n u.x.bg.n t.x.bg.cap u.x.bg.cap t.l u.l W3 (h.on kk).bg (h2.on kk).bg
                  rw [decide_eq_true c5] at d5
                  go_wp2_with fail
                  refine (d5).mono ?_
                  rintro e W4 ⟨rfl, k1⟩
                  clear c3_1_19 c3_2_19
                  replace b1 := b1.on k1
                  replace b2 := b2.on k1
                  replace kk := kk.trans (k1.mono kk.size)
                  clear k1
                  clear d5
                  have c4_1_20 : W4.cell? ⟨p1, 20, none⟩ = some (.slice t.x.sn.A t.x.sn.n t.x.sn.cap) := b1.cell 20
                  have c4_2_20 : W4.cell? ⟨p2, 20, none⟩ = some (.slice u.x.sn.A u.x.sn.n u.x.sn.cap) := b2.cell 20
                  have d6 := nums_eq t.x.sn.A u.x.sn.A t.x.sn.n u.x.sn.n t.x.sn.cap u.x.sn.cap t.s u.s W4 (h.on kk).sn (h2.on kk).sn
                  rw [decide_eq_true c6] at d6
                  go_wp2_with fail
                  refine (d6).mono ?_
                  rintro e W5 ⟨rfl, k1⟩
                  clear c4_1_20 c4_2_20
                  replace b1 := b1.on k1
                  replace b2 := b2.on k1
                  replace kk := kk.trans (k1.mono kk.size)
                  clear k1
                  clear d6
                  have c5_1_21 : W5.cell? ⟨p1, 21, none⟩ = some (.int .i64 t.x.old) := b1.cell 21
                  have c5_2_21 : W5.cell? ⟨p2, 21, none⟩ = some (.int .i64 u.x.old) := b2.cell 21
                  go_wp2_with fail
                  go_ret
                  first | exact ⟨by rw [HD.out]; try rfl, kk⟩ | (rw [f1] at kk; exact ⟨by rw [HD.out]; try rfl, kk⟩)
              · have HD := Lib.hid (show decide (t.con = u.con) = false from decide_eq_false fun e => c6 (((con_iff t u).1 e).2.2.2.2.2.2.1))
                have t_c0 : (t.x.pc == u.x.pc) = true := by simpa using c0
                have t_c1 : (t.x.fu == u.x.fu) = true := by simpa using c1
                have t_c2 : (t.x.st == u.x.st) = true := by simpa using c2
                clear c0 c1 c2
                have ZZ := True.intro
                have c2_1_0 : W2.cell? ⟨p1, 0, none⟩ = some (.int .i64 t.x.pc) := b1.cell 0
                have c2_2_0 : W2.cell? ⟨p2, 0, none⟩ = some (.int .i64 u.x.pc) := b2.cell 0
                have c2_1_1 : W2.cell? ⟨p1, 1, none⟩ = some (.int .i64 t.x.fu) := b1.cell 1
                have c2_2_1 : W2.cell? ⟨p2, 1, none⟩ = some (.int .i64 u.x.fu) := b2.cell 1
                have c2_1_2 : W2.cell? ⟨p1, 2, none⟩ = some (.int .i64 t.x.st) := b1.cell 2
                have c2_2_2 : W2.cell? ⟨p2, 2, none⟩ = some (.int .i64 u.x.st) := b2.cell 2
                have g1 := range_part b1 3 t.x.rgc rfl
                have g2 := range_part b2 3 u.x.rgc rfl
                have hq : ∀ W, (binOp BinOp.eql 36 (.agg t.x.rgc.toArray) (.agg u.x.rgc.toArray)).run Try.prog W = .ok (.bool true) W := fun W => by
                  have := eq36 t.x u.x W
                  rw [decide_eq_true c3] at this
                  exact this
                have g3 := range_part b1 15 t.x.mi.cs rfl
                have g4 := range_part b2 15 u.x.mi.cs rfl
                have d4 := micro_eq t.x.mi u.x.mi t.z u.z W2 (h.on kk).se (h2.on kk).se
                rw [decide_eq_true c4] at d4
                go_enter Try.func34, Try.ntmps34
                go_wp2_with (first | ((with_reducible refine at_load 36 (.tmp 25) ?_); refine wpList_mid (by rfl) 36 (.tmp 25) rfl p1 (3) rfl t.x.rgc _ g1 Try.underlying36 rfl (size36L _) ?_) | ((with_reducible refine at_load 36 (.tmp 27) ?_); refine wpList_mid (by rfl) 36 (.tmp 27) rfl p2 (3) rfl u.x.rgc _ g2 Try.underlying36 rfl (size36L _) ?_) | ((with_reducible refine at_load 38 (.tmp 32) ?_); refine wpList_mid (by rfl) 38 (.tmp 32) rfl p1 (15) rfl t.x.mi.cs _ g3 Try.underlying38 rfl size38 ?_) | ((with_reducible refine at_load 38 (.tmp 34) ?_); refine wpList_mid (by rfl) 38 (.tmp 34) rfl p2 (15) rfl u.x.mi.cs _ g4 Try.underlying38 rfl size38 ?_))
                refine (d4).mono ?_
                rintro e W3 ⟨rfl, k1⟩
                clear c2_1_0 c2_2_0 c2_1_1 c2_2_1 c2_1_2 c2_2_2
                replace b1 := b1.on k1
                replace b2 := b2.on k1
                replace kk := kk.trans (k1.mono kk.size)
                clear k1
                clear d4
                clear g1 g2 g3 g4 hq
                have c3_1_19 : W3.cell? ⟨p1, 19, none⟩ = some (.slice t.x.bg.A t.x.bg.n t.x.bg.cap) := b1.cell 19
                have c3_2_19 : W3.cell? ⟨p2, 19, none⟩ = some (.slice u.x.bg.A u.x.bg.n u.x.bg.cap) := b2.cell 19
                have d5 := bags_eq t.x.bg.A u.x.bg.A t.x.bg.n u.x.bg.n t.x.bg.cap u.x.bg.cap t.l u.l W3 (h.on kk).bg (h2.on kk).bg
                rw [decide_eq_true c5] at d5
                go_wp2_with fail
                refine (d5).mono ?_
                rintro e W4 ⟨rfl, k1⟩
                clear c3_1_19 c3_2_19
                replace b1 := b1.on k1
                replace b2 := b2.on k1
                replace kk := kk.trans (k1.mono kk.size)
                clear k1
                clear d5
                have c4_1_20 : W4.cell? ⟨p1, 20, none⟩ = some (.slice t.x.sn.A t.x.sn.n t.x.sn.cap) := b1.cell 20
                have c4_2_20 : W4.cell? ⟨p2, 20, none⟩ = some (.slice u.x.sn.A u.x.sn.n u.x.sn.cap) := b2.cell 20
                have d6 := nums_eq t.x.sn.A u.x.sn.A t.x.sn.n u.x.sn.n t.x.sn.cap u.x.sn.cap t.s u.s W4 (h.on kk).sn (h2.on kk).sn
                rw [decide_eq_false c6] at d6
                go_wp2_with fail
                refine (d6).mono ?_
                rintro e W5 ⟨rfl, k1⟩
                clear c4_1_20 c4_2_20
                replace b1 := b1.on k1
                replace b2 := b2.on k1
                replace kk := kk.trans (k1.mono kk.size)
                clear k1
                clear d6
                go_wp2_with fail
                go_ret
                first | exact ⟨by rw [HD.out]; try rfl, kk⟩ | (rw [f1] at kk; exact ⟨by rw [HD.out]; try rfl, kk⟩)
            · have HD := Lib.hid (show decide (t.con = u.con) = false from decide_eq_false fun e => c5 (((con_iff t u).1 e).2.2.2.2.2.1))
              have t_c0 : (t.x.pc == u.x.pc) = true := by simpa using c0
              have t_c1 : (t.x.fu == u.x.fu) = true := by simpa using c1
              have t_c2 : (t.x.st == u.x.st) = true := by simpa using c2
              clear c0 c1 c2
              have ZZ := True.intro
              have c2_1_0 : W2.cell? ⟨p1, 0, none⟩ = some (.int .i64 t.x.pc) := b1.cell 0
              have c2_2_0 : W2.cell? ⟨p2, 0, none⟩ = some (.int .i64 u.x.pc) := b2.cell 0
              have c2_1_1 : W2.cell? ⟨p1, 1, none⟩ = some (.int .i64 t.x.fu) := b1.cell 1
              have c2_2_1 : W2.cell? ⟨p2, 1, none⟩ = some (.int .i64 u.x.fu) := b2.cell 1
              have c2_1_2 : W2.cell? ⟨p1, 2, none⟩ = some (.int .i64 t.x.st) := b1.cell 2
              have c2_2_2 : W2.cell? ⟨p2, 2, none⟩ = some (.int .i64 u.x.st) := b2.cell 2
              have g1 := range_part b1 3 t.x.rgc rfl
              have g2 := range_part b2 3 u.x.rgc rfl
              have hq : ∀ W, (binOp BinOp.eql 36 (.agg t.x.rgc.toArray) (.agg u.x.rgc.toArray)).run Try.prog W = .ok (.bool true) W := fun W => by
                have := eq36 t.x u.x W
                rw [decide_eq_true c3] at this
                exact this
              have g3 := range_part b1 15 t.x.mi.cs rfl
              have g4 := range_part b2 15 u.x.mi.cs rfl
              have d4 := micro_eq t.x.mi u.x.mi t.z u.z W2 (h.on kk).se (h2.on kk).se
              rw [decide_eq_true c4] at d4
              go_enter Try.func34, Try.ntmps34
              go_wp2_with (first | ((with_reducible refine at_load 36 (.tmp 25) ?_); refine wpList_mid (by rfl) 36 (.tmp 25) rfl p1 (3) rfl t.x.rgc _ g1 Try.underlying36 rfl (size36L _) ?_) | ((with_reducible refine at_load 36 (.tmp 27) ?_); refine wpList_mid (by rfl) 36 (.tmp 27) rfl p2 (3) rfl u.x.rgc _ g2 Try.underlying36 rfl (size36L _) ?_) | ((with_reducible refine at_load 38 (.tmp 32) ?_); refine wpList_mid (by rfl) 38 (.tmp 32) rfl p1 (15) rfl t.x.mi.cs _ g3 Try.underlying38 rfl size38 ?_) | ((with_reducible refine at_load 38 (.tmp 34) ?_); refine wpList_mid (by rfl) 38 (.tmp 34) rfl p2 (15) rfl u.x.mi.cs _ g4 Try.underlying38 rfl size38 ?_))
              refine (d4).mono ?_
              rintro e W3 ⟨rfl, k1⟩
              clear c2_1_0 c2_2_0 c2_1_1 c2_2_1 c2_1_2 c2_2_2
              replace b1 := b1.on k1
              replace b2 := b2.on k1
              replace kk := kk.trans (k1.mono kk.size)
              clear k1
              clear d4
              clear g1 g2 g3 g4 hq
              have c3_1_19 : W3.cell? ⟨p1, 19, none⟩ = some (.slice t.x.bg.A t.x.bg.n t.x.bg.cap) := b1.cell 19
              have c3_2_19 : W3.cell? ⟨p2, 19, none⟩ = some (.slice u.x.bg.A u.x.bg.n u.x.bg.cap) := b2.cell 19
              have d5 := bags_eq t.x.bg.A u.x.bg.A t.x.bg.n u.x.bg.n t.x.bg.cap u.x.bg.cap t.l u.l W3 (h.on kk).bg (h2.on kk).bg
              rw [decide_eq_false c5] at d5
              go_wp2_with fail
              refine (d5).mono ?_
              rintro e W4 ⟨rfl, k1⟩
              clear c3_1_19 c3_2_19
              replace b1 := b1.on k1
              replace b2 := b2.on k1
              replace kk := kk.trans (k1.mono kk.size)
              clear k1
              clear d5
              go_wp2_with fail
              go_ret
              first | exact ⟨by rw [HD.out]; try rfl, kk⟩ | (rw [f1] at kk; exact ⟨by rw [HD.out]; try rfl, kk⟩)
          · have HD := Lib.hid (show decide (t.con = u.con) = false from decide_eq_false fun e => c4 (((con_iff t u).1 e).2.2.2.2.1))
            have t_c0 : (t.x.pc == u.x.pc) = true := by simpa using c0
            have t_c1 : (t.x.fu == u.x.fu) = true := by simpa using c1
            have t_c2 : (t.x.st == u.x.st) = true := by simpa using c2
            clear c0 c1 c2
            have ZZ := True.intro
            have c2_1_0 : W2.cell? ⟨p1, 0, none⟩ = some (.int .i64 t.x.pc) := b1.cell 0
            have c2_2_0 : W2.cell? ⟨p2, 0, none⟩ = some (.int .i64 u.x.pc) := b2.cell 0
            have c2_1_1 : W2.cell? ⟨p1, 1, none⟩ = some (.int .i64 t.x.fu) := b1.cell 1
            have c2_2_1 : W2.cell? ⟨p2, 1, none⟩ = some (.int .i64 u.x.fu) := b2.cell 1
            have c2_1_2 : W2.cell? ⟨p1, 2, none⟩ = some (.int .i64 t.x.st) := b1.cell 2
            have c2_2_2 : W2.cell? ⟨p2, 2, none⟩ = some (.int .i64 u.x.st) := b2.cell 2
            have g1 := range_part b1 3 t.x.rgc rfl
            have g2 := range_part b2 3 u.x.rgc rfl
            have hq : ∀ W, (binOp BinOp.eql 36 (.agg t.x.rgc.toArray) (.agg u.x.rgc.toArray)).run Try.prog W = .ok (.bool true) W := fun W => by
              have := eq36 t.x u.x W
              rw [decide_eq_true c3] at this
              exact this
            have g3 := range_part b1 15 t.x.mi.cs rfl
            have g4 := range_part b2 15 u.x.mi.cs rfl
            have d4 := micro_eq t.x.mi u.x.mi t.z u.z W2 (h.on kk).se (h2.on kk).se
            rw [decide_eq_false c4] at d4
            go_enter Try.func34, Try.ntmps34
            go_wp2_with (first | ((with_reducible refine at_load 36 (.tmp 25) ?_); refine wpList_mid (by rfl) 36 (.tmp 25) rfl p1 (3) rfl t.x.rgc _ g1 Try.underlying36 rfl (size36L _) ?_) | ((with_reducible refine at_load 36 (.tmp 27) ?_); refine wpList_mid (by rfl) 36 (.tmp 27) rfl p2 (3) rfl u.x.rgc _ g2 Try.underlying36 rfl (size36L _) ?_) | ((with_reducible refine at_load 38 (.tmp 32) ?_); refine wpList_mid (by rfl) 38 (.tmp 32) rfl p1 (15) rfl t.x.mi.cs _ g3 Try.underlying38 rfl size38 ?_) | ((with_reducible refine at_load 38 (.tmp 34) ?_); refine wpList_mid (by rfl) 38 (.tmp 34) rfl p2 (15) rfl u.x.mi.cs _ g4 Try.underlying38 rfl size38 ?_))
            refine (d4).mono ?_
            rintro e W3 ⟨rfl, k1⟩
            clear c2_1_0 c2_2_0 c2_1_1 c2_2_1 c2_1_2 c2_2_2
            replace b1 := b1.on k1
            replace b2 := b2.on k1
            replace kk := kk.trans (k1.mono kk.size)
            clear k1
            clear d4
            go_wp2_with fail
            go_ret
            first | exact ⟨by rw [HD.out]; try rfl, kk⟩ | (rw [f1] at kk; exact ⟨by rw [HD.out]; try rfl, kk⟩)
        · have HD := Lib.hid (show decide (t.con = u.con) = false from decide_eq_false fun e => c3 (((con_iff t u).1 e).2.2.2.1))
          have t_c0 : (t.x.pc == u.x.pc) = true := by simpa using c0
          have t_c1 : (t.x.fu == u.x.fu) = true := by simpa using c1
          have t_c2 : (t.x.st == u.x.st) = true := by simpa using c2
          clear c0 c1 c2
          have ZZ := True.intro
          have c2_1_0 : W2.cell? ⟨p1, 0, none⟩ = some (.int .i64 t.x.pc) := b1.cell 0
          have c2_2_0 : W2.cell? ⟨p2, 0, none⟩ = some (.int .i64 u.x.pc) := b2.cell 0
          have c2_1_1 : W2.cell? ⟨p1, 1, none⟩ = some (.int .i64 t.x.fu) := b1.cell 1
          have c2_2_1 : W2.cell? ⟨p2, 1, none⟩ = some (.int .i64 u.x.fu) := b2.cell 1
          have c2_1_2 : W2.cell? ⟨p1, 2, none⟩ = some (.int .i64 t.x.st) := b1.cell 2
          have c2_2_2 : W2.cell? ⟨p2, 2, none⟩ = some (.int .i64 u.x.st) := b2.cell 2
          have g1 := range_part b1 3 t.x.rgc rfl
          have g2 := range_part b2 3 u.x.rgc rfl
          have hq : ∀ W, (binOp BinOp.eql 36 (.agg t.x.rgc.toArray) (.agg u.x.rgc.toArray)).run Try.prog W = .ok (.bool false) W := fun W => by
            have := eq36 t.x u.x W
            rw [decide_eq_false c3] at this
            exact this
          go_enter Try.func34, Try.ntmps34
          go_wp2_with (first | ((with_reducible refine at_load 36 (.tmp 25) ?_); refine wpList_mid (by rfl) 36 (.tmp 25) rfl p1 (3) rfl t.x.rgc _ g1 Try.underlying36 rfl (size36L _) ?_) | ((with_reducible refine at_load 36 (.tmp 27) ?_); refine wpList_mid (by rfl) 36 (.tmp 27) rfl p2 (3) rfl u.x.rgc _ g2 Try.underlying36 rfl (size36L _) ?_))
          go_ret
          first | exact ⟨by rw [HD.out]; try rfl, kk⟩ | (rw [f1] at kk; exact ⟨by rw [HD.out]; try rfl, kk⟩)
      · have HD := Lib.hid (show decide (t.con = u.con) = false from decide_eq_false fun e => c2 (((con_iff t u).1 e).2.2.1))
        have t_c0 : (t.x.pc == u.x.pc) = true := by simpa using c0
        have t_c1 : (t.x.fu == u.x.fu) = true := by simpa using c1
        have t_c2 : (t.x.st == u.x.st) = false := by simpa using c2
        clear c0 c1 c2
        have ZZ := True.intro
        have c2_1_0 : W2.cell? ⟨p1, 0, none⟩ = some (.int .i64 t.x.pc) := b1.cell 0
        have c2_2_0 : W2.cell? ⟨p2, 0, none⟩ = some (.int .i64 u.x.pc) := b2.cell 0
        have c2_1_1 : W2.cell? ⟨p1, 1, none⟩ = some (.int .i64 t.x.fu) := b1.cell 1
        have c2_2_1 : W2.cell? ⟨p2, 1, none⟩ = some (.int .i64 u.x.fu) := b2.cell 1
        have c2_1_2 : W2.cell? ⟨p1, 2, none⟩ = some (.int .i64 t.x.st) := b1.cell 2
        have c2_2_2 : W2.cell? ⟨p2, 2, none⟩ = some (.int .i64 u.x.st) := b2.cell 2
        go_enter Try.func34, Try.ntmps34
        go_wp2_with fail
        go_ret
        first | exact ⟨by rw [HD.out]; try rfl, kk⟩ | (rw [f1] at kk; exact ⟨by rw [HD.out]; try rfl, kk⟩)
    · have HD := Lib.hid (show decide (t.con = u.con) = false from decide_eq_false fun e => c1 (((con_iff t u).1 e).2.1))
      have t_c0 : (t.x.pc == u.x.pc) = true := by simpa using c0
      have t_c1 : (t.x.fu == u.x.fu) = false := by simpa using c1
      clear c0 c1
      have ZZ := True.intro
      have c2_1_0 : W2.cell? ⟨p1, 0, none⟩ = some (.int .i64 t.x.pc) := b1.cell 0
      have c2_2_0 : W2.cell? ⟨p2, 0, none⟩ = some (.int .i64 u.x.pc) := b2.cell 0
      have c2_1_1 : W2.cell? ⟨p1, 1, none⟩ = some (.int .i64 t.x.fu) := b1.cell 1
      have c2_2_1 : W2.cell? ⟨p2, 1, none⟩ = some (.int .i64 u.x.fu) := b2.cell 1
      go_enter Try.func34, Try.ntmps34
      go_wp2_with fail
      go_ret
      first | exact ⟨by rw [HD.out]; try rfl, kk⟩ | (rw [f1] at kk; exact ⟨by rw [HD.out]; try rfl, kk⟩)
  · have HD := Lib.hid (show decide (t.con = u.con) = false from decide_eq_false fun e => c0 (((con_iff t u).1 e).1))
    have t_c0 : (t.x.pc == u.x.pc) = false := by simpa using c0
    clear c0
    have ZZ := True.intro
    have c2_1_0 : W2.cell? ⟨p1, 0, none⟩ = some (.int .i64 t.x.pc) := b1.cell 0
    have c2_2_0 : W2.cell? ⟨p2, 0, none⟩ = some (.int .i64 u.x.pc) := b2.cell 0
    go_enter Try.func34, Try.ntmps34
    go_wp2_with fail
    go_ret
    first | exact ⟨by rw [HD.out]; try rfl, kk⟩ | (rw [f1] at kk; exact ⟨by rw [HD.out]; try rfl, kk⟩)
end Go.Proofs.Ytfmkmmmaoiepmaa
