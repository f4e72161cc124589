/- Whether one of a bag may go, by the plain answer. Conditions: numbers of 64 bits. -/
import Derived.Test.YtllcgidachbnlaaRelease
import Derived.Deep.QuietTactic
namespace Go.Proofs.Ytllcgidachbnlaa
open Go.RowKit Go.ChangeShapes Go.WideShapes Go.Great

/-- May the k-th, b, go? -/
def goesB (c : Cf) (x : Th) (z : List Int) (k : Nat) (b : Bg) : Bool := if c.c = 1 then !decide (b.c ∈ z) else if c.c = 2 then goB b.n x.n else if c.c = 3 then decide ((k : Int) < x.old) else false
theorem takes_next {l : List Bg} {k : Nat} {b : Bg} (hb : l[k]? = some b) (o : Nat) :
    (k < o → (l.take (k + 1)).take o = (l.take k).take o ++ [b] ∧ (l.take (k + 1)).drop o = (l.take k).drop o) ∧
    (o ≤ k → (l.take (k + 1)).take o = (l.take k).take o ∧ (l.take (k + 1)).drop o = (l.take k).drop o ++ [b]) := by
  have hk := (List.getElem?_eq_some_iff.1 hb).1
  have hl : (l.take k).length = k := by rw [List.length_take]; omega
  rw [take_next hb]
  refine ⟨fun h => ⟨?_, ?_⟩, fun h => ⟨?_, ?_⟩⟩
  · have e1 : (l.take k ++ [b]).take o = l.take k ++ [b] := List.take_of_length_le (by rw [List.length_append, hl]; simp; omega)
    have e2 : (l.take k).take o = l.take k := List.take_of_length_le (by omega)
    rw [e1, e2]
  · have e1 : (l.take k ++ [b]).drop o = [] := List.drop_eq_nil_of_le (by rw [List.length_append, hl]; simp; omega)
    have e2 : (l.take k).drop o = [] := List.drop_eq_nil_of_le (by omega)
    rw [e1, e2]
  · rw [List.take_append_of_le_length (by omega)]
  · rw [List.drop_append_of_le_length (by omega)]
theorem both_next {c : Cf} {x : Th} (z : List Int) {l : List Bg} {k : Nat} {b : Bg} (hb : l[k]? = some b) (hl : l.length = x.bg.n) :
    (goesB c x z k b = true → goneL c x z (l.take (k + 1)) = goneL c x z (l.take k) ++ [b] ∧ restL c x z (l.take (k + 1)) = restL c x z (l.take k)) ∧
    (goesB c x z k b = false → goneL c x z (l.take (k + 1)) = goneL c x z (l.take k) ∧ restL c x z (l.take (k + 1)) = restL c x z (l.take k) ++ [b]) := by
  have hk := (List.getElem?_eq_some_iff.1 hb).1
  unfold goesB goneL restL
  by_cases h1 : c.c = 1
  · simp only [if_pos h1]
    have := hparts_next z hb
    refine ⟨fun h => this.2 (by simpa using h), fun h => this.1 (by simpa using h)⟩
  · simp only [if_neg h1]
    by_cases h2 : c.c = 2
    · simp only [if_pos h2]
      exact eparts_next x.n hb
    · simp only [if_neg h2]
      by_cases h3 : c.c = 3
      · simp only [if_pos h3]
        obtain ⟨e, ho⟩ := oldN_cl x
        have hc : (k : Int) < x.old ↔ k < oldN x := by
          have : cl x.old x.bg.n = if x.old < 0 then 0 else if (x.bg.n : Int) < x.old then (x.bg.n : Int) else x.old := rfl
          rw [e] at this
          split at this
          · omega
          · split at this <;> omega
        have := takes_next hb (oldN x)
        refine ⟨fun h => this.1 (hc.1 (of_decide_eq_true h)), fun h => this.2 (by have := of_decide_eq_false h; omega)⟩
      · simp only [if_neg h3]
        exact ⟨fun h => absurd h (by decide), fun _ => ⟨trivial, take_next hb⟩⟩
theorem both_nil (c : Cf) (x : Th) (z : List Int) : goneL c x z [] = [] ∧ restL c x z [] = [] := by
  unfold goneL restL freeL keptL goL stayL
  refine ⟨?_, ?_⟩ <;> (repeat' split) <;> simp
theorem mem_take {z : List Int} {k : Nat} {v y : Int} (hk : k < z.length) (hy : z.getD k 0 = y) : (v ∈ z.take (k + 1) ↔ v ∈ z.take k ∨ v = y) := by
  have : z[k]? = some y := by
    rw [← hy, List.getD, List.getElem?_eq_getElem hk]
    rfl
  rw [List.take_add_one, this]
  simp
theorem plain_go (n e : Int) (hn : Wide n) (he : Wide e) : (decide (wrap64 (e - 2) < e) && decide (n ≤ wrap64 (e - 2))) = goB n e := by
  obtain ⟨n1, n2⟩ := hn
  obtain ⟨e1, e2⟩ := he
  unfold goB wrap64
  rw [Bool.eq_iff_iff]
  simp only [Bool.and_eq_true, decide_eq_true_eq]
  omega
set_option maxRecDepth 100000 in
set_option maxHeartbeats 4000000 in
theorem goes_any {w : World} {x : Th} {z s : List Int} {l : List Bg} (c : Cf) (h : Reads w x z l s) (hw : Wide x.n) {k : Nat} {b : Bg} (hb : l[k]? = some b) (hbw : Wide b.n) (hk1 : k < 1000) :
    Calls Try.prog 30 #[.agg c.cs.toArray, .agg x.cs.toArray, .int .i64 (k : Int)] w fun e w' => e = .returned (.bool (goesB c x z k b)) ∧ Below w.heap.size w w' := by
  obtain ⟨p1, f1⟩ : ∃ p, w.heap.size = p := ⟨_, rfl⟩
  obtain ⟨W1, ea1⟩ : ∃ W, w.alloc (.cells c.cs.toArray 26) = W := ⟨_, rfl⟩
  have ka1 : Below w.heap.size w W1 := by rw [← ea1]; exact (Below.refl _ w).alloc (Nat.le_refl _) _
  have b1 : Blk W1 p1 26 c.cs.toArray := by rw [← ea1]; exact blk_new w _ 26 _ f1
  have kk : Below w.heap.size w W1 := ka1
  have hp1 : w.heap.size ≤ p1 := Nat.le_of_eq f1
  clear ka1
  obtain ⟨p2, f2⟩ : ∃ p, W1.heap.size = p := ⟨_, rfl⟩
  obtain ⟨W2, ea2⟩ : ∃ W, W1.alloc (.cells x.cs.toArray 35) = W := ⟨_, rfl⟩
  have ka2 : Below W1.heap.size W1 W2 := by rw [← ea2]; exact (Below.refl _ W1).alloc (Nat.le_refl _) _
  have b2 : Blk W2 p2 35 x.cs.toArray := by rw [← ea2]; exact blk_new W1 _ 35 _ f2
  have q1_2 : p1 < p2 := by rw [← f2]; exact b1.lt
  replace b1 := b1.on ka2
  have kk0 := kk
  replace kk := kk.trans (ka2.mono kk.size)
  have hp2 : w.heap.size ≤ p2 := by rw [← f2]; exact kk0.size
  clear ka2 kk0
  have hkn : k < x.bg.n := by have := (List.getElem?_eq_some_iff.1 hb).1; have := h.bg.len; omega
  obtain ⟨gB, oB, eB, hr⟩ := (h.on kk).bg.at_ hb
  have hbm := Sees.most h.bg
  have hbr := Sees.room h.bg
  unfold maxLen at hbm
  have hkI : (k : Int) < (x.bg.n : Int) := by omega
  have hk0 : (0 : Int) ≤ (k : Int) := by omega
  have c19 : W2.cell? ⟨p2, 19, none⟩ = some (.slice (some ⟨gB, oB, none⟩) x.bg.n x.bg.cap) := by rw [← eB]; exact b2.cell 19
  have hr2 : W2.rangeAt gB (oB + k * 3) [.int .i64 b.c, .int .i64 b.g, .int .i64 b.n] := hr
  clear hr eB
  obtain ⟨p3, f3⟩ : ∃ p, W2.heap.size = p := ⟨_, rfl⟩
  obtain ⟨W3, ea3⟩ : ∃ W, W2.alloc (.cells #[.int .i64 0, .int .i64 0, .int .i64 0] 48) = W := ⟨_, rfl⟩
  have ka3 : Below W2.heap.size W2 W3 := by rw [← ea3]; exact (Below.refl _ W2).alloc (Nat.le_refl _) _
  have b3 : Blk W3 p3 48 #[.int .i64 0, .int .i64 0, .int .i64 0] := by rw [← ea3]; exact blk_new W2 _ 48 _ f3
  have q1_3 : p1 < p3 := by rw [← f3]; exact b1.lt
  replace b1 := b1.on ka3
  have q2_3 : p2 < p3 := by rw [← f3]; exact b2.lt
  replace b2 := b2.on ka3
  have kk0 := kk
  replace kk := kk.trans (ka3.mono kk.size)
  have hp3 : w.heap.size ≤ p3 := by rw [← f3]; exact kk0.size
  clear ka3 kk0
  by_cases h1 : c.c = 1
  · unfold goesB
    simp only [if_pos h1]
    have t1 : (c.c == 1) = true := beq_iff_eq.2 h1
    obtain ⟨W4, es4⟩ : ∃ W, W3.setRow p3 #[.int .i64 b.c, .int .i64 b.g, .int .i64 b.n] = W := ⟨_, rfl⟩
    have bo3 := b3
    replace b1 := row_far b1 es4 (by omega)
    replace b2 := row_far b2 es4 (by omega)
    replace b3 : Blk W4 p3 48 #[.int .i64 b.c, .int .i64 b.g, .int .i64 b.n] := row_named b3 es4
    replace kk := kk.trans (row_below es4 hp3 kk.size)
    have c4_1_0 : W4.cell? ⟨p1, 0, none⟩ = some (.int .i64 c.c) := b1.cell 0
    have c4_2_18 : W4.cell? ⟨p2, 18, none⟩ = some (.slice x.se.A x.se.n x.se.cap) := b2.cell 18
    have hrs := h.se.on kk
    have hsm := Sees.most hrs
    have hsr := Sees.room hrs
    unfold maxLen at hsm
    have hsl := hrs.len
    have hs63 : (x.se.n : Int) ≤ 9223372036854775807 := by omega
    go_enter Try.func30, Try.ntmps30
    go_wp2_with (first | ((with_reducible refine at_load 48 (.tmp 13) ?_); refine wpList_load_mid rfl 48 (.tmp 13) rfl gB (oB + k * 3) rfl [.int .i64 b.c, .int .i64 b.g, .int .i64 b.n] _ hr2 Try.underlying48 rfl size48 ?_) | ((with_reducible refine at_store 48 (.tmp 7) (.tmp 14) ?_); refine wpList_store_row rfl 48 (.tmp 7) (.tmp 14) rfl p3 #[.int .i64 b.c, .int .i64 b.g, .int .i64 b.n] rfl rfl 48 #[.int .i64 0, .int .i64 0, .int .i64 0] bo3 size48 rfl (by simp [Value.oneCell']) ?_; rw [es4]))
    clear hr2 c19
    go_loopw [8] (fun v wr => ∃ j : Nat, j ≤ x.se.n ∧ v = .int .i64 (j : Int) ∧ ¬ b.c ∈ z.take j ∧ Below W4.heap.size W4 wr) (fun v _ => x.se.n - (intOf v).toNat)
    case atStart => exact ⟨0, Nat.zero_le _, rfl, by simp, Below.refl _ _⟩
    case round =>
      obtain ⟨j, hj, rfl, hno, hb9⟩ := hrel
      have e18 : wr.cell? ⟨p2, 18, none⟩ = some (.slice x.se.A x.se.n x.se.cap) := (b2.on hb9).cell 18
      have e0 : wr.cell? ⟨p3, 0, none⟩ = some (.int .i64 b.c) := (b3.on hb9).cell 0
      have hbz := kk.trans (hb9.mono kk.size)
      have HZ := Lib.hid hbz
      by_cases hlt : j < x.se.n
      · obtain ⟨g, o, eA, y0⟩ := (hrs.on hb9).get hlt
        have hmt := mem_take (z := z) (k := j) (v := b.c) (y := z.getD j 0) (by omega) rfl
        generalize z.getD j 0 = y at *
        rw [eA] at e18
        have hjI : (j : Int) < (x.se.n : Int) := by omega
        have hj0 : (0 : Int) ≤ (j : Int) := by omega
        by_cases hy : y = b.c
        · have ty : (y == b.c) = true := beq_iff_eq.2 hy
          have hm : b.c ∈ z := List.mem_of_mem_take (hmt.2 (.inr hy.symm))
          have HM := Lib.hid hm
          clear hmt hno hm hy
          go_wp2
          go_quiet (fail)
          go_wp2
          go_ret
          have tm : (!decide (b.c ∈ z)) = false := by simp [HM.out]
          rw [tm]
          exact ⟨rfl, below_dn (by first | exact HZ.out | (rw [← f1]; exact HZ.out)) _⟩
        · have ty : (y == b.c) = false := by simpa using hy
          have HM := Lib.hid (show ¬ b.c ∈ z.take (j + 1) from fun e => (hmt.1 e).elim hno (fun e => hy e.symm))
          clear hmt hno hy
          go_wp2
          go_quiet (fail)
          go_wp2
          go_roundw
          case rel => exact ⟨j + 1, by omega, by go_num, HM.out, below_dn hb9 _⟩
          case measure => simp [intOf]; omega
      · have hjn : j = x.se.n := by omega
        have HM := Lib.hid (show ¬ b.c ∈ z by rw [← List.take_of_length_le (l := z) (i := j) (by omega)]; exact hno)
        clear hno
        have hjI : ¬ (j : Int) < (x.se.n : Int) := by omega
        go_wp2
        go_ret
        have tm : (!decide (b.c ∈ z)) = true := by simp [HM.out]
        rw [tm]
        first | exact ⟨rfl, HZ.out⟩ | (rw [← f1]; exact ⟨rfl, HZ.out⟩)
  · by_cases h2 : c.c = 2
    · by_cases h4 : wrap64 (x.n - 2) < x.n
      · unfold goesB
        simp only [if_neg h1, if_pos h2]
        have t1 : (c.c == 1) = false := by simpa using h1
        have t2 : (c.c == 2) = true := beq_iff_eq.2 h2
        obtain ⟨W4, es4⟩ : ∃ W, W3.setRow p3 #[.int .i64 b.c, .int .i64 b.g, .int .i64 b.n] = W := ⟨_, rfl⟩
        have bo3 := b3
        replace b1 := row_far b1 es4 (by omega)
        replace b2 := row_far b2 es4 (by omega)
        replace b3 : Blk W4 p3 48 #[.int .i64 b.c, .int .i64 b.g, .int .i64 b.n] := row_named b3 es4
        replace kk := kk.trans (row_below es4 hp3 kk.size)
        have c4_1_0 : W4.cell? ⟨p1, 0, none⟩ = some (.int .i64 c.c) := b1.cell 0
        have c4_2_17 : W4.cell? ⟨p2, 17, none⟩ = some (.int .i64 x.n) := b2.cell 17
        have c4_3_2 : W4.cell? ⟨p3, 2, none⟩ = some (.int .i64 b.n) := b3.cell 2
        have hpg := plain_go b.n x.n hbw hw
        rw [decide_eq_true h4] at hpg
        have t4 : decide (wrap64 (x.n - 2) < x.n) = true := decide_eq_true h4
        have HG := Lib.hid hpg
        clear hpg
        go_enter Try.func30, Try.ntmps30
        go_wp2_with (first | ((with_reducible refine at_load 48 (.tmp 13) ?_); refine wpList_load_mid rfl 48 (.tmp 13) rfl gB (oB + k * 3) rfl [.int .i64 b.c, .int .i64 b.g, .int .i64 b.n] _ hr2 Try.underlying48 rfl size48 ?_) | ((with_reducible refine at_store 48 (.tmp 7) (.tmp 14) ?_); refine wpList_store_row rfl 48 (.tmp 7) (.tmp 14) rfl p3 #[.int .i64 b.c, .int .i64 b.g, .int .i64 b.n] rfl rfl 48 #[.int .i64 0, .int .i64 0, .int .i64 0] bo3 size48 rfl (by simp [Value.oneCell']) ?_; rw [es4]))
        go_ret
        rw [← HG.out]
        first | exact ⟨by simp, kk⟩ | (rw [f1] at kk; exact ⟨by simp, kk⟩)
      · unfold goesB
        simp only [if_neg h1, if_pos h2]
        have t1 : (c.c == 1) = false := by simpa using h1
        have t2 : (c.c == 2) = true := beq_iff_eq.2 h2
        obtain ⟨W4, es4⟩ : ∃ W, W3.setRow p3 #[.int .i64 b.c, .int .i64 b.g, .int .i64 b.n] = W := ⟨_, rfl⟩
        have bo3 := b3
        replace b1 := row_far b1 es4 (by omega)
        replace b2 := row_far b2 es4 (by omega)
        replace b3 : Blk W4 p3 48 #[.int .i64 b.c, .int .i64 b.g, .int .i64 b.n] := row_named b3 es4
        replace kk := kk.trans (row_below es4 hp3 kk.size)
        have c4_1_0 : W4.cell? ⟨p1, 0, none⟩ = some (.int .i64 c.c) := b1.cell 0
        have c4_2_17 : W4.cell? ⟨p2, 17, none⟩ = some (.int .i64 x.n) := b2.cell 17
        have c4_3_2 : W4.cell? ⟨p3, 2, none⟩ = some (.int .i64 b.n) := b3.cell 2
        have hpg := plain_go b.n x.n hbw hw
        rw [decide_eq_false h4] at hpg
        have t4 : decide (wrap64 (x.n - 2) < x.n) = false := decide_eq_false h4
        have HG := Lib.hid hpg
        clear hpg
        go_enter Try.func30, Try.ntmps30
        go_wp2_with (first | ((with_reducible refine at_load 48 (.tmp 13) ?_); refine wpList_load_mid rfl 48 (.tmp 13) rfl gB (oB + k * 3) rfl [.int .i64 b.c, .int .i64 b.g, .int .i64 b.n] _ hr2 Try.underlying48 rfl size48 ?_) | ((with_reducible refine at_store 48 (.tmp 7) (.tmp 14) ?_); refine wpList_store_row rfl 48 (.tmp 7) (.tmp 14) rfl p3 #[.int .i64 b.c, .int .i64 b.g, .int .i64 b.n] rfl rfl 48 #[.int .i64 0, .int .i64 0, .int .i64 0] bo3 size48 rfl (by simp [Value.oneCell']) ?_; rw [es4]))
        go_ret
        rw [← HG.out]
        first | exact ⟨by simp, kk⟩ | (rw [f1] at kk; exact ⟨by simp, kk⟩)
    · by_cases h3 : c.c = 3
      · unfold goesB
        simp only [if_neg h1, if_neg h2, if_pos h3]
        have t1 : (c.c == 1) = false := by simpa using h1
        have t2 : (c.c == 2) = false := by simpa using h2
        have t3 : (c.c == 3) = true := beq_iff_eq.2 h3
        obtain ⟨W4, es4⟩ : ∃ W, W3.setRow p3 #[.int .i64 b.c, .int .i64 b.g, .int .i64 b.n] = W := ⟨_, rfl⟩
        have bo3 := b3
        replace b1 := row_far b1 es4 (by omega)
        replace b2 := row_far b2 es4 (by omega)
        replace b3 : Blk W4 p3 48 #[.int .i64 b.c, .int .i64 b.g, .int .i64 b.n] := row_named b3 es4
        replace kk := kk.trans (row_below es4 hp3 kk.size)
        have c4_1_0 : W4.cell? ⟨p1, 0, none⟩ = some (.int .i64 c.c) := b1.cell 0
        have c4_2_21 : W4.cell? ⟨p2, 21, none⟩ = some (.int .i64 x.old) := b2.cell 21
        go_enter Try.func30, Try.ntmps30
        go_wp2_with (first | ((with_reducible refine at_load 48 (.tmp 13) ?_); refine wpList_load_mid rfl 48 (.tmp 13) rfl gB (oB + k * 3) rfl [.int .i64 b.c, .int .i64 b.g, .int .i64 b.n] _ hr2 Try.underlying48 rfl size48 ?_) | ((with_reducible refine at_store 48 (.tmp 7) (.tmp 14) ?_); refine wpList_store_row rfl 48 (.tmp 7) (.tmp 14) rfl p3 #[.int .i64 b.c, .int .i64 b.g, .int .i64 b.n] rfl rfl 48 #[.int .i64 0, .int .i64 0, .int .i64 0] bo3 size48 rfl (by simp [Value.oneCell']) ?_; rw [es4]))
        go_ret
        first | exact ⟨rfl, kk⟩ | (rw [f1] at kk; exact ⟨rfl, kk⟩)
      · unfold goesB
        simp only [if_neg h1, if_neg h2, if_neg h3]
        have t1 : (c.c == 1) = false := by simpa using h1
        have t2 : (c.c == 2) = false := by simpa using h2
        have t3 : (c.c == 3) = false := by simpa using h3
        obtain ⟨W4, es4⟩ : ∃ W, W3.setRow p3 #[.int .i64 b.c, .int .i64 b.g, .int .i64 b.n] = W := ⟨_, rfl⟩
        have bo3 := b3
        replace b1 := row_far b1 es4 (by omega)
        replace b2 := row_far b2 es4 (by omega)
        replace b3 : Blk W4 p3 48 #[.int .i64 b.c, .int .i64 b.g, .int .i64 b.n] := row_named b3 es4
        replace kk := kk.trans (row_below es4 hp3 kk.size)
        have c4_1_0 : W4.cell? ⟨p1, 0, none⟩ = some (.int .i64 c.c) := b1.cell 0
        go_enter Try.func30, Try.ntmps30
        go_wp2_with (first | ((with_reducible refine at_load 48 (.tmp 13) ?_); refine wpList_load_mid rfl 48 (.tmp 13) rfl gB (oB + k * 3) rfl [.int .i64 b.c, .int .i64 b.g, .int .i64 b.n] _ hr2 Try.underlying48 rfl size48 ?_) | ((with_reducible refine at_store 48 (.tmp 7) (.tmp 14) ?_); refine wpList_store_row rfl 48 (.tmp 7) (.tmp 14) rfl p3 #[.int .i64 b.c, .int .i64 b.g, .int .i64 b.n] rfl rfl 48 #[.int .i64 0, .int .i64 0, .int .i64 0] bo3 size48 rfl (by simp [Value.oneCell']) ?_; rw [es4]))
        go_ret
        first | exact ⟨rfl, kk⟩ | (rw [f1] at kk; exact ⟨rfl, kk⟩)
end Go.Proofs.Ytllcgidachbnlaa
