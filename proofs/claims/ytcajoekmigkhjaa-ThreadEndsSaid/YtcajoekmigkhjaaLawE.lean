/- With instructions that touch nothing shared a thread is done behind at most as many as it has fuel. Conditions: none. -/
import Derived.Test.YtcajoekmigkhjaaLawD
import Derived.Deep.LoopGhost
namespace Go.Proofs.Ytcajoekmigkhjaa
open Go.RowKit Go.ChangeShapes Go.WideShapes Go.Great

theorem reads_any {w W : World} {x : Th} (h : Reads w x [] [] []) : Reads W x [] [] [] := by
  obtain ⟨n1, n2, n3⟩ := nil_n h
  exact ⟨⟨Sees.len h.se, Sees.room h.se, Sees.most h.se, Sees.none_ h.se, fun _ _ h0 => by omega⟩, ⟨Sees.len h.bg, Sees.room h.bg, Sees.most h.bg, Sees.none_ h.bg, fun _ _ h0 => by omega⟩, ⟨Sees.len h.sn, Sees.room h.sn, Sees.most h.sn, Sees.none_ h.sn, fun _ _ h0 => by omega⟩⟩
/-- How the thread stands behind so many instructions, begun with so much fuel. -/
structure Runs (F : Int) (j : Nat) (y : Th) : Prop where
  le : (j : Int) ≤ F
  fu : y.fu = F - j
  k : y.k = 0
theorem runs_next {F : Int} {j : Nat} {y y1 y2 : Th} {i : Ins} {m : Nat} (h : Runs F j y) (hF : F ≤ 16) (hd : doneB y m = false) (e1 : ∃ a b c, y1 = (stT y).put a b c) (e2 : ∃ a b c, y2 = (locT y1 i).put a b c) : Runs F (j + 1) y2 := by
  obtain ⟨a, b, c, rfl⟩ := e1
  obtain ⟨a', b', c', rfl⟩ := e2
  have hk : (y.k == 0) = true := by simpa using h.k
  have hp : ¬ y.fu ≤ 0 := fun hle => by
    unfold doneB at hd
    rw [hk, decide_eq_true hle] at hd
    simp at hd
  have hf := h.fu
  have hl := h.le
  obtain ⟨l1, l2, _⟩ := locT_st ((stT y).put a b c) i
  refine ⟨by omega, ?_, ?_⟩
  · show (locT ((stT y).put a b c) i).fu = _
    rw [l1]
    show wrap64 (y.fu - 1) = _
    unfold wrap64
    omega
  · show (locT ((stT y).put a b c) i).k = 0
    rw [l2]
    exact h.k
set_option maxRecDepth 100000 in
set_option maxHeartbeats 4000000 in
theorem ends_any {w : World} (c : Cf) {A : Option Addr} {n cap : Nat} {c0 : List Ins} (h : SeesL w A n cap c0) : Calls Try.prog 7 #[.agg c.cs.toArray, .slice A n cap] w fun e w' => e = .returned (.bool true) ∧ Below w.heap.size w w' := by
  obtain ⟨p1, f1⟩ : ∃ p, w.heap.size = p := ⟨_, rfl⟩
  obtain ⟨W1, ea1⟩ : ∃ W, w.alloc (.cells c.cs.toArray 23) = W := ⟨_, rfl⟩
  have ka1 : Below w.heap.size w W1 := by rw [← ea1]; exact (Below.refl _ w).alloc (Nat.le_refl _) _
  have b1 : Blk W1 p1 23 c.cs.toArray := by rw [← ea1]; exact blk_new w _ 23 _ f1
  have kk : Below w.heap.size w W1 := ka1
  have hp1 : w.heap.size ≤ p1 := Nat.le_of_eq f1
  clear ka1
  have hmx := Sees.most h
  have hrm := Sees.room h
  have hno := Sees.none_ h
  unfold maxLen at hmx
  have n63 : (n : Int) ≤ 9223372036854775807 := by omega
  go_enter Try.func7, Try.ntmps7
  go_wp2_with fail
  clear f1
  refine (alive_any _).mono ?_
  rintro e W2 ⟨rfl, k1⟩
  replace b1 := b1.on k1
  replace kk := kk.trans (k1.mono kk.size)
  clear k1
  by_cases hn : 20 < n
  · have t0 : decide ((20 : Int) < (n : Int)) = true := decide_eq_true (by omega)
    have hcut : ∀ W, (Instr.slice 39 (.slice A n cap) none (some (.int .i64 20)) none).run Try.prog W = .ok (.slice A 20 cap) W := fun W => upto39 A n cap 20 (by omega) hno W
    have h1 : SeesL w A 20 cap (c0.take 20) := h.first 20 (by omega)
    have h2 : 20 ≤ 1000 := by omega
    generalize c0.take 20 = cc at h1
    clear h hn hmx hrm hno
    obtain ⟨F0, F16⟩ := cl_of c.f 16 (by omega)
    have bg := fun W => begin_any c W
    have nr := fun W => near_any c.f 16 W
    generalize cl c.f 16 = F at *
    go_wp2_with (((with_reducible refine at_load 23 (.tmp 2) ?_); refine wpList_load_row rfl 23 (.tmp 2) rfl p1 rfl 23 c.cs.toArray (0, 0) _ b1 Try.underlying23 rfl size23 ?_))
    refine (bg _).mono ?_
    rintro e W3 ⟨rfl, k2⟩
    replace b1 := b1.on k2
    replace kk := kk.trans (k2.mono kk.size)
    clear k2
    obtain ⟨p2, f2⟩ : ∃ p, W3.heap.size = p := ⟨_, rfl⟩
    obtain ⟨W4, ea4⟩ : ∃ W, W3.alloc (.cells #[.int .i64 0, .int .i64 0, .int .i64 0, .int .i64 0, .int .i64 0, .int .i64 0, .int .i64 0, .int .i64 0, .int .i64 0, .int .i64 0, .int .i64 0, .int .i64 0, .int .i64 0, .int .i64 0, .int .i64 0, .int .i64 0, .int .i64 0, .int .i64 0, .slice none 0 0, .slice none 0 0, .slice none 0 0, .int .i64 0] 32) = W := ⟨_, rfl⟩
    have ka4 : Below W3.heap.size W3 W4 := by rw [← ea4]; exact (Below.refl _ W3).alloc (Nat.le_refl _) _
    have b2 : Blk W4 p2 32 #[.int .i64 0, .int .i64 0, .int .i64 0, .int .i64 0, .int .i64 0, .int .i64 0, .int .i64 0, .int .i64 0, .int .i64 0, .int .i64 0, .int .i64 0, .int .i64 0, .int .i64 0, .int .i64 0, .int .i64 0, .int .i64 0, .int .i64 0, .int .i64 0, .slice none 0 0, .slice none 0 0, .slice none 0 0, .int .i64 0] := by rw [← ea4]; exact blk_new W3 _ 32 _ f2
    have q1_2 : p1 < p2 := by rw [← f2]; exact b1.lt
    replace b1 := b1.on ka4
    have kk0 := kk
    replace kk := kk.trans (ka4.mono kk.size)
    have hp2 : w.heap.size ≤ p2 := by rw [← f2]; exact kk0.size
    clear ka4 kk0
    obtain ⟨W5, es5⟩ : ∃ W, W4.setRow p2 (begT F).cs.toArray = W := ⟨_, rfl⟩
    have bo2 := b2
    replace b1 := row_far b1 es5 (by omega)
    replace b2 : Blk W5 p2 32 (begT F).cs.toArray := row_named b2 es5
    replace kk := kk.trans (row_below es5 hp2 kk.size)
    have bo2_ := bo2
    have rb := begT_reads W5 F
    go_wp2_with (((with_reducible refine at_store 32 (.tmp 5) (.tmp 18) ?_); refine wpList_store_row rfl 32 (.tmp 5) (.tmp 18) rfl p2 (begT F).cs.toArray rfl rfl 32 #[.int .i64 0, .int .i64 0, .int .i64 0, .int .i64 0, .int .i64 0, .int .i64 0, .int .i64 0, .int .i64 0, .int .i64 0, .int .i64 0, .int .i64 0, .int .i64 0, .int .i64 0, .int .i64 0, .int .i64 0, .int .i64 0, .int .i64 0, .int .i64 0, .slice none 0 0, .slice none 0 0, .slice none 0 0, .int .i64 0] bo2_ (sizeT _) rfl (Th.onea _) ?_; rw [es5]))
    have hne : p2 ≠ p1 := by omega
    skip
    go_loopw [6, 7] (fun v6 v7 wr => ∃ (j : Nat) (y : Th), v6 = .int .i64 (j : Int) ∧ v7 = .int .i64 (j : Int) ∧ Runs F j y ∧ Reads wr y [] [] [] ∧ Below w.heap.size w wr ∧ Blk wr p1 23 c.cs.toArray ∧ Blk wr p2 32 y.cs.toArray) (fun v6 _ _ => 40 - (intOf v6).toNat)
    case atStart => exact ⟨0, begT F, rfl, rfl, ⟨by simpa using F0, by show F = _; omega, rfl⟩, rb, kk, b1, b2⟩
    case round =>
      clear kk b1 b2 rb
      obtain ⟨j, y, rfl, rfl, hR, rY, kk, b1, b2⟩ := hrel
      have hl := hR.le
      have tj : decide ((j : Int) < 40) = true := decide_eq_true (by omega)
      have j0 : (0 : Int) ≤ (j : Int) := by omega
      have dn := fun W => done_any y A 20 cap h2 W
      have nx : ∀ W, Below w.heap.size w W → Calls Try.prog 17 #[.agg y.cs.toArray, .slice A 20 cap] W _ := fun W hW => next_any (h1.on hW) h2
      have eN : nextB y 20 = (y.k == 0 && !doneB y 20) := rfl
      rw [show (y.k == 0) = true by simpa using hR.k, Bool.true_and] at eN
      cases hd : doneB y 20 with
      | true =>
        simp only [hd] at dn
        rw [hd] at eN
        clear eN nx hd
        go_wp2_with (((with_reducible refine at_load 32 (.tmp 5) ?_); refine wpList_mid (by rfl) 32 (.tmp 5) rfl p2 0 rfl y.cs _ (range_blk b2) Try.underlying32 rfl (sizeT _) ?_))
        refine (dn _).mono ?_
        rintro e W131 ⟨rfl, k3⟩
        replace b1 := b1.on k3
        replace b2 := b2.on k3
        replace kk := kk.trans (k3.mono kk.size)
        clear k3
        have lt0 : decide ((j : Int) ≤ F) = true := decide_eq_true hl
        have c131_1_3 : W131.cell? ⟨p1, 3, none⟩ = some (.int .i64 c.f) := b1.cell 3
        go_wp2_with (first | (go_at_call 13; refine (nr _).mono ?_; rintro e w' ⟨rfl, rfl⟩) | ((with_reducible refine at_load 32 (.tmp 5) ?_); refine wpList_mid (by rfl) 32 (.tmp 5) rfl p2 0 rfl y.cs _ (range_blk b2) Try.underlying32 rfl (sizeT _) ?_))
        refine (dn _).mono ?_
        rintro e W132 ⟨rfl, k4⟩
        clear c131_1_3
        replace b1 := b1.on k4
        replace b2 := b2.on k4
        replace kk := kk.trans (k4.mono kk.size)
        clear k4
        go_wp2_with fail
        go_ret
        exact ⟨rfl, kk⟩
      | false =>
        simp only [hd] at dn
        rw [hd] at eN
        rw [Bool.not_false] at eN
        simp only [eN] at nx
        go_wp2_with (((with_reducible refine at_load 32 (.tmp 5) ?_); refine wpList_mid (by rfl) 32 (.tmp 5) rfl p2 0 rfl y.cs _ (range_blk b2) Try.underlying32 rfl (sizeT _) ?_))
        refine (dn _).mono ?_
        rintro e W31 ⟨rfl, k3⟩
        replace b1 := b1.on k3
        replace b2 := b2.on k3
        replace kk := kk.trans (k3.mono kk.size)
        clear k3
        have nx1 := nx _ kk
        clear dn nx
        generalize nextI y 20 cc = I at nx1
        go_wp2_with (((with_reducible refine at_load 32 (.tmp 5) ?_); refine wpList_load_row rfl 32 (.tmp 5) rfl p2 rfl 32 y.cs.toArray (0, 0) _ b2 Try.underlying32 rfl (sizeT _) ?_))
        refine (nx1).mono ?_
        rintro e W32 ⟨rfl, k4⟩
        replace b1 := b1.on k4
        replace b2 := b2.on k4
        replace kk := kk.trans (k4.mono kk.size)
        clear k4
        clear nx1
        obtain ⟨p3, f3⟩ : ∃ p, W32.heap.size = p := ⟨_, rfl⟩
        obtain ⟨W33, ea33⟩ : ∃ W, W32.alloc (.cells #[.int .i64 0, .int .i64 0, .int .i64 0, .int .i64 0, .int .i64 0] 42) = W := ⟨_, rfl⟩
        have ka33 : Below W32.heap.size W32 W33 := by rw [← ea33]; exact (Below.refl _ W32).alloc (Nat.le_refl _) _
        have b3 : Blk W33 p3 42 #[.int .i64 0, .int .i64 0, .int .i64 0, .int .i64 0, .int .i64 0] := by rw [← ea33]; exact blk_new W32 _ 42 _ f3
        have q1_3 : p1 < p3 := by rw [← f3]; exact b1.lt
        replace b1 := b1.on ka33
        have q2_3 : p2 < p3 := by rw [← f3]; exact b2.lt
        replace b2 := b2.on ka33
        have kk0 := kk
        replace kk := kk.trans (ka33.mono kk.size)
        have hp3 : w.heap.size ≤ p3 := by rw [← f3]; exact kk0.size
        clear ka33 kk0
        obtain ⟨W34, es34⟩ : ∃ W, W33.setRow p3 I.cs.toArray = W := ⟨_, rfl⟩
        have bo3 := b3
        replace b1 := row_far b1 es34 (by omega)
        replace b2 := row_far b2 es34 (by omega)
        replace b3 : Blk W34 p3 42 I.cs.toArray := row_named b3 es34
        replace kk := kk.trans (row_below es34 hp3 kk.size)
        have bo3_ := bo3
        have d1 := start_nil (reads_any (W := W34) rY)
        go_wp2_with (first | ((with_reducible refine at_store 42 (.tmp 8) (.tmp 33) ?_); refine wpList_store_row rfl 42 (.tmp 8) (.tmp 33) rfl p3 I.cs.toArray rfl rfl 42 #[.int .i64 0, .int .i64 0, .int .i64 0, .int .i64 0, .int .i64 0] bo3_ size42 rfl (Ins.onea _) ?_; rw [es34]) | ((with_reducible refine at_load 32 (.tmp 5) ?_); refine wpList_load_row rfl 32 (.tmp 5) rfl p2 rfl 32 y.cs.toArray (0, 0) _ b2 Try.underlying32 rfl (sizeT _) ?_))
        refine (d1).mono ?_
        rintro e W35 ⟨y1, rfl, hy1, ry1, k5⟩
        replace b1 := b1.on k5
        replace b2 := b2.on k5
        replace b3 := b3.on k5
        replace kk := kk.trans (k5.mono kk.size)
        clear k5
        clear d1
        obtain ⟨W36, es36⟩ : ∃ W, W35.setRow p2 y1.cs.toArray = W := ⟨_, rfl⟩
        have bo2 := b2
        replace b1 := row_far b1 es36 (by omega)
        replace b3 := row_far b3 es36 (by omega)
        replace b2 : Blk W36 p2 32 y1.cs.toArray := row_named b2 es36
        replace kk := kk.trans (row_below es36 hp2 kk.size)
        have bo2a := bo2
        have d1 := local_nil I (reads_any (W := W36) ry1)
        go_wp2_with (first | ((with_reducible refine at_store 32 (.tmp 5) (.tmp 38) ?_); refine wpList_store_row rfl 32 (.tmp 5) (.tmp 38) rfl p2 y1.cs.toArray rfl rfl 32 y.cs.toArray bo2a (sizeT _) rfl (Th.onea _) ?_; rw [es36]) | ((with_reducible refine at_load 32 (.tmp 5) ?_); refine wpList_load_row rfl 32 (.tmp 5) rfl p2 rfl 32 y1.cs.toArray (0, 0) _ b2 Try.underlying32 rfl (sizeT _) ?_) | ((with_reducible refine at_load 42 (.tmp 8) ?_); refine wpList_load_row rfl 42 (.tmp 8) rfl p3 rfl 42 I.cs.toArray (0, 0) _ b3 Try.underlying42 rfl size42 ?_))
        refine (d1).mono ?_
        rintro e W37 ⟨y2, rfl, hy2, ry2, k6⟩
        replace b1 := b1.on k6
        replace b2 := b2.on k6
        replace b3 := b3.on k6
        replace kk := kk.trans (k6.mono kk.size)
        clear k6
        clear d1
        obtain ⟨W38, es38⟩ : ∃ W, W37.setRow p2 y2.cs.toArray = W := ⟨_, rfl⟩
        have bo2 := b2
        replace b1 := row_far b1 es38 (by omega)
        replace b3 := row_far b3 es38 (by omega)
        replace b2 : Blk W38 p2 32 y2.cs.toArray := row_named b2 es38
        replace kk := kk.trans (row_below es38 hp2 kk.size)
        have bo2b := bo2
        have hN := runs_next hR F16 hd hy1 hy2
        clear hy1 hy2
        go_wp2_with (((with_reducible refine at_store 32 (.tmp 5) (.tmp 43) ?_); refine wpList_store_row rfl 32 (.tmp 5) (.tmp 43) rfl p2 y2.cs.toArray rfl rfl 32 y1.cs.toArray bo2b (sizeT _) rfl (Th.onea _) ?_; rw [es38]))
        go_roundw
        case rel => exact ⟨j + 1, y2, by go_num, by go_num, hN, reads_any ry2, kk, b1, b2⟩
        case measure => simp [intOf]; omega
  · have t0 : decide ((20 : Int) < (n : Int)) = false := decide_eq_false (by omega)
    have h1 : SeesL w A n cap (c0.take n) := h.first n (by omega)
    have h2 : n ≤ 1000 := by omega
    generalize c0.take n = cc at h1
    clear h hn hmx hrm hno
    obtain ⟨F0, F16⟩ := cl_of c.f 16 (by omega)
    have bg := fun W => begin_any c W
    have nr := fun W => near_any c.f 16 W
    generalize cl c.f 16 = F at *
    go_wp2_with (((with_reducible refine at_load 23 (.tmp 2) ?_); refine wpList_load_row rfl 23 (.tmp 2) rfl p1 rfl 23 c.cs.toArray (0, 0) _ b1 Try.underlying23 rfl size23 ?_))
    refine (bg _).mono ?_
    rintro e W3 ⟨rfl, k2⟩
    replace b1 := b1.on k2
    replace kk := kk.trans (k2.mono kk.size)
    clear k2
    obtain ⟨p2, f2⟩ : ∃ p, W3.heap.size = p := ⟨_, rfl⟩
    obtain ⟨W4, ea4⟩ : ∃ W, W3.alloc (.cells #[.int .i64 0, .int .i64 0, .int .i64 0, .int .i64 0, .int .i64 0, .int .i64 0, .int .i64 0, .int .i64 0, .int .i64 0, .int .i64 0, .int .i64 0, .int .i64 0, .int .i64 0, .int .i64 0, .int .i64 0, .int .i64 0, .int .i64 0, .int .i64 0, .slice none 0 0, .slice none 0 0, .slice none 0 0, .int .i64 0] 32) = W := ⟨_, rfl⟩
    have ka4 : Below W3.heap.size W3 W4 := by rw [← ea4]; exact (Below.refl _ W3).alloc (Nat.le_refl _) _
    have b2 : Blk W4 p2 32 #[.int .i64 0, .int .i64 0, .int .i64 0, .int .i64 0, .int .i64 0, .int .i64 0, .int .i64 0, .int .i64 0, .int .i64 0, .int .i64 0, .int .i64 0, .int .i64 0, .int .i64 0, .int .i64 0, .int .i64 0, .int .i64 0, .int .i64 0, .int .i64 0, .slice none 0 0, .slice none 0 0, .slice none 0 0, .int .i64 0] := by rw [← ea4]; exact blk_new W3 _ 32 _ f2
    have q1_2 : p1 < p2 := by rw [← f2]; exact b1.lt
    replace b1 := b1.on ka4
    have kk0 := kk
    replace kk := kk.trans (ka4.mono kk.size)
    have hp2 : w.heap.size ≤ p2 := by rw [← f2]; exact kk0.size
    clear ka4 kk0
    obtain ⟨W5, es5⟩ : ∃ W, W4.setRow p2 (begT F).cs.toArray = W := ⟨_, rfl⟩
    have bo2 := b2
    replace b1 := row_far b1 es5 (by omega)
    replace b2 : Blk W5 p2 32 (begT F).cs.toArray := row_named b2 es5
    replace kk := kk.trans (row_below es5 hp2 kk.size)
    have bo2_ := bo2
    have rb := begT_reads W5 F
    go_wp2_with (((with_reducible refine at_store 32 (.tmp 5) (.tmp 18) ?_); refine wpList_store_row rfl 32 (.tmp 5) (.tmp 18) rfl p2 (begT F).cs.toArray rfl rfl 32 #[.int .i64 0, .int .i64 0, .int .i64 0, .int .i64 0, .int .i64 0, .int .i64 0, .int .i64 0, .int .i64 0, .int .i64 0, .int .i64 0, .int .i64 0, .int .i64 0, .int .i64 0, .int .i64 0, .int .i64 0, .int .i64 0, .int .i64 0, .int .i64 0, .slice none 0 0, .slice none 0 0, .slice none 0 0, .int .i64 0] bo2_ (sizeT _) rfl (Th.onea _) ?_; rw [es5]))
    have hne : p2 ≠ p1 := by omega
    skip
    go_loopw [6, 7] (fun v6 v7 wr => ∃ (j : Nat) (y : Th), v6 = .int .i64 (j : Int) ∧ v7 = .int .i64 (j : Int) ∧ Runs F j y ∧ Reads wr y [] [] [] ∧ Below w.heap.size w wr ∧ Blk wr p1 23 c.cs.toArray ∧ Blk wr p2 32 y.cs.toArray) (fun v6 _ _ => 40 - (intOf v6).toNat)
    case atStart => exact ⟨0, begT F, rfl, rfl, ⟨by simpa using F0, by show F = _; omega, rfl⟩, rb, kk, b1, b2⟩
    case round =>
      clear kk b1 b2 rb
      obtain ⟨j, y, rfl, rfl, hR, rY, kk, b1, b2⟩ := hrel
      have hl := hR.le
      have tj : decide ((j : Int) < 40) = true := decide_eq_true (by omega)
      have j0 : (0 : Int) ≤ (j : Int) := by omega
      have dn := fun W => done_any y A n cap h2 W
      have nx : ∀ W, Below w.heap.size w W → Calls Try.prog 17 #[.agg y.cs.toArray, .slice A n cap] W _ := fun W hW => next_any (h1.on hW) h2
      have eN : nextB y n = (y.k == 0 && !doneB y n) := rfl
      rw [show (y.k == 0) = true by simpa using hR.k, Bool.true_and] at eN
      cases hd : doneB y n with
      | true =>
        simp only [hd] at dn
        rw [hd] at eN
        clear eN nx hd
        go_wp2_with (((with_reducible refine at_load 32 (.tmp 5) ?_); refine wpList_mid (by rfl) 32 (.tmp 5) rfl p2 0 rfl y.cs _ (range_blk b2) Try.underlying32 rfl (sizeT _) ?_))
        refine (dn _).mono ?_
        rintro e W131 ⟨rfl, k3⟩
        replace b1 := b1.on k3
        replace b2 := b2.on k3
        replace kk := kk.trans (k3.mono kk.size)
        clear k3
        have lt0 : decide ((j : Int) ≤ F) = true := decide_eq_true hl
        have c131_1_3 : W131.cell? ⟨p1, 3, none⟩ = some (.int .i64 c.f) := b1.cell 3
        go_wp2_with (first | (go_at_call 13; refine (nr _).mono ?_; rintro e w' ⟨rfl, rfl⟩) | ((with_reducible refine at_load 32 (.tmp 5) ?_); refine wpList_mid (by rfl) 32 (.tmp 5) rfl p2 0 rfl y.cs _ (range_blk b2) Try.underlying32 rfl (sizeT _) ?_))
        refine (dn _).mono ?_
        rintro e W132 ⟨rfl, k4⟩
        clear c131_1_3
        replace b1 := b1.on k4
        replace b2 := b2.on k4
        replace kk := kk.trans (k4.mono kk.size)
        clear k4
        go_wp2_with fail
        go_ret
        exact ⟨rfl, kk⟩
      | false =>
        simp only [hd] at dn
        rw [hd] at eN
        rw [Bool.not_false] at eN
        simp only [eN] at nx
        go_wp2_with (((with_reducible refine at_load 32 (.tmp 5) ?_); refine wpList_mid (by rfl) 32 (.tmp 5) rfl p2 0 rfl y.cs _ (range_blk b2) Try.underlying32 rfl (sizeT _) ?_))
        refine (dn _).mono ?_
        rintro e W31 ⟨rfl, k3⟩
        replace b1 := b1.on k3
        replace b2 := b2.on k3
        replace kk := kk.trans (k3.mono kk.size)
        clear k3
        have nx1 := nx _ kk
        clear dn nx
        generalize nextI y n cc = I at nx1
        go_wp2_with (((with_reducible refine at_load 32 (.tmp 5) ?_); refine wpList_load_row rfl 32 (.tmp 5) rfl p2 rfl 32 y.cs.toArray (0, 0) _ b2 Try.underlying32 rfl (sizeT _) ?_))
        refine (nx1).mono ?_
        rintro e W32 ⟨rfl, k4⟩
        replace b1 := b1.on k4
        replace b2 := b2.on k4
        replace kk := kk.trans (k4.mono kk.size)
        clear k4
        clear nx1
        obtain ⟨p3, f3⟩ : ∃ p, W32.heap.size = p := ⟨_, rfl⟩
        obtain ⟨W33, ea33⟩ : ∃ W, W32.alloc (.cells #[.int .i64 0, .int .i64 0, .int .i64 0, .int .i64 0, .int .i64 0] 42) = W := ⟨_, rfl⟩
        have ka33 : Below W32.heap.size W32 W33 := by rw [← ea33]; exact (Below.refl _ W32).alloc (Nat.le_refl _) _
        have b3 : Blk W33 p3 42 #[.int .i64 0, .int .i64 0, .int .i64 0, .int .i64 0, .int .i64 0] := by rw [← ea33]; exact blk_new W32 _ 42 _ f3
        have q1_3 : p1 < p3 := by rw [← f3]; exact b1.lt
        replace b1 := b1.on ka33
        have q2_3 : p2 < p3 := by rw [← f3]; exact b2.lt
        replace b2 := b2.on ka33
        have kk0 := kk
        replace kk := kk.trans (ka33.mono kk.size)
        have hp3 : w.heap.size ≤ p3 := by rw [← f3]; exact kk0.size
        clear ka33 kk0
        obtain ⟨W34, es34⟩ : ∃ W, W33.setRow p3 I.cs.toArray = W := ⟨_, rfl⟩
        have bo3 := b3
        replace b1 := row_far b1 es34 (by omega)
        replace b2 := row_far b2 es34 (by omega)
        replace b3 : Blk W34 p3 42 I.cs.toArray := row_named b3 es34
        replace kk := kk.trans (row_below es34 hp3 kk.size)
        have bo3_ := bo3
        have d1 := start_nil (reads_any (W := W34) rY)
        go_wp2_with (first | ((with_reducible refine at_store 42 (.tmp 8) (.tmp 33) ?_); refine wpList_store_row rfl 42 (.tmp 8) (.tmp 33) rfl p3 I.cs.toArray rfl rfl 42 #[.int .i64 0, .int .i64 0, .int .i64 0, .int .i64 0, .int .i64 0] bo3_ size42 rfl (Ins.onea _) ?_; rw [es34]) | ((with_reducible refine at_load 32 (.tmp 5) ?_); refine wpList_load_row rfl 32 (.tmp 5) rfl p2 rfl 32 y.cs.toArray (0, 0) _ b2 Try.underlying32 rfl (sizeT _) ?_))
        refine (d1).mono ?_
        rintro e W35 ⟨y1, rfl, hy1, ry1, k5⟩
        replace b1 := b1.on k5
        replace b2 := b2.on k5
        replace b3 := b3.on k5
        replace kk := kk.trans (k5.mono kk.size)
        clear k5
        clear d1
        obtain ⟨W36, es36⟩ : ∃ W, W35.setRow p2 y1.cs.toArray = W := ⟨_, rfl⟩
        have bo2 := b2
        replace b1 := row_far b1 es36 (by omega)
        replace b3 := row_far b3 es36 (by omega)
        replace b2 : Blk W36 p2 32 y1.cs.toArray := row_named b2 es36
        replace kk := kk.trans (row_below es36 hp2 kk.size)
        have bo2a := bo2
        have d1 := local_nil I (reads_any (W := W36) ry1)
        go_wp2_with (first | ((with_reducible refine at_store 32 (.tmp 5) (.tmp 38) ?_); refine wpList_store_row rfl 32 (.tmp 5) (.tmp 38) rfl p2 y1.cs.toArray rfl rfl 32 y.cs.toArray bo2a (sizeT _) rfl (Th.onea _) ?_; rw [es36]) | ((with_reducible refine at_load 32 (.tmp 5) ?_); refine wpList_load_row rfl 32 (.tmp 5) rfl p2 rfl 32 y1.cs.toArray (0, 0) _ b2 Try.underlying32 rfl (sizeT _) ?_) | ((with_reducible refine at_load 42 (.tmp 8) ?_); refine wpList_load_row rfl 42 (.tmp 8) rfl p3 rfl 42 I.cs.toArray (0, 0) _ b3 Try.underlying42 rfl size42 ?_))
        refine (d1).mono ?_
        rintro e W37 ⟨y2, rfl, hy2, ry2, k6⟩
        replace b1 := b1.on k6
        replace b2 := b2.on k6
        replace b3 := b3.on k6
        replace kk := kk.trans (k6.mono kk.size)
        clear k6
        clear d1
        obtain ⟨W38, es38⟩ : ∃ W, W37.setRow p2 y2.cs.toArray = W := ⟨_, rfl⟩
        have bo2 := b2
        replace b1 := row_far b1 es38 (by omega)
        replace b3 := row_far b3 es38 (by omega)
        replace b2 : Blk W38 p2 32 y2.cs.toArray := row_named b2 es38
        replace kk := kk.trans (row_below es38 hp2 kk.size)
        have bo2b := bo2
        have hN := runs_next hR F16 hd hy1 hy2
        clear hy1 hy2
        go_wp2_with (((with_reducible refine at_store 32 (.tmp 5) (.tmp 43) ?_); refine wpList_store_row rfl 32 (.tmp 5) (.tmp 43) rfl p2 y2.cs.toArray rfl rfl 32 y1.cs.toArray bo2b (sizeT _) rfl (Th.onea _) ?_; rw [es38]))
        go_roundw
        case rel => exact ⟨j + 1, y2, by go_num, by go_num, hN, reads_any ry2, kk, b1, b2⟩
        case measure => simp [intOf]; omega
end Go.Proofs.Ytcajoekmigkhjaa
