/- Whether a thread is done, and which instruction is next. Conditions: at most a thousand instructions. -/
import Derived.Test.YtfadfdfpocpelaaDoorStep
namespace Go.Proofs.YtfadfdfpocpelaaDoor
open Go.RowKit Go.ChangeShapes Go.WideShapes

/-- Lists of instructions. -/
def flatL (l : List Ins) : List Value := l.flatMap Ins.cs
def SeesL (w : World) (A : Option Addr) (n cap : Nat) (l : List Ins) : Prop := Sees w 5 A n cap (flatL l)
theorem SeesL.on {w w' : World} {A : Option Addr} {n cap : Nat} {l : List Ins} (h : SeesL w A n cap l) (hb : Below w.heap.size w w') : SeesL w' A n cap l := Sees.below h hb
theorem SeesL.get {w : World} {A : Option Addr} {n cap : Nat} {l : List Ins} (h : SeesL w A n cap l) {k : Nat} (hk : k < n) : ∃ g o, A = some ⟨g, o, none⟩ ∧ w.rangeAt g (o + k * 5) (l.getD k noI).cs := by
  have hl : l.length = n := by
    have := Sees.len h
    unfold flatL at this
    rw [flat_len Ins.len] at this
    omega
  have hx : l[k]? = some (l.getD k noI) := by simp [List.getD, List.getElem?_eq_getElem (show k < l.length by omega)]
  exact sees_at Ins.len h hx (by omega)
/-- Is the thread done, with so many instructions? -/
def doneB (x : Th) (n : Nat) : Bool := !(x.st == 0) || (x.k == 0 && (decide (x.fu ≤ 0) || !inB x.pc 0 ((n : Int) - 1)))
/-- Does it start one? -/
def nextB (x : Th) (n : Nat) : Bool := x.k == 0 && !doneB x n
/-- Which one? -/
def nextI (x : Th) (n : Nat) (c : List Ins) : Ins := if nextB x n = true then c.getD x.pc.toNat noI else noI
set_option maxRecDepth 100000 in
set_option maxHeartbeats 4000000 in
theorem micro_any (x : Th) (w : World) : Calls Tryd.prog 22 #[.agg x.cs.toArray] w fun e w' => e = .returned (.bool (!(x.k == 0))) ∧ Below w.heap.size w w' := by
  obtain ⟨p1, f1⟩ : ∃ p, w.heap.size = p := ⟨_, rfl⟩
  obtain ⟨W1, ea1⟩ : ∃ W, w.alloc (.cells x.cs.toArray 46) = W := ⟨_, rfl⟩
  have ka1 : Below w.heap.size w W1 := by rw [← ea1]; exact (Below.refl _ w).alloc (Nat.le_refl _) _
  have b1 : Blk W1 p1 46 x.cs.toArray := by rw [← ea1]; exact blk_new w _ 46 _ f1
  have kk : Below w.heap.size w W1 := ka1
  have hp1 : w.heap.size ≤ p1 := Nat.le_of_eq f1
  clear ka1
  have c1_1_15 : W1.cell? ⟨p1, 15, none⟩ = some (.int .i64 x.k) := b1.cell 15
  go_enter Tryd.func22, Tryd.ntmps22
  go_wp2_with fail
  go_ret
  exact ⟨rfl, kk⟩
set_option maxRecDepth 100000 in
set_option maxHeartbeats 4000000 in
theorem done_any (x : Th) (A : Option Addr) (n cap : Nat) (hn : n ≤ 1000) (w : World) : Calls Tryd.prog 15 #[.agg x.cs.toArray, .slice A n cap] w fun e w' => e = .returned (.bool (doneB x n)) ∧ Below w.heap.size w w' := by
  obtain ⟨p1, f1⟩ : ∃ p, w.heap.size = p := ⟨_, rfl⟩
  obtain ⟨W1, ea1⟩ : ∃ W, w.alloc (.cells x.cs.toArray 46) = W := ⟨_, rfl⟩
  have ka1 : Below w.heap.size w W1 := by rw [← ea1]; exact (Below.refl _ w).alloc (Nat.le_refl _) _
  have b1 : Blk W1 p1 46 x.cs.toArray := by rw [← ea1]; exact blk_new w _ 46 _ f1
  have kk : Below w.heap.size w W1 := ka1
  have hp1 : w.heap.size ≤ p1 := Nat.le_of_eq f1
  clear ka1
  by_cases c0 : x.st = 0
  · by_cases c1 : x.k = 0
    · by_cases c2 : x.fu ≤ 0
      · have c1_1_2 : W1.cell? ⟨p1, 2, none⟩ = some (.int .i64 x.st) := b1.cell 2
        have c1_1_1 : W1.cell? ⟨p1, 1, none⟩ = some (.int .i64 x.fu) := b1.cell 1
        have c1_1_0 : W1.cell? ⟨p1, 0, none⟩ = some (.int .i64 x.pc) := b1.cell 0
        have t0 : (x.st == 0) = true := by simpa using c0
        have t1 : (x.k == 0) = true := by simpa using c1
        have t2 : decide (x.fu ≤ 0) = true := by simpa using c2
        unfold doneB
        rw [t0, t1, t2]
        have m1 := micro_any x
        rw [t1] at m1
        clear c0
        clear c1
        clear c2
        have z1 : (-9223372036854775808 : Int) ≤ (n : Int) - 1 := by omega
        have z2 : (n : Int) - 1 ≤ 9223372036854775807 := by omega
        have hin := fun W => in_any x.pc 0 ((n : Int) - 1) W
        generalize inB x.pc 0 ((n : Int) - 1) = b at *
        go_enter Tryd.func15, Tryd.ntmps15
        go_wp2_with (((with_reducible refine at_load 46 (.tmp 2) ?_); refine wpList_load_row rfl 46 (.tmp 2) rfl p1 rfl 46 x.cs.toArray (0, 0) _ b1 Tryd.underlying46 rfl (sizeT _) ?_))
        refine (m1 _).mono ?_
        rintro e W2 ⟨rfl, k1⟩
        clear c1_1_2 c1_1_1 c1_1_0
        replace b1 := b1.on k1
        replace kk := kk.trans (k1.mono kk.size)
        clear k1
        have c2_1_1 : W2.cell? ⟨p1, 1, none⟩ = some (.int .i64 x.fu) := b1.cell 1
        have c2_1_0 : W2.cell? ⟨p1, 0, none⟩ = some (.int .i64 x.pc) := b1.cell 0
        go_wp2_with fail
        go_ret
        exact ⟨rfl, kk⟩
      · have c1_1_2 : W1.cell? ⟨p1, 2, none⟩ = some (.int .i64 x.st) := b1.cell 2
        have c1_1_1 : W1.cell? ⟨p1, 1, none⟩ = some (.int .i64 x.fu) := b1.cell 1
        have c1_1_0 : W1.cell? ⟨p1, 0, none⟩ = some (.int .i64 x.pc) := b1.cell 0
        have t0 : (x.st == 0) = true := by simpa using c0
        have t1 : (x.k == 0) = true := by simpa using c1
        have t2 : decide (x.fu ≤ 0) = false := by simpa using c2
        unfold doneB
        rw [t0, t1, t2]
        have m1 := micro_any x
        rw [t1] at m1
        clear c0
        clear c1
        clear c2
        have z1 : (-9223372036854775808 : Int) ≤ (n : Int) - 1 := by omega
        have z2 : (n : Int) - 1 ≤ 9223372036854775807 := by omega
        have hin := fun W => in_any x.pc 0 ((n : Int) - 1) W
        generalize inB x.pc 0 ((n : Int) - 1) = b at *
        go_enter Tryd.func15, Tryd.ntmps15
        go_wp2_with (((with_reducible refine at_load 46 (.tmp 2) ?_); refine wpList_load_row rfl 46 (.tmp 2) rfl p1 rfl 46 x.cs.toArray (0, 0) _ b1 Tryd.underlying46 rfl (sizeT _) ?_))
        refine (m1 _).mono ?_
        rintro e W2 ⟨rfl, k1⟩
        clear c1_1_2 c1_1_1 c1_1_0
        replace b1 := b1.on k1
        replace kk := kk.trans (k1.mono kk.size)
        clear k1
        have c2_1_1 : W2.cell? ⟨p1, 1, none⟩ = some (.int .i64 x.fu) := b1.cell 1
        have c2_1_0 : W2.cell? ⟨p1, 0, none⟩ = some (.int .i64 x.pc) := b1.cell 0
        go_wp2_with (go_at_call 11; refine (hin _).mono ?_; rintro e w' ⟨rfl, rfl⟩)
        go_ret
        exact ⟨by cases b <;> rfl, kk⟩
    · have c1_1_2 : W1.cell? ⟨p1, 2, none⟩ = some (.int .i64 x.st) := b1.cell 2
      have c1_1_1 : W1.cell? ⟨p1, 1, none⟩ = some (.int .i64 x.fu) := b1.cell 1
      have c1_1_0 : W1.cell? ⟨p1, 0, none⟩ = some (.int .i64 x.pc) := b1.cell 0
      have t0 : (x.st == 0) = true := by simpa using c0
      have t1 : (x.k == 0) = false := by simpa using c1
      unfold doneB
      rw [t0, t1]
      have m1 := micro_any x
      rw [t1] at m1
      clear c0
      clear c1
      have z1 : (-9223372036854775808 : Int) ≤ (n : Int) - 1 := by omega
      have z2 : (n : Int) - 1 ≤ 9223372036854775807 := by omega
      have hin := fun W => in_any x.pc 0 ((n : Int) - 1) W
      generalize inB x.pc 0 ((n : Int) - 1) = b at *
      go_enter Tryd.func15, Tryd.ntmps15
      go_wp2_with (((with_reducible refine at_load 46 (.tmp 2) ?_); refine wpList_load_row rfl 46 (.tmp 2) rfl p1 rfl 46 x.cs.toArray (0, 0) _ b1 Tryd.underlying46 rfl (sizeT _) ?_))
      refine (m1 _).mono ?_
      rintro e W2 ⟨rfl, k1⟩
      clear c1_1_2 c1_1_1 c1_1_0
      replace b1 := b1.on k1
      replace kk := kk.trans (k1.mono kk.size)
      clear k1
      have c2_1_1 : W2.cell? ⟨p1, 1, none⟩ = some (.int .i64 x.fu) := b1.cell 1
      have c2_1_0 : W2.cell? ⟨p1, 0, none⟩ = some (.int .i64 x.pc) := b1.cell 0
      go_wp2_with fail
      go_ret
      exact ⟨rfl, kk⟩
  · have c1_1_2 : W1.cell? ⟨p1, 2, none⟩ = some (.int .i64 x.st) := b1.cell 2
    have c1_1_1 : W1.cell? ⟨p1, 1, none⟩ = some (.int .i64 x.fu) := b1.cell 1
    have c1_1_0 : W1.cell? ⟨p1, 0, none⟩ = some (.int .i64 x.pc) := b1.cell 0
    have t0 : (x.st == 0) = false := by simpa using c0
    unfold doneB
    rw [t0]
    clear c0
    have z1 : (-9223372036854775808 : Int) ≤ (n : Int) - 1 := by omega
    have z2 : (n : Int) - 1 ≤ 9223372036854775807 := by omega
    have hin := fun W => in_any x.pc 0 ((n : Int) - 1) W
    generalize inB x.pc 0 ((n : Int) - 1) = b at *
    go_enter Tryd.func15, Tryd.ntmps15
    go_wp2_with fail
    go_ret
    exact ⟨rfl, kk⟩
theorem res17 (tmps : Array Value) (w : World) (g : Nat) (cs : Array Value) (u : Value) (hp : tmps[4]?.getD undef = .pointer (some ⟨g, 0, none⟩)) (hu : tmps[5]?.getD undef = u) (hg : Blk w g 35 cs) (hs : (Tryd.prog.info? 35).map (·.size) = some cs.size) :
    (results Tryd.f13 tmps).run Tryd.prog w = .ok (.tuple #[.agg cs, u]) w := by
  have hr : Tryd.f13.results = #[.cell 4 35, .tmp 5] := by kernel_rfl
  rw [results_cell_tmp hr]
  have h2 : tmps.getD 4 undef = .pointer (some ⟨g, 0, none⟩) := by simpa using hp
  have h3 : tmps.getD 5 undef = u := by simpa using hu
  rw [h2, h3]
  have hl := run_loadVar_row w g 35 35 cs (0, 0) _ hg Tryd.underlying35 rfl hs
  simp [asAddr, Result.andThen, hl]
theorem range_on {w w' : World} {g o : Nat} {v : Value} {l : List Value} (h : w.rangeAt g o (v :: l)) (hb : Below w.heap.size w w') : w'.rangeAt g o (v :: l) := fun j u hu => by
  have h0 := h 0 v rfl
  have hg := World.block_lt_of_cell? w _ h0
  exact (World.cell?_of_block (w := w) (hb.block g hg)).trans (h j u hu)
set_option maxRecDepth 100000 in
set_option maxHeartbeats 4000000 in
theorem next_any {w : World} {x : Th} {A : Option Addr} {n cap : Nat} {c : List Ins} (h : SeesL w A n cap c) (hn : n ≤ 1000) : Calls Tryd.prog 13 #[.agg x.cs.toArray, .slice A n cap] w fun e w' => e = .returned (.tuple #[.agg (nextI x n c).cs.toArray, .bool (nextB x n)]) ∧ Below w.heap.size w w' := by
  obtain ⟨p1, f1⟩ : ∃ p, w.heap.size = p := ⟨_, rfl⟩
  obtain ⟨W1, ea1⟩ : ∃ W, w.alloc (.cells x.cs.toArray 46) = W := ⟨_, rfl⟩
  have ka1 : Below w.heap.size w W1 := by rw [← ea1]; exact (Below.refl _ w).alloc (Nat.le_refl _) _
  have b1 : Blk W1 p1 46 x.cs.toArray := by rw [← ea1]; exact blk_new w _ 46 _ f1
  have kk : Below w.heap.size w W1 := ka1
  have hp1 : w.heap.size ≤ p1 := Nat.le_of_eq f1
  clear ka1
  obtain ⟨p2, f2⟩ : ∃ p, W1.heap.size = p := ⟨_, rfl⟩
  obtain ⟨W2, ea2⟩ : ∃ W, W1.alloc (.cells #[.int .i64 0, .int .i64 0, .int .i64 0, .int .i64 0, .int .i64 0] 35) = W := ⟨_, rfl⟩
  have ka2 : Below W1.heap.size W1 W2 := by rw [← ea2]; exact (Below.refl _ W1).alloc (Nat.le_refl _) _
  have b2 : Blk W2 p2 35 #[.int .i64 0, .int .i64 0, .int .i64 0, .int .i64 0, .int .i64 0] := by rw [← ea2]; exact blk_new W1 _ 35 _ f2
  have q1_2 : p1 < p2 := by rw [← f2]; exact b1.lt
  replace b1 := b1.on ka2
  have kk0 := kk
  replace kk := kk.trans (ka2.mono kk.size)
  have hp2 : w.heap.size ≤ p2 := by rw [← f2]; exact kk0.size
  clear ka2 kk0
  by_cases c1 : x.k = 0
  · cases c2 : doneB x n with
    | false =>
      have t1 : (x.k == 0) = true := by simpa using c1
      have m1 := micro_any x
      rw [t1] at m1
      have m2 := fun W => done_any x A n cap hn W
      rw [c2] at m2
      have t3 : nextB x n = true := by unfold nextB; rw [t1, c2]; rfl
      unfold nextI
      rw [t3]
      obtain ⟨k, ek, hk⟩ : ∃ k : Nat, x.pc = (k : Int) ∧ k < n := by
        have hc : x.st = 0 ∧ (x.fu ≤ 0 → False) ∧ (0 ≤ x.pc ∧ x.pc ≤ (n : Int) - 1) := by
          simpa [doneB, inB, t1] using c2
        exact ⟨x.pc.toNat, by omega, by omega⟩
      rw [ek, Int.toNat_natCast, if_pos rfl]
      obtain ⟨g, o, rfl, hr⟩ := (h.on kk).get hk
      have HK := Lib.hid ek
      clear ek
      generalize c.getD k noI = I at hr ⊢
      have hk0 : (0 : Int) ≤ (k : Int) := by omega
      have hkn : (k : Int) < (n : Int) := by omega
      clear t3 c1 c2
      go_enter Tryd.func13, Tryd.ntmps13
      go_wp2_with (((with_reducible refine at_load 46 (.tmp 2) ?_); refine wpList_load_row rfl 46 (.tmp 2) rfl p1 rfl 46 x.cs.toArray (0, 0) _ b1 Tryd.underlying46 rfl (sizeT _) ?_))
      refine (m1 _).mono ?_
      rintro e W3 ⟨rfl, k1⟩
      replace b1 := b1.on k1
      have hr1 := range_on hr k1
      replace b2 := b2.on k1
      replace kk := kk.trans (k1.mono kk.size)
      clear k1
      go_wp2_with (((with_reducible refine at_load 46 (.tmp 2) ?_); refine wpList_mid (by rfl) 46 (.tmp 2) rfl p1 0 rfl x.cs _ (range_blk b1) Tryd.underlying46 rfl (sizeT _) ?_))
      refine (m2 _).mono ?_
      rintro e W4 ⟨rfl, k2⟩
      replace b1 := b1.on k2
      have hr2 := range_on hr1 k2
      replace b2 := b2.on k2
      replace kk := kk.trans (k2.mono kk.size)
      clear k2
      have c4_1_0 : W4.cell? ⟨p1, 0, none⟩ = some (.int .i64 (k : Int)) := by rw [← HK.out]; exact b1.cell 0
      obtain ⟨W5, es5⟩ : ∃ W, W4.setRow p2 I.cs.toArray = W := ⟨_, rfl⟩
      have bo2 := b2
      replace b1 := row_far b1 es5 (by omega)
      replace b2 : Blk W5 p2 35 I.cs.toArray := row_named b2 es5
      replace kk := kk.trans (row_below es5 hp2 kk.size)
      go_wp2_with (first | ((with_reducible refine at_load 35 (.tmp 17) ?_); refine wpList_mid (by rfl) 35 (.tmp 17) rfl g (o + k * 5) rfl I.cs _ hr2 Tryd.underlying35 rfl size35 ?_) | ((with_reducible refine at_store 35 (.tmp 4) (.tmp 18) ?_); refine wpList_store_row rfl 35 (.tmp 4) (.tmp 18) rfl p2 I.cs.toArray rfl rfl 35 #[.int .i64 0, .int .i64 0, .int .i64 0, .int .i64 0, .int .i64 0] bo2 size35 rfl (Ins.onea _) ?_; rw [es5]))
      refine bodyPost_ret (res17 _ _ p2 I.cs.toArray (.bool true) rfl rfl b2 size35) rfl ?_
      exact ⟨rfl, kk⟩
    | true =>
      have t1 : (x.k == 0) = true := by simpa using c1
      have m1 := micro_any x
      rw [t1] at m1
      have m2 := fun W => done_any x A n cap hn W
      rw [c2] at m2
      have t3 : nextB x n = false := by unfold nextB; rw [t1, c2]; rfl
      unfold nextI
      rw [t3]
      rw [if_neg (by decide)]
      clear t3 c1 c2 h
      go_enter Tryd.func13, Tryd.ntmps13
      go_wp2_with (((with_reducible refine at_load 46 (.tmp 2) ?_); refine wpList_load_row rfl 46 (.tmp 2) rfl p1 rfl 46 x.cs.toArray (0, 0) _ b1 Tryd.underlying46 rfl (sizeT _) ?_))
      refine (m1 _).mono ?_
      rintro e W3 ⟨rfl, k1⟩
      replace b1 := b1.on k1
      replace b2 := b2.on k1
      replace kk := kk.trans (k1.mono kk.size)
      clear k1
      go_wp2_with (((with_reducible refine at_load 46 (.tmp 2) ?_); refine wpList_mid (by rfl) 46 (.tmp 2) rfl p1 0 rfl x.cs _ (range_blk b1) Tryd.underlying46 rfl (sizeT _) ?_))
      refine (m2 _).mono ?_
      rintro e W4 ⟨rfl, k2⟩
      replace b1 := b1.on k2
      replace b2 := b2.on k2
      replace kk := kk.trans (k2.mono kk.size)
      clear k2
      obtain ⟨W5, es5⟩ : ∃ W, W4.setRow p2 noI.cs.toArray = W := ⟨_, rfl⟩
      have bo2 := b2
      replace b1 := row_far b1 es5 (by omega)
      replace b2 : Blk W5 p2 35 noI.cs.toArray := row_named b2 es5
      replace kk := kk.trans (row_below es5 hp2 kk.size)
      go_wp2_with (((with_reducible refine at_store 35 (.tmp 4) (.tmp 13) ?_); refine wpList_store_row rfl 35 (.tmp 4) (.tmp 13) rfl p2 noI.cs.toArray rfl rfl 35 #[.int .i64 0, .int .i64 0, .int .i64 0, .int .i64 0, .int .i64 0] bo2 size35 rfl (Ins.onea _) ?_; rw [es5]))
      refine bodyPost_ret (res17 _ _ p2 noI.cs.toArray (.bool false) rfl rfl b2 size35) rfl ?_
      exact ⟨rfl, kk⟩
  · have t1 : (x.k == 0) = false := by simpa using c1
    have m1 := micro_any x
    rw [t1] at m1
    have t3 : nextB x n = false := by unfold nextB; rw [t1]; rfl
    unfold nextI
    rw [t3]
    rw [if_neg (by decide)]
    clear t3 c1 h
    go_enter Tryd.func13, Tryd.ntmps13
    go_wp2_with (((with_reducible refine at_load 46 (.tmp 2) ?_); refine wpList_load_row rfl 46 (.tmp 2) rfl p1 rfl 46 x.cs.toArray (0, 0) _ b1 Tryd.underlying46 rfl (sizeT _) ?_))
    refine (m1 _).mono ?_
    rintro e W3 ⟨rfl, k1⟩
    replace b1 := b1.on k1
    replace b2 := b2.on k1
    replace kk := kk.trans (k1.mono kk.size)
    clear k1
    obtain ⟨W4, es4⟩ : ∃ W, W3.setRow p2 noI.cs.toArray = W := ⟨_, rfl⟩
    have bo2 := b2
    replace b1 := row_far b1 es4 (by omega)
    replace b2 : Blk W4 p2 35 noI.cs.toArray := row_named b2 es4
    replace kk := kk.trans (row_below es4 hp2 kk.size)
    go_wp2_with (((with_reducible refine at_store 35 (.tmp 4) (.tmp 13) ?_); refine wpList_store_row rfl 35 (.tmp 4) (.tmp 13) rfl p2 noI.cs.toArray rfl rfl 35 #[.int .i64 0, .int .i64 0, .int .i64 0, .int .i64 0, .int .i64 0] bo2 size35 rfl (Ins.onea _) ?_; rw [es4]))
    refine bodyPost_ret (res17 _ _ p2 noI.cs.toArray (.bool false) rfl rfl b2 size35) rfl ?_
    exact ⟨rfl, kk⟩
end Go.Proofs.YtfadfdfpocpelaaDoor
