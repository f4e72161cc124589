/- Whether a config and an ask may be: conf's Check, CheckAsk and checkBoth, and the reference's Check and CheckAsk. Conditions: conf's spans lie as they are laid, for conf's. -/
import Derived.Test.YtmkdmnaonddghaaDoorSpan
namespace Go.Proofs.YtmkdmnaonddghaaDoor
open Go.RowKit

/-- A config, and an ask. -/
structure Cfg where
  s : Int
  o : Int
  t : Int
  f : Int
  d : Int
structure Ask where
  m : Int
  b : Int
  st : Bool
def chkC (c : Cfg) : Int := chkN 0 [c.s, c.o, c.t, c.f, c.d]
def chkA (a : Ask) : Int := chkN 5 [a.m, a.b]
def chkB (c : Cfg) (a : Ask) : Int := if chkC c = 0 then chkA a else chkC c
def okC (c : Cfg) : Bool := inB c.s 0 3 && (inB c.o 0 1 && (inB c.t 1 8 && (inB c.f 0 16 && inB c.d 1 4)))
def okA (a : Ask) : Bool := inB a.m 1 3 && inB a.b 0 1048576
theorem chkN_one (p : Nat) (x : Int) (r : List Int) (v : Bool) (y : Int) (h : inB x (leastAt p) (mostAt p) = v) (hr : chkN (p + 1) r = y) : chkN p (x :: r) = if v then y else 3 := by
  simp only [chkN, h, hr]
theorem chkC_of (c : Cfg) : chkC c = if okC c then 0 else 3 := by
  unfold chkC okC
  show (if inB c.s 0 3 = true then (if inB c.o 0 1 = true then (if inB c.t 1 8 = true then (if inB c.f 0 16 = true then (if inB c.d 1 4 = true then 0 else 3) else 3) else 3) else 3) else 3) = _
  cases inB c.s 0 3 <;> cases inB c.o 0 1 <;> cases inB c.t 1 8 <;> cases inB c.f 0 16 <;> cases inB c.d 1 4 <;> rfl
theorem chkA_of (a : Ask) : chkA a = if okA a then 0 else 3 := by
  unfold chkA okA
  show (if inB a.m 1 3 = true then (if inB a.b 0 1048576 = true then 0 else 3) else 3) = _
  cases inB a.m 1 3 <;> cases inB a.b 0 1048576 <;> rfl
theorem chkB_of (c : Cfg) (a : Ask) : chkB c a = if okC c && okA a then 0 else 3 := by
  unfold chkB
  rw [chkC_of, chkA_of]
  cases okC c <;> cases okA a <;> rfl
set_option maxRecDepth 100000 in
theorem confcheck_any (c : Cfg) (w : World) (hL : Laid w) : Calls Tryd.prog 11 #[.agg #[.int .i64 c.s, .int .i64 c.o, .int .i64 c.t, .int .i64 c.f, .int .i64 c.d]] w fun e w' => e = .returned (.int .i64 (chkC c)) ∧ Below w.heap.size w w' := by
  obtain ⟨s, o, t, f, d⟩ := c
  obtain ⟨W, eW⟩ : ∃ W, W = (w.alloc (.cells #[.int .i64 s, .int .i64 o, .int .i64 t, .int .i64 f, .int .i64 d] 23)).alloc (.cells #[.int .i64 s, .int .i64 o, .int .i64 t, .int .i64 f, .int .i64 d] 3) := ⟨_, rfl⟩
  have hb : Below w.heap.size w W := by rw [eW]; exact ((Below.refl _ w).alloc (Nat.le_refl _) _).alloc (by simp) _
  have hB : Blk W (w.heap.size + 1) 3 (ints [s, o, t, f, d]).toArray := by rw [eW]; exact heap_alloc2_new w _ _
  have hC := check_any 0 (w.heap.size + 1) [s, o, t, f, d] W (hL.on hb) hB (by simp)
  have hg := Blk.below (w' := w.alloc (.cells #[.int .i64 s, .int .i64 o, .int .i64 t, .int .i64 f, .int .i64 d] 23)) (heap_alloc_new w _) (Below.refl (w.heap.size + 1) _) (by omega)
  go_enter Tryd.func11, Tryd.ntmps11
  go_wp2_with fail
  rw [← eW]
  refine hC.mono ?_
  rintro e w1 ⟨rfl, hb1⟩
  go_wp2
  go_ret
  exact ⟨rfl, hb.trans (hb1.mono hb.size)⟩
set_option maxRecDepth 100000 in
theorem confask_any (a : Ask) (w : World) (hL : Laid w) : Calls Tryd.prog 12 #[.agg #[.int .i64 a.m, .int .i64 a.b, .bool a.st]] w fun e w' => e = .returned (.int .i64 (chkA a)) ∧ Below w.heap.size w w' := by
  obtain ⟨m, b, st⟩ := a
  obtain ⟨W, eW⟩ : ∃ W, W = (w.alloc (.cells #[.int .i64 m, .int .i64 b, .bool st] 25)).alloc (.cells #[.int .i64 m, .int .i64 b] 3) := ⟨_, rfl⟩
  have hb : Below w.heap.size w W := by rw [eW]; exact ((Below.refl _ w).alloc (Nat.le_refl _) _).alloc (by simp) _
  have hB : Blk W (w.heap.size + 1) 3 (ints [m, b]).toArray := by rw [eW]; exact heap_alloc2_new w _ _
  have hC := check_any 5 (w.heap.size + 1) [m, b] W (hL.on hb) hB (by simp)
  go_enter Tryd.func12, Tryd.ntmps12
  go_wp2_with fail
  rw [← eW]
  refine hC.mono ?_
  rintro e w1 ⟨rfl, hb1⟩
  go_wp2
  go_ret
  exact ⟨rfl, hb.trans (hb1.mono hb.size)⟩
set_option maxRecDepth 100000 in
theorem both_any (c : Cfg) (a : Ask) (w : World) (hL : Laid w) : Calls Tryd.prog 22 #[.agg #[.int .i64 c.s, .int .i64 c.o, .int .i64 c.t, .int .i64 c.f, .int .i64 c.d], .agg #[.int .i64 a.m, .int .i64 a.b, .bool a.st]] w fun e w' => e = .returned (.int .i64 (chkB c a)) ∧ Below w.heap.size w w' := by
  have hC := fun W hW => confcheck_any c W hW
  have hA := fun W hW => confask_any a W hW
  have hv : chkC c = 0 ∨ chkC c = 3 := by rw [chkC_of]; cases okC c <;> simp
  have hE : chkB c a = if chkC c = 0 then chkA a else chkC c := rfl
  generalize chkC c = vc at *
  generalize chkA a = va at *
  generalize chkB c a = vb at *
  subst hE
  obtain ⟨s, o, t, f, d⟩ := c
  obtain ⟨m, b, st⟩ := a
  obtain ⟨W, eW⟩ : ∃ W, W = (w.alloc (.cells #[.int .i64 s, .int .i64 o, .int .i64 t, .int .i64 f, .int .i64 d] 23)).alloc (.cells #[.int .i64 m, .int .i64 b, .bool st] 25) := ⟨_, rfl⟩
  have hb : Below w.heap.size w W := by rw [eW]; exact ((Below.refl _ w).alloc (Nat.le_refl _) _).alloc (by simp) _
  have hB : Blk W (w.heap.size + 1) 25 #[.int .i64 m, .int .i64 b, .bool st] := by rw [eW]; exact heap_alloc2_new w _ _
  simp only at hC hA
  rcases hv with rfl | rfl
  · go_enter Tryd.func22, Tryd.ntmps22
    go_wp2_with fail
    rw [← eW]
    clear eW
    refine (hC W (hL.on hb)).mono ?_
    rintro e w1 ⟨rfl, hb1⟩
    have hB1 := hB.below hb1 hB.lt
    have c0 := hB1.cell 0
    have c1 := hB1.cell 1
    have c2 := hB1.cell 2
    have hb2 := hb.trans (hb1.mono hb.size)
    have hL1 := hL.on hb2
    go_wp2_with fail
    refine (hA w1 hL1).mono ?_
    rintro e w2 ⟨rfl, hb3⟩
    go_wp2
    go_ret
    exact ⟨rfl, hb2.trans (hb3.mono hb2.size)⟩
  · go_enter Tryd.func22, Tryd.ntmps22
    go_wp2_with fail
    rw [← eW]
    clear eW
    refine (hC W (hL.on hb)).mono ?_
    rintro e w1 ⟨rfl, hb1⟩
    have hb2 := hb.trans (hb1.mono hb.size)
    go_wp2
    go_ret
    exact ⟨rfl, hb2⟩
set_option maxRecDepth 100000 in
theorem refcheck_any (c : Cfg) (w : World) : Calls Tryd.prog 7 #[.agg #[.int .i64 c.s, .int .i64 c.o, .int .i64 c.t, .int .i64 c.f, .int .i64 c.d]] w fun e w' => e = .returned (.bool (okC c)) ∧ Below w.heap.size w w' := by
  have hs := fun w => within_any c.s 0 3 w
  have ho := fun w => within_any c.o 0 1 w
  have ht := fun w => within_any c.t 1 8 w
  have hf := fun w => within_any c.f 0 16 w
  have hd := fun w => within_any c.d 1 4 w
  unfold okC
  generalize inB c.s 0 3 = b0 at *
  generalize inB c.o 0 1 = b1 at *
  generalize inB c.t 1 8 = b2 at *
  generalize inB c.f 0 16 = b3 at *
  generalize inB c.d 1 4 = b4 at *
  obtain ⟨s, o, t, f, d⟩ := c
  simp only at hs ho ht hf hd
  cases b0 with
  | false =>
    go_enter Tryd.func7, Tryd.ntmps7
    go_wp2_with fail
    refine (hs _).mono ?_
    rintro e w1 ⟨rfl, rfl⟩
    go_wp2
    go_ret
    exact ⟨rfl, (Below.refl _ w).alloc (Nat.le_refl _) _⟩
  | true =>
    cases b1 with
    | false =>
      go_enter Tryd.func7, Tryd.ntmps7
      go_wp2_with fail
      refine (hs _).mono ?_
      rintro e w1 ⟨rfl, rfl⟩
      go_wp2_with fail
      refine (ho _).mono ?_
      rintro e w1 ⟨rfl, rfl⟩
      go_wp2
      go_ret
      exact ⟨rfl, (Below.refl _ w).alloc (Nat.le_refl _) _⟩
    | true =>
      cases b2 with
      | false =>
        go_enter Tryd.func7, Tryd.ntmps7
        go_wp2_with fail
        refine (hs _).mono ?_
        rintro e w1 ⟨rfl, rfl⟩
        go_wp2_with fail
        refine (ho _).mono ?_
        rintro e w1 ⟨rfl, rfl⟩
        go_wp2_with fail
        refine (ht _).mono ?_
        rintro e w1 ⟨rfl, rfl⟩
        go_wp2
        go_ret
        exact ⟨rfl, (Below.refl _ w).alloc (Nat.le_refl _) _⟩
      | true =>
        cases b3 with
        | false =>
          go_enter Tryd.func7, Tryd.ntmps7
          go_wp2_with fail
          refine (hs _).mono ?_
          rintro e w1 ⟨rfl, rfl⟩
          go_wp2_with fail
          refine (ho _).mono ?_
          rintro e w1 ⟨rfl, rfl⟩
          go_wp2_with fail
          refine (ht _).mono ?_
          rintro e w1 ⟨rfl, rfl⟩
          go_wp2_with fail
          refine (hf _).mono ?_
          rintro e w1 ⟨rfl, rfl⟩
          go_wp2
          go_ret
          exact ⟨rfl, (Below.refl _ w).alloc (Nat.le_refl _) _⟩
        | true =>
          go_enter Tryd.func7, Tryd.ntmps7
          go_wp2_with fail
          refine (hs _).mono ?_
          rintro e w1 ⟨rfl, rfl⟩
          go_wp2_with fail
          refine (ho _).mono ?_
          rintro e w1 ⟨rfl, rfl⟩
          go_wp2_with fail
          refine (ht _).mono ?_
          rintro e w1 ⟨rfl, rfl⟩
          go_wp2_with fail
          refine (hf _).mono ?_
          rintro e w1 ⟨rfl, rfl⟩
          go_wp2_with fail
          refine (hd _).mono ?_
          rintro e w1 ⟨rfl, rfl⟩
          go_wp2
          go_ret
          exact ⟨rfl, (Below.refl _ w).alloc (Nat.le_refl _) _⟩
set_option maxRecDepth 100000 in
theorem refask_any (a : Ask) (w : World) : Calls Tryd.prog 8 #[.agg #[.int .i64 a.m, .int .i64 a.b, .bool a.st]] w fun e w' => e = .returned (.bool (okA a)) ∧ Below w.heap.size w w' := by
  have hs := fun w => within_any a.m 1 3 w
  have ho := fun w => within_any a.b 0 1048576 w
  unfold okA
  generalize inB a.m 1 3 = b0 at *
  generalize inB a.b 0 1048576 = b1 at *
  obtain ⟨m, b, st⟩ := a
  simp only at hs ho
  cases b0 with
  | false =>
    go_enter Tryd.func8, Tryd.ntmps8
    go_wp2_with fail
    refine (hs _).mono ?_
    rintro e w1 ⟨rfl, rfl⟩
    go_wp2
    go_ret
    exact ⟨rfl, (Below.refl _ w).alloc (Nat.le_refl _) _⟩
  | true =>
    go_enter Tryd.func8, Tryd.ntmps8
    go_wp2_with fail
    refine (hs _).mono ?_
    rintro e w1 ⟨rfl, rfl⟩
    go_wp2_with fail
    refine (ho _).mono ?_
    rintro e w1 ⟨rfl, rfl⟩
    go_wp2
    go_ret
    exact ⟨rfl, (Below.refl _ w).alloc (Nat.le_refl _) _⟩
end Go.Proofs.YtmkdmnaonddghaaDoor
