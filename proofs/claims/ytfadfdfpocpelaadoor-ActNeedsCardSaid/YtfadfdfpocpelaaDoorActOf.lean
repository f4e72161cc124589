/- The act of a thread, of any program, by the program. Conditions: the variable 'rows' lies as it is laid. -/
import Derived.Test.YtfadfdfpocpelaaDoorInstr
import Derived.Test.YtfadfdfpocpelaaDoorPCheck
namespace Go.Proofs.YtfadfdfpocpelaaDoor
set_option linter.unusedSimpArgs false
set_option linter.unusedVariables false
open Go.RowKit Go.ChangeShapes Go.WideShapes

/-- An instruction of the one form in the other. -/
def conv (x : P.Ins) : Ins := ⟨x.o, x.a, x.b, x.c, x.n⟩
def codeL (l : List P.Ins) : List Ins := l.map conv
theorem codeL_len (l : List P.Ins) : (codeL l).length = l.length := by simp [codeL]
theorem lst_sees {w : World} {S : Nat → Prop} {A : Option Addr} {n cap : Nat} {l : List P.Ins} (h : P.Lst w S A n cap l) : SeesL w A n cap (codeL l) := by
  refine ⟨?_, h.room, h.most, h.none_, fun ad ha hn => ?_⟩
  · unfold flatL
    rw [flat_len Ins.len, codeL_len, h.len]
  · have hl := h.len
    have hx0 : l[0]? = some (l[0]'(by omega)) := List.getElem?_eq_getElem _
    obtain ⟨g, off, e, _, h0⟩ := h.cell ad ha 0 _ hx0
    refine ⟨g, off, e, h0.lt, fun j v hv => ?_⟩
    have hj : j < (flatL (codeL l)).length := (List.getElem?_eq_some_iff.1 hv).1
    unfold flatL at hj hv
    rw [flat_len Ins.len, codeL_len] at hj
    have hi : j / 5 < l.length := by omega
    have hx : l[j / 5]? = some (l[j / 5]'hi) := List.getElem?_eq_getElem _
    obtain ⟨g', off', e', _, hc⟩ := h.cell ad ha (j / 5) _ hx
    have ee : (⟨g, off, none⟩ : Addr) = ⟨g', off', none⟩ := e.symm.trans e'
    injection ee with e1 e2
    subst e1 e2
    have hy : (codeL l)[j / 5]? = some (conv (l[j / 5]'hi)) := by unfold codeL; rw [List.getElem?_map, hx]; rfl
    have hf := flat_get Ins.len (codeL l) (j / 5) _ hy (j % 5) (Nat.mod_lt _ (by omega))
    rw [show j / 5 * 5 + j % 5 = j by omega, hv] at hf
    rw [show off + j = (off + j / 5 * 5) + j % 5 by omega]
    have hm : j % 5 < 5 := Nat.mod_lt _ (by omega)
    generalize j % 5 = q at hf hm ⊢
    have hq : q = 0 ∨ q = 1 ∨ q = 2 ∨ q = 3 ∨ q = 4 := by omega
    rcases hq with rfl | rfl | rfl | rfl | rfl
    · exact hc.c0.trans hf.symm
    · exact hc.c1.trans hf.symm
    · exact hc.c2.trans hf.symm
    · exact hc.c3.trans hf.symm
    · exact hc.c4.trans hf.symm
/-- What a program that may be has. -/
theorem chk_good {r c s : Int} {xss : List (List P.Ins)} (h : P.chkP r c s xss = 0) : (0 ≤ s ∧ s ≤ 2) ∧ 1 ≤ xss.length ∧ xss.length ≤ 4 ∧ ∀ xs ∈ xss, xs.length ≤ 16 := by
  unfold P.chkP at h
  split at h
  · omega
  · rename_i h1
    split at h
    · omega
    · rename_i h2
      split at h
      · omega
      · rename_i h3
        have h1 : P.okHead r c s = true := by simpa using h1
        unfold P.okHead at h1
        simp only [Bool.and_eq_true, decide_eq_true_eq] at h1
        refine ⟨h1.2, by omega, by omega, fun xs hx => ?_⟩
        refine Nat.le_of_not_lt fun hlt => h3 (List.any_eq_true.2 ⟨xs, hx, ?_⟩)
        unfold P.long
        exact decide_eq_true hlt
/-- The act of the thread t. -/
def ofA (p : Pg) (xss : List (List P.Ins)) (t : Int) (x : Th) (own : Int) : Ac :=
  if P.chkP p.r p.c p.s xss = 0 ∧ 0 ≤ t ∧ t < xss.length then
    (if doneB x (xss.getD t.toNat []).length = true then noA else if x.k = 0 then actI t x ((codeL (xss.getD t.toNat [])).getD x.pc.toNat noI) own else micA p t x.mi)
  else noA
theorem mi_range {w : World} {g : Nat} {x : Th} (h : Blk w g 46 x.cs.toArray) : w.rangeAt g 15 x.mi.cs := range_part h 15 x.mi.cs rfl
theorem notP {S : Nat → Prop} {B g : Nat} (hS : ∀ g, S g → g < B) (hg : B ≤ g) : ¬ S g := fun h => by have := hS g h; omega
set_option maxRecDepth 100000 in
set_option maxHeartbeats 4000000 in
theorem actof_any {w : World} {S : Nat → Prop} {p : Pg} {xss : List (List P.Ins)} (h : P.Mat w S p.co.A p.co.n p.co.cap xss) (hS : ∀ g, S g → g < w.heap.size) (hL : P.Laid w) (t : Int) (x : Th) (own : Int) : Calls Tryd.prog 8 #[.agg p.cs.toArray, .int .i64 t, .agg x.cs.toArray, .int .i64 own] w fun e w' => e = .returned (.agg (ofA p xss t x own).cs.toArray) ∧ Below w.heap.size w w' := by
  have hp : p.Ok := ⟨h.room, h.most⟩
  have hn63 := Pg.n63 hp
  obtain ⟨p1, f1⟩ : ∃ p, w.heap.size = p := ⟨_, rfl⟩
  obtain ⟨W1, ea1⟩ : ∃ W, w.alloc (.cells p.cs.toArray 39) = W := ⟨_, rfl⟩
  have ka1 : Below w.heap.size w W1 := by rw [← ea1]; exact (Below.refl _ w).alloc (Nat.le_refl _) _
  have b1 : Blk W1 p1 39 p.cs.toArray := by rw [← ea1]; exact blk_new w _ 39 _ f1
  have kk : Below w.heap.size w W1 := ka1
  have hp1 : w.heap.size ≤ p1 := Nat.le_of_eq f1
  clear ka1
  obtain ⟨p2, f2⟩ : ∃ p, W1.heap.size = p := ⟨_, rfl⟩
  obtain ⟨W2, ea2⟩ : ∃ W, W1.alloc (.cells x.cs.toArray 46) = W := ⟨_, rfl⟩
  have ka2 : Below W1.heap.size W1 W2 := by rw [← ea2]; exact (Below.refl _ W1).alloc (Nat.le_refl _) _
  have b2 : Blk W2 p2 46 x.cs.toArray := by rw [← ea2]; exact blk_new W1 _ 46 _ f2
  have q1_2 : p1 < p2 := by rw [← f2]; exact b1.lt
  replace b1 := b1.on ka2
  have kk0 := kk
  replace kk := kk.trans (ka2.mono kk.size)
  have hp2 : w.heap.size ≤ p2 := by rw [← f2]; exact kk0.size
  clear ka2 kk0
  obtain ⟨p3, f3⟩ : ∃ p, W2.heap.size = p := ⟨_, rfl⟩
  obtain ⟨W3, ea3⟩ : ∃ W, W2.alloc (.cells #[.int .i64 0, .int .i64 0, .int .i64 0, .int .i64 0, .int .i64 0, .int .i64 0, .int .i64 0, .int .i64 0, .int .i64 0, .int .i64 0, .int .i64 0, .int .i64 0, .int .i64 0, .int .i64 0] 27) = W := ⟨_, rfl⟩
  have ka3 : Below W2.heap.size W2 W3 := by rw [← ea3]; exact (Below.refl _ W2).alloc (Nat.le_refl _) _
  have b3 : Blk W3 p3 27 #[.int .i64 0, .int .i64 0, .int .i64 0, .int .i64 0, .int .i64 0, .int .i64 0, .int .i64 0, .int .i64 0, .int .i64 0, .int .i64 0, .int .i64 0, .int .i64 0, .int .i64 0, .int .i64 0] := by rw [← ea3]; exact blk_new W2 _ 27 _ f3
  have q1_3 : p1 < p3 := by rw [← f3]; exact b1.lt
  replace b1 := b1.on ka3
  have q2_3 : p2 < p3 := by rw [← f3]; exact b2.lt
  replace b2 := b2.on ka3
  have kk0 := kk
  replace kk := kk.trans (ka3.mono kk.size)
  have hp3 : w.heap.size ≤ p3 := by rw [← f3]; exact kk0.size
  clear ka3 kk0
  have d1 : Calls Tryd.prog 10 #[.agg p.cs.toArray] W3 _ := P.prog_check (h.below kk hS) (fun g hg => Nat.lt_of_lt_of_le (hS g hg) kk.size) (hL.on kk) p.r p.c p.s
  have hlen := h.len
  obtain ⟨v, ev⟩ : ∃ v, P.chkP p.r p.c p.s xss = v := ⟨_, rfl⟩
  rw [ev] at d1
  by_cases c0 : v = 0
  · subst c0
    by_cases c1 : 0 ≤ t ∧ t < xss.length
    · obtain ⟨kt, rfl⟩ : ∃ kt : Nat, t = (kt : Int) := ⟨t.toNat, by omega⟩
      have hk : kt < p.co.n := by omega
      obtain ⟨g, off, A1, n1, c1_, xs, eA, hg, hx, hcell, hl⟩ := (h.below kk hS).at_ kt hk
      have hxs : xss.getD ((kt : Int)).toNat [] = xs := by rw [Int.toNat_natCast, List.getD, hx]; rfl
      have hn16 : n1 ≤ 1000 := by have := (chk_good ev).2.2.2 xs (List.mem_of_getElem? hx); have := hl.len; omega
      have hln : xs.length = n1 := hl.len
      have hse := lst_sees hl
      have eO : ofA p xss (kt : Int) x own = (if doneB x n1 = true then noA else if x.k = 0 then actI (kt : Int) x ((codeL xs).getD x.pc.toNat noI) own else micA p (kt : Int) x.mi) := by unfold ofA; rw [if_pos ⟨ev, c1⟩, hxs, hln]
      rw [eO]
      clear eO hxs hln hx hl
      have m2 := fun W => in_any (kt : Int) 0 ((p.co.n : Int) - 1) W
      rw [show inB (kt : Int) 0 ((p.co.n : Int) - 1) = true by unfold inB; rw [decide_eq_true (by omega), decide_eq_true (by omega)]; rfl] at m2
      have z1 : (-9223372036854775808 : Int) ≤ (p.co.n : Int) - 1 := by omega
      have z2 : (p.co.n : Int) - 1 ≤ 9223372036854775807 := by omega
      have i0 : (0 : Int) ≤ (kt : Int) := by omega
      have i1 : (kt : Int) < (p.co.n : Int) := by omega
      have HE := Lib.hid (And.intro ev (And.intro c1 hlen))
      clear ev c1 hlen h hL
      have hgp : g < w.heap.size := hS _ hg
      cases en : nextB x n1 with
      | true =>
        have ek : x.k = 0 ∧ doneB x n1 = false := by simpa [nextB] using en
        rw [ek.2, if_neg (by decide), if_pos ek.1]
        have eI : nextI x n1 (codeL xs) = (codeL xs).getD x.pc.toNat noI := by unfold nextI; rw [if_pos en]
        rw [← eI]
        clear eI ek
        obtain ⟨I, eI⟩ : ∃ I, nextI x n1 (codeL xs) = I := ⟨_, rfl⟩
        rw [eI]
        go_enter Tryd.func8, Tryd.ntmps8
        go_wp2_with (((with_reducible refine at_load 39 (.tmp 4) ?_); refine wpList_load_row rfl 39 (.tmp 4) rfl p1 rfl 39 p.cs.toArray (0, 0) _ b1 Tryd.underlying39 rfl size39 ?_))
        refine (d1).mono ?_
        rintro e W4 ⟨rfl, k1⟩
        replace hse := hse.on k1
        replace hcell := (k1.cell (Nat.lt_of_lt_of_le hgp (by first | exact kk.size | assumption))).trans hcell
        replace b1 := b1.on k1
        replace b2 := b2.on k1
        replace b3 := b3.on k1
        replace kk := kk.trans (k1.mono kk.size)
        clear k1
        clear d1
        have c4_1_3 : W4.cell? ⟨p1, 3, none⟩ = some (.slice p.co.A p.co.n p.co.cap) := b1.cell 3
        rw [eA] at c4_1_3
        have m3 := next_any (x := x) hse hn16
        rw [en, eI] at m3
        go_wp2_with (first | (go_at_call 11; refine (m2 _).mono ?_; rintro e w' ⟨rfl, rfl⟩) | ((with_reducible refine at_load 46 (.tmp 6) ?_); refine wpList_load_row rfl 46 (.tmp 6) rfl p2 rfl 46 x.cs.toArray (0, 0) _ b2 Tryd.underlying46 rfl (sizeT _) ?_))
        refine (m3).mono ?_
        rintro e W5 ⟨rfl, k1⟩
        clear c4_1_3
        replace b1 := b1.on k1
        replace b2 := b2.on k1
        replace b3 := b3.on k1
        replace kk := kk.trans (k1.mono kk.size)
        clear k1
        clear m3
        obtain ⟨p4, f4⟩ : ∃ p, W5.heap.size = p := ⟨_, rfl⟩
        obtain ⟨W6, ea6⟩ : ∃ W, W5.alloc (.cells #[.int .i64 0, .int .i64 0, .int .i64 0, .int .i64 0, .int .i64 0] 35) = W := ⟨_, rfl⟩
        have ka6 : Below W5.heap.size W5 W6 := by rw [← ea6]; exact (Below.refl _ W5).alloc (Nat.le_refl _) _
        have b4 : Blk W6 p4 35 #[.int .i64 0, .int .i64 0, .int .i64 0, .int .i64 0, .int .i64 0] := by rw [← ea6]; exact blk_new W5 _ 35 _ f4
        have q1_4 : p1 < p4 := by rw [← f4]; exact b1.lt
        replace b1 := b1.on ka6
        have q2_4 : p2 < p4 := by rw [← f4]; exact b2.lt
        replace b2 := b2.on ka6
        have q3_4 : p3 < p4 := by rw [← f4]; exact b3.lt
        replace b3 := b3.on ka6
        have kk0 := kk
        replace kk := kk.trans (ka6.mono kk.size)
        have hp4 : w.heap.size ≤ p4 := by rw [← f4]; exact kk0.size
        clear ka6 kk0
        obtain ⟨W7, es7⟩ : ∃ W, W6.setRow p4 I.cs.toArray = W := ⟨_, rfl⟩
        have bo4 := b4
        replace b1 := row_far b1 es7 (by omega)
        replace b2 := row_far b2 es7 (by omega)
        replace b3 := row_far b3 es7 (by omega)
        replace b4 : Blk W7 p4 35 I.cs.toArray := row_named b4 es7
        replace kk := kk.trans (row_below es7 hp4 kk.size)
        go_wp2_with (first | ((with_reducible refine at_store 35 (.tmp 10) (.tmp 34) ?_); refine wpList_store_row rfl 35 (.tmp 10) (.tmp 34) rfl p4 I.cs.toArray rfl rfl 35 #[.int .i64 0, .int .i64 0, .int .i64 0, .int .i64 0, .int .i64 0] bo4 size35 rfl (Ins.onea _) ?_; rw [es7]) | ((with_reducible refine at_load 46 (.tmp 6) ?_); refine wpList_load_row rfl 46 (.tmp 6) rfl p2 rfl 46 x.cs.toArray (0, 0) _ b2 Tryd.underlying46 rfl (sizeT _) ?_) | ((with_reducible refine at_load 35 (.tmp 10) ?_); refine wpList_load_row rfl 35 (.tmp 10) rfl p4 rfl 35 I.cs.toArray (0, 0) _ b4 Tryd.underlying35 rfl size35 ?_))
        refine (ins_any (kt : Int) x I own _).mono ?_
        rintro e W8 ⟨rfl, k1⟩
        replace b1 := b1.on k1
        replace b2 := b2.on k1
        replace b3 := b3.on k1
        replace b4 := b4.on k1
        replace kk := kk.trans (k1.mono kk.size)
        clear k1
        obtain ⟨W9, es9⟩ : ∃ W, W8.setRow p3 (actI (kt : Int) x I own).cs.toArray = W := ⟨_, rfl⟩
        have bo3 := b3
        replace b1 := row_far b1 es9 (by omega)
        replace b2 := row_far b2 es9 (by omega)
        replace b4 := row_far b4 es9 (by omega)
        replace b3 : Blk W9 p3 27 (actI (kt : Int) x I own).cs.toArray := row_named b3 es9
        replace kk := kk.trans (row_below es9 hp3 kk.size)
        go_wp2_with (((with_reducible refine at_store 27 (.tmp 8) (.tmp 41) ?_); refine wpList_store_row rfl 27 (.tmp 8) (.tmp 41) rfl p3 (actI (kt : Int) x I own).cs.toArray rfl rfl 27 #[.int .i64 0, .int .i64 0, .int .i64 0, .int .i64 0, .int .i64 0, .int .i64 0, .int .i64 0, .int .i64 0, .int .i64 0, .int .i64 0, .int .i64 0, .int .i64 0, .int .i64 0, .int .i64 0] bo3 size27 rfl (Ac.onea _) ?_; rw [es9]))
        refine bodyPost_ret (results_cell_row (cs := (actI (kt : Int) x I own).cs.toArray) rfl _ _ p3 27 (0, 0) _ rfl b3 Tryd.underlying27 rfl size27) rfl ?_
        exact ⟨rfl, kk⟩
      | false =>
        cases ed : doneB x n1 with
        | true =>
          rw [if_pos rfl]
          obtain ⟨I, eI⟩ : ∃ I, nextI x n1 (codeL xs) = I := ⟨_, rfl⟩
          go_enter Tryd.func8, Tryd.ntmps8
          go_wp2_with (((with_reducible refine at_load 39 (.tmp 4) ?_); refine wpList_load_row rfl 39 (.tmp 4) rfl p1 rfl 39 p.cs.toArray (0, 0) _ b1 Tryd.underlying39 rfl size39 ?_))
          refine (d1).mono ?_
          rintro e W4 ⟨rfl, k1⟩
          replace hse := hse.on k1
          replace hcell := (k1.cell (Nat.lt_of_lt_of_le hgp (by first | exact kk.size | assumption))).trans hcell
          replace b1 := b1.on k1
          replace b2 := b2.on k1
          replace b3 := b3.on k1
          replace kk := kk.trans (k1.mono kk.size)
          clear k1
          clear d1
          have c4_1_3 : W4.cell? ⟨p1, 3, none⟩ = some (.slice p.co.A p.co.n p.co.cap) := b1.cell 3
          rw [eA] at c4_1_3
          have m3 := next_any (x := x) hse hn16
          rw [en, eI] at m3
          go_wp2_with (first | (go_at_call 11; refine (m2 _).mono ?_; rintro e w' ⟨rfl, rfl⟩) | ((with_reducible refine at_load 46 (.tmp 6) ?_); refine wpList_load_row rfl 46 (.tmp 6) rfl p2 rfl 46 x.cs.toArray (0, 0) _ b2 Tryd.underlying46 rfl (sizeT _) ?_))
          refine (m3).mono ?_
          rintro e W5 ⟨rfl, k1⟩
          clear c4_1_3
          replace b1 := b1.on k1
          replace b2 := b2.on k1
          replace b3 := b3.on k1
          replace kk := kk.trans (k1.mono kk.size)
          clear k1
          clear m3
          obtain ⟨p4, f4⟩ : ∃ p, W5.heap.size = p := ⟨_, rfl⟩
          obtain ⟨W6, ea6⟩ : ∃ W, W5.alloc (.cells #[.int .i64 0, .int .i64 0, .int .i64 0, .int .i64 0, .int .i64 0] 35) = W := ⟨_, rfl⟩
          have ka6 : Below W5.heap.size W5 W6 := by rw [← ea6]; exact (Below.refl _ W5).alloc (Nat.le_refl _) _
          have b4 : Blk W6 p4 35 #[.int .i64 0, .int .i64 0, .int .i64 0, .int .i64 0, .int .i64 0] := by rw [← ea6]; exact blk_new W5 _ 35 _ f4
          have q1_4 : p1 < p4 := by rw [← f4]; exact b1.lt
          replace b1 := b1.on ka6
          have q2_4 : p2 < p4 := by rw [← f4]; exact b2.lt
          replace b2 := b2.on ka6
          have q3_4 : p3 < p4 := by rw [← f4]; exact b3.lt
          replace b3 := b3.on ka6
          have kk0 := kk
          replace kk := kk.trans (ka6.mono kk.size)
          have hp4 : w.heap.size ≤ p4 := by rw [← f4]; exact kk0.size
          clear ka6 kk0
          obtain ⟨W7, es7⟩ : ∃ W, W6.setRow p4 I.cs.toArray = W := ⟨_, rfl⟩
          have bo4 := b4
          replace b1 := row_far b1 es7 (by omega)
          replace b2 := row_far b2 es7 (by omega)
          replace b3 := row_far b3 es7 (by omega)
          replace b4 : Blk W7 p4 35 I.cs.toArray := row_named b4 es7
          replace kk := kk.trans (row_below es7 hp4 kk.size)
          have m4 := fun W => done_any x A1 n1 c1_ hn16 W
          rw [ed] at m4
          go_wp2_with (first | ((with_reducible refine at_store 35 (.tmp 10) (.tmp 34) ?_); refine wpList_store_row rfl 35 (.tmp 10) (.tmp 34) rfl p4 I.cs.toArray rfl rfl 35 #[.int .i64 0, .int .i64 0, .int .i64 0, .int .i64 0, .int .i64 0] bo4 size35 rfl (Ins.onea _) ?_; rw [es7]) | ((with_reducible refine at_load 46 (.tmp 6) ?_); refine wpList_load_row rfl 46 (.tmp 6) rfl p2 rfl 46 x.cs.toArray (0, 0) _ b2 Tryd.underlying46 rfl (sizeT _) ?_))
          refine (m4 _).mono ?_
          rintro e W8 ⟨rfl, k1⟩
          replace b1 := b1.on k1
          replace b2 := b2.on k1
          replace b3 := b3.on k1
          replace b4 := b4.on k1
          replace kk := kk.trans (k1.mono kk.size)
          clear k1
          clear m4
          go_wp2_with fail
          refine (none_any _).mono ?_
          rintro e W9 ⟨rfl, k1⟩
          replace b1 := b1.on k1
          replace b2 := b2.on k1
          replace b3 := b3.on k1
          replace b4 := b4.on k1
          replace kk := kk.trans (k1.mono kk.size)
          clear k1
          obtain ⟨W10, es10⟩ : ∃ W, W9.setRow p3 noA.cs.toArray = W := ⟨_, rfl⟩
          have bo3 := b3
          replace b1 := row_far b1 es10 (by omega)
          replace b2 := row_far b2 es10 (by omega)
          replace b4 := row_far b4 es10 (by omega)
          replace b3 : Blk W10 p3 27 noA.cs.toArray := row_named b3 es10
          replace kk := kk.trans (row_below es10 hp3 kk.size)
          go_wp2_with (((with_reducible refine at_store 27 (.tmp 8) (.tmp 45) ?_); refine wpList_store_row rfl 27 (.tmp 8) (.tmp 45) rfl p3 noA.cs.toArray rfl rfl 27 #[.int .i64 0, .int .i64 0, .int .i64 0, .int .i64 0, .int .i64 0, .int .i64 0, .int .i64 0, .int .i64 0, .int .i64 0, .int .i64 0, .int .i64 0, .int .i64 0, .int .i64 0, .int .i64 0] bo3 size27 rfl (Ac.onea _) ?_; rw [es10]))
          refine bodyPost_ret (results_cell_row (cs := noA.cs.toArray) rfl _ _ p3 27 (0, 0) _ rfl b3 Tryd.underlying27 rfl size27) rfl ?_
          exact ⟨rfl, kk⟩
        | false =>
          have ek : x.k ≠ 0 := fun e => by simp [nextB, e, ed] at en
          rw [if_neg (by decide), if_neg ek]
          clear ek
          obtain ⟨I, eI⟩ : ∃ I, nextI x n1 (codeL xs) = I := ⟨_, rfl⟩
          go_enter Tryd.func8, Tryd.ntmps8
          go_wp2_with (((with_reducible refine at_load 39 (.tmp 4) ?_); refine wpList_load_row rfl 39 (.tmp 4) rfl p1 rfl 39 p.cs.toArray (0, 0) _ b1 Tryd.underlying39 rfl size39 ?_))
          refine (d1).mono ?_
          rintro e W4 ⟨rfl, k1⟩
          replace hse := hse.on k1
          replace hcell := (k1.cell (Nat.lt_of_lt_of_le hgp (by first | exact kk.size | assumption))).trans hcell
          replace b1 := b1.on k1
          replace b2 := b2.on k1
          replace b3 := b3.on k1
          replace kk := kk.trans (k1.mono kk.size)
          clear k1
          clear d1
          have c4_1_3 : W4.cell? ⟨p1, 3, none⟩ = some (.slice p.co.A p.co.n p.co.cap) := b1.cell 3
          rw [eA] at c4_1_3
          have m3 := next_any (x := x) hse hn16
          rw [en, eI] at m3
          go_wp2_with (first | (go_at_call 11; refine (m2 _).mono ?_; rintro e w' ⟨rfl, rfl⟩) | ((with_reducible refine at_load 46 (.tmp 6) ?_); refine wpList_load_row rfl 46 (.tmp 6) rfl p2 rfl 46 x.cs.toArray (0, 0) _ b2 Tryd.underlying46 rfl (sizeT _) ?_))
          refine (m3).mono ?_
          rintro e W5 ⟨rfl, k1⟩
          clear c4_1_3
          replace b1 := b1.on k1
          replace b2 := b2.on k1
          replace b3 := b3.on k1
          replace kk := kk.trans (k1.mono kk.size)
          clear k1
          clear m3
          obtain ⟨p4, f4⟩ : ∃ p, W5.heap.size = p := ⟨_, rfl⟩
          obtain ⟨W6, ea6⟩ : ∃ W, W5.alloc (.cells #[.int .i64 0, .int .i64 0, .int .i64 0, .int .i64 0, .int .i64 0] 35) = W := ⟨_, rfl⟩
          have ka6 : Below W5.heap.size W5 W6 := by rw [← ea6]; exact (Below.refl _ W5).alloc (Nat.le_refl _) _
          have b4 : Blk W6 p4 35 #[.int .i64 0, .int .i64 0, .int .i64 0, .int .i64 0, .int .i64 0] := by rw [← ea6]; exact blk_new W5 _ 35 _ f4
          have q1_4 : p1 < p4 := by rw [← f4]; exact b1.lt
          replace b1 := b1.on ka6
          have q2_4 : p2 < p4 := by rw [← f4]; exact b2.lt
          replace b2 := b2.on ka6
          have q3_4 : p3 < p4 := by rw [← f4]; exact b3.lt
          replace b3 := b3.on ka6
          have kk0 := kk
          replace kk := kk.trans (ka6.mono kk.size)
          have hp4 : w.heap.size ≤ p4 := by rw [← f4]; exact kk0.size
          clear ka6 kk0
          obtain ⟨W7, es7⟩ : ∃ W, W6.setRow p4 I.cs.toArray = W := ⟨_, rfl⟩
          have bo4 := b4
          replace b1 := row_far b1 es7 (by omega)
          replace b2 := row_far b2 es7 (by omega)
          replace b3 := row_far b3 es7 (by omega)
          replace b4 : Blk W7 p4 35 I.cs.toArray := row_named b4 es7
          replace kk := kk.trans (row_below es7 hp4 kk.size)
          have m4 := fun W => done_any x A1 n1 c1_ hn16 W
          rw [ed] at m4
          go_wp2_with (first | ((with_reducible refine at_store 35 (.tmp 10) (.tmp 34) ?_); refine wpList_store_row rfl 35 (.tmp 10) (.tmp 34) rfl p4 I.cs.toArray rfl rfl 35 #[.int .i64 0, .int .i64 0, .int .i64 0, .int .i64 0, .int .i64 0] bo4 size35 rfl (Ins.onea _) ?_; rw [es7]) | ((with_reducible refine at_load 46 (.tmp 6) ?_); refine wpList_load_row rfl 46 (.tmp 6) rfl p2 rfl 46 x.cs.toArray (0, 0) _ b2 Tryd.underlying46 rfl (sizeT _) ?_))
          refine (m4 _).mono ?_
          rintro e W8 ⟨rfl, k1⟩
          replace b1 := b1.on k1
          replace b2 := b2.on k1
          replace b3 := b3.on k1
          replace b4 := b4.on k1
          replace kk := kk.trans (k1.mono kk.size)
          clear k1
          clear m4
          go_wp2_with (first | ((with_reducible refine at_load 39 (.tmp 4) ?_); refine wpList_load_row rfl 39 (.tmp 4) rfl p1 rfl 39 p.cs.toArray (0, 0) _ b1 Tryd.underlying39 rfl size39 ?_) | ((with_reducible refine at_load 43 (.tmp 48) ?_); refine wpList_mid (by rfl) 43 (.tmp 48) rfl p2 (15) rfl x.mi.cs _ (mi_range b2) Tryd.underlying43 rfl size43 ?_))
          refine (micro_act p hp (kt : Int) x.mi _).mono ?_
          rintro e W9 ⟨rfl, k1⟩
          replace b1 := b1.on k1
          replace b2 := b2.on k1
          replace b3 := b3.on k1
          replace b4 := b4.on k1
          replace kk := kk.trans (k1.mono kk.size)
          clear k1
          obtain ⟨W10, es10⟩ : ∃ W, W9.setRow p3 (micA p (kt : Int) x.mi).cs.toArray = W := ⟨_, rfl⟩
          have bo3 := b3
          replace b1 := row_far b1 es10 (by omega)
          replace b2 := row_far b2 es10 (by omega)
          replace b4 := row_far b4 es10 (by omega)
          replace b3 : Blk W10 p3 27 (micA p (kt : Int) x.mi).cs.toArray := row_named b3 es10
          replace kk := kk.trans (row_below es10 hp3 kk.size)
          go_wp2_with (((with_reducible refine at_store 27 (.tmp 8) (.tmp 50) ?_); refine wpList_store_row rfl 27 (.tmp 8) (.tmp 50) rfl p3 (micA p (kt : Int) x.mi).cs.toArray rfl rfl 27 #[.int .i64 0, .int .i64 0, .int .i64 0, .int .i64 0, .int .i64 0, .int .i64 0, .int .i64 0, .int .i64 0, .int .i64 0, .int .i64 0, .int .i64 0, .int .i64 0, .int .i64 0, .int .i64 0] bo3 size27 rfl (Ac.onea _) ?_; rw [es10]))
          refine bodyPost_ret (results_cell_row (cs := (micA p (kt : Int) x.mi).cs.toArray) rfl _ _ p3 27 (0, 0) _ rfl b3 Tryd.underlying27 rfl size27) rfl ?_
          exact ⟨rfl, kk⟩
    · have eO : ofA p xss t x own = noA := by unfold ofA; rw [if_neg (fun e => c1 e.2)]
      rw [eO]
      clear eO
      have m2 := fun W => in_any t 0 ((p.co.n : Int) - 1) W
      have ei : inB t 0 ((p.co.n : Int) - 1) = false := by
        unfold inB
        rcases Int.lt_or_le t 0 with e | e
        · rw [decide_eq_false (show ¬ 0 ≤ t by omega), Bool.false_and]
        · rw [decide_eq_false (show ¬ t ≤ (p.co.n : Int) - 1 by omega), Bool.and_false]
      rw [ei] at m2
      clear ei c1
      have z1 : (-9223372036854775808 : Int) ≤ (p.co.n : Int) - 1 := by omega
      have z2 : (p.co.n : Int) - 1 ≤ 9223372036854775807 := by omega
      clear ev hlen h hL
      go_enter Tryd.func8, Tryd.ntmps8
      go_wp2_with (((with_reducible refine at_load 39 (.tmp 4) ?_); refine wpList_load_row rfl 39 (.tmp 4) rfl p1 rfl 39 p.cs.toArray (0, 0) _ b1 Tryd.underlying39 rfl size39 ?_))
      refine (d1).mono ?_
      rintro e W4 ⟨rfl, k1⟩
      replace b1 := b1.on k1
      replace b2 := b2.on k1
      replace b3 := b3.on k1
      replace kk := kk.trans (k1.mono kk.size)
      clear k1
      clear d1
      have c4_1_3 : W4.cell? ⟨p1, 3, none⟩ = some (.slice p.co.A p.co.n p.co.cap) := b1.cell 3
      go_wp2_with (go_at_call 11; refine (m2 _).mono ?_; rintro e w' ⟨rfl, rfl⟩)
      refine (none_any _).mono ?_
      rintro e W5 ⟨rfl, k1⟩
      clear c4_1_3
      replace b1 := b1.on k1
      replace b2 := b2.on k1
      replace b3 := b3.on k1
      replace kk := kk.trans (k1.mono kk.size)
      clear k1
      obtain ⟨W6, es6⟩ : ∃ W, W5.setRow p3 noA.cs.toArray = W := ⟨_, rfl⟩
      have bo3 := b3
      replace b1 := row_far b1 es6 (by omega)
      replace b2 := row_far b2 es6 (by omega)
      replace b3 : Blk W6 p3 27 noA.cs.toArray := row_named b3 es6
      replace kk := kk.trans (row_below es6 hp3 kk.size)
      go_wp2_with (((with_reducible refine at_store 27 (.tmp 8) (.tmp 24) ?_); refine wpList_store_row rfl 27 (.tmp 8) (.tmp 24) rfl p3 noA.cs.toArray rfl rfl 27 #[.int .i64 0, .int .i64 0, .int .i64 0, .int .i64 0, .int .i64 0, .int .i64 0, .int .i64 0, .int .i64 0, .int .i64 0, .int .i64 0, .int .i64 0, .int .i64 0, .int .i64 0, .int .i64 0] bo3 size27 rfl (Ac.onea _) ?_; rw [es6]))
      refine bodyPost_ret (results_cell_row (cs := noA.cs.toArray) rfl _ _ p3 27 (0, 0) _ rfl b3 Tryd.underlying27 rfl size27) rfl ?_
      exact ⟨rfl, kk⟩
  · have eO : ofA p xss t x own = noA := by unfold ofA; rw [if_neg (fun e => c0 (ev.symm.trans e.1))]
    rw [eO]
    have tv : (v == 0) = false := beq_eq_false_iff_ne.2 c0
    have tv2 : (v != 0) = true := by simpa using c0
    clear eO ev c0 hlen h hL
    go_enter Tryd.func8, Tryd.ntmps8
    go_wp2_with (((with_reducible refine at_load 39 (.tmp 4) ?_); refine wpList_load_row rfl 39 (.tmp 4) rfl p1 rfl 39 p.cs.toArray (0, 0) _ b1 Tryd.underlying39 rfl size39 ?_))
    refine (d1).mono ?_
    rintro e W4 ⟨rfl, k1⟩
    replace b1 := b1.on k1
    replace b2 := b2.on k1
    replace b3 := b3.on k1
    replace kk := kk.trans (k1.mono kk.size)
    clear k1
    clear d1
    go_wp2_with fail
    refine (none_any _).mono ?_
    rintro e W5 ⟨rfl, k1⟩
    replace b1 := b1.on k1
    replace b2 := b2.on k1
    replace b3 := b3.on k1
    replace kk := kk.trans (k1.mono kk.size)
    clear k1
    obtain ⟨W6, es6⟩ : ∃ W, W5.setRow p3 noA.cs.toArray = W := ⟨_, rfl⟩
    have bo3 := b3
    replace b1 := row_far b1 es6 (by omega)
    replace b2 := row_far b2 es6 (by omega)
    replace b3 : Blk W6 p3 27 noA.cs.toArray := row_named b3 es6
    replace kk := kk.trans (row_below es6 hp3 kk.size)
    go_wp2_with (((with_reducible refine at_store 27 (.tmp 8) (.tmp 24) ?_); refine wpList_store_row rfl 27 (.tmp 8) (.tmp 24) rfl p3 noA.cs.toArray rfl rfl 27 #[.int .i64 0, .int .i64 0, .int .i64 0, .int .i64 0, .int .i64 0, .int .i64 0, .int .i64 0, .int .i64 0, .int .i64 0, .int .i64 0, .int .i64 0, .int .i64 0, .int .i64 0, .int .i64 0] bo3 size27 rfl (Ac.onea _) ?_; rw [es6]))
    refine bodyPost_ret (results_cell_row (cs := noA.cs.toArray) rfl _ _ p3 27 (0, 0) _ rfl b3 Tryd.underlying27 rfl size27) rfl ?_
    exact ⟨rfl, kk⟩
end Go.Proofs.YtfadfdfpocpelaaDoor
