/- The past: a change is kept, counted, taken back. Conditions: at most 1000 changes. -/
import Derived.Test.YtdilmapcjmdabaaSet
namespace Go.Proofs.Ytdilmapcjmdabaa
open Go.ChangeShapes Go.WideShapes Go.RowKit

/-- The past of an arena. -/
structure Pst (w : World) (pp : Nat) (Ap : Option Addr) (cp h : Nat) (P : List Chg) : Prop where
  box : Blk w pp 68 #[.slice Ap h cp]
  op : w.ownsRow 0 83 11 (.slice Ap h cp) h (flatG P)
def pstS (pp : Nat) (Ap : Option Addr) (g : Nat) : Prop := g = pp ∨ lies Ap g
section
variable {w w' w2 : World} {pp cp h : Nat} {Ap : Option Addr} {P : List Chg}
theorem Pst.below (H : Pst w pp Ap cp h P) (hb : Below w.heap.size w w') : Pst w' pp Ap cp h P := ⟨H.box.on hb, own_below H.op hb⟩
theorem Pst.len (H : Pst w pp Ap cp h P) : P.length = h := by
  have := H.op.1
  unfold flatG at this
  rw [flat_len Chg.len] at this
  omega
theorem count_any (H : Pst w pp Ap cp h P) : Calls Try.prog 45 #[.pointer (some ⟨pp, 0, none⟩)] w fun e w' => e = .returned (.int .i64 (h : Int)) ∧ w = w' := by
  have c0 : w.cell? ⟨pp, 0, none⟩ = some (.slice Ap h cp) := H.box.cell 0
  go_enter Try.func45, Try.ntmps45
  go_wp2
  go_ret
  exact ⟨rfl, rfl⟩

theorem step_load_mid {ops : Array Oper} {op : Oper} {a : Act} {w : World} {K : Act → World → Prop} {Q : Exit → Act → World → Prop} {E : Prop} (hgd : op.guard = none) (ty : TypeId) (x : Operand) (ho : op.op = .load ty x)
    (b o : Nat) (hx : a.eval x = .pointer (some ⟨b, o, none⟩)) (cs : List Value) (d : TypeDesc) (hc : w.rangeAt b o cs)
    (hu : Try.prog.underlying ty = some d) (hd : d.isRow = true) (hi : (Try.prog.info? ty).map (·.size) = some cs.length)
    (h : K (a.put op.dst (.agg cs.toArray)) w) : if Region.wanted op (yielded ops a.tmps) = true then Oper.wp Try.prog op a w K Q else E := by
  have hw : Region.wanted op (yielded ops a.tmps) = true := by simp [Region.wanted, hgd]
  rw [if_pos hw]
  exact wp_load_mid ty x ho b o hx cs d hc hu hd hi h
theorem step_build {ops : Array Oper} {op : Oper} {a : Act} {w : World} {K : Act → World → Prop} {Q : Exit → Act → World → Prop} {E : Prop} (hgd : op.guard = none) (t : TypeId) (len : Nat) (x : Operand) (ho : op.op = .buildSlice t len #[(0, x)])
    (v r : Value) (W : World) (hx : a.eval x = v) (hr : (Instr.buildSlice t len #[(0, v)]).run Try.prog w = .ok r W)
    (h : K (a.put op.dst r) W) : if Region.wanted op (yielded ops a.tmps) = true then Oper.wp Try.prog op a w K Q else E := by
  have hw : Region.wanted op (yielded ops a.tmps) = true := by simp [Region.wanted, hgd]
  rw [if_pos hw]
  unfold Oper.wp execOp
  simp only [ho, Sem.run_bind, List.map_toArray, List.map_cons, List.map_nil, hx, hr, Result.andThen_ok]
  exact h
theorem slice83 (c : Chg) (w : World) : (Instr.buildSlice 66 1 #[(0, .agg c.cs.toArray)]).run Try.prog w = .ok (.slice (some ⟨w.heap.size, 0, none⟩) 1 1) (w.alloc (.cells c.cs.toArray 83)) := by kernel_rfl

/-- What the past is behind a change. -/
def PastTo (w : World) (pp : Nat) (Ap : Option Addr) (P : List Chg) (w' : World) : Prop :=
  ∃ Ap' cp' h', Pst w' pp Ap' cp' h' P ∧ Kept (pstS pp Ap) w w' ∧ ∀ g, lies Ap' g → lies Ap g ∨ w.heap.size ≤ g
theorem keep_box (H : Pst w pp Ap cp h P) (o : Obj) : ∀ W, (w.alloc o).grownBy W (Value.slice Ap h cp).ownBlock → Blk W pp 68 #[.slice Ap h cp] := by
  intro W hg
  have h1 := H.below ((Below.refl _ w).alloc (Nat.le_refl _) o)
  exact h1.box.kept (kept_grown hg) (fun e => own_off h1.op h1.box (by decide) ((own_lies Ap h cp _).1 e))
theorem keep_to {c : Chg} {w5 : World} {gg cq : Nat} (H : Pst w pp Ap cp h P) (o : Obj) (hg : (w.alloc o).grownBy w5 (Value.slice Ap h cp).ownBlock)
    (ho : w5.ownsRow 0 83 11 (.slice (some ⟨gg, 0, none⟩) (h + 1) cq) (h + 1) (flatG P ++ c.cs)) (hat : (Value.slice Ap h cp).ownBlock = some gg ∨ gg = w.heap.size + 1) :
    PastTo w pp Ap (P ++ [c]) (w5.setCell ⟨pp, 0, none⟩ (.slice (some ⟨gg, 0, none⟩) (h + 1) cq)) := by
  have h1 := H.below ((Below.refl _ w).alloc (Nat.le_refl _) o)
  have k1 := kept_grown hg
  have k2 := kept_cell w5 ⟨pp, 0, none⟩ (.slice (some ⟨gg, 0, none⟩) (h + 1) cq)
  have b5 := keep_box H o w5 hg
  refine ⟨some ⟨gg, 0, none⟩, cq, h + 1, ⟨heap_setCell_same w5 pp 0 _ 68 _ b5, ?_⟩, ?_, fun g hg => ?_⟩
  · have := own_kept ho k2 (fun g hg e => by subst e; exact own_off ho b5 (by decide) hg)
    rw [show flatG (P ++ [c]) = flatG P ++ c.cs by simp [flatG]]
    exact this
  · exact ((kept_below (pstS pp Ap) ((Below.refl _ w).alloc (Nat.le_refl _) o)).next k1 (fun g hg => .inl (.inr ((own_lies Ap h cp g).1 hg)))).next k2 (fun g hg => .inl (.inl hg))
  · injection hg with hg
    subst hg
    rcases hat with hat | hat
    · exact .inl ((own_lies Ap h cp _).1 hat)
    · exact .inr (by show w.heap.size ≤ gg; omega)
theorem PastTo.from_ (h : PastTo w' pp Ap P w2) (hb : Below w.heap.size w w') : PastTo w pp Ap P w2 := by
  obtain ⟨a, b, c, h1, h2, h3⟩ := h
  exact ⟨a, b, c, h1, (kept_below (pstS pp Ap) hb).next h2 (fun g hg => .inl hg), fun g hg => (h3 g hg).elim .inl (fun e => .inr (Nat.le_trans hb.size e))⟩
set_option maxRecDepth 100000 in
theorem keep_any {c : Chg} (H : Pst w pp Ap cp h P) (hh : h ≤ 1000) : Calls Try.prog 59 #[.pointer (some ⟨pp, 0, none⟩), .agg c.cs.toArray] w fun e w' => e = .returned (.tuple #[]) ∧ PastTo w pp Ap (P ++ [c]) w' := by
  obtain ⟨i0, hi, hz0, hz1, hz2⟩ := info_parts info83
  obtain ⟨W1, eW1⟩ : ∃ W, W = w.alloc (.cells c.cs.toArray 83) := ⟨_, rfl⟩
  have hb1 : Below w.heap.size w W1 := by rw [eW1]; exact (Below.refl _ w).alloc (Nat.le_refl _) _
  have b5 : Blk W1 w.heap.size 83 c.cs.toArray := by rw [eW1]; exact heap_alloc_new w _
  have h1 := H.below hb1
  obtain ⟨z, ez⟩ : ∃ z, z = w.heap.size := ⟨_, rfl⟩
  go_enter Try.func59, Try.ntmps59
  go_wp2_with fail
  rw [← eW1, ← ez]
  rw [← ez] at b5 hb1
  clear eW1
  have EZ := Lib.hid ez
  clear ez
  have c0 : W1.drew.cell? ⟨pp, 0, none⟩ = some (.slice Ap h cp) := h1.box.cell 0
  have h1d : Pst W1.drew pp Ap cp h P := ⟨h1.box, h1.op⟩
  have c0a : ∀ o, (W1.alloc o).cell? ⟨pp, 0, none⟩ = some (.slice Ap h cp) := fun o => (World.cell?_alloc_lt _ _ _ h1.box.lt).trans c0
  have op5 : (W1.drew.alloc (.cells c.cs.toArray 83)).ownsRow 0 83 11 (.slice Ap h cp) h (flatG P) := h1d.op.alloc _
  have HK := Lib.hid (keep_box h1d (.cells c.cs.toArray 83))
  have e0 : W1.cell? ⟨z, 0, none⟩ = some (.int .i64 c.k) := b5.cell 0
  have e1 : W1.cell? ⟨z, 1, none⟩ = some (.int .i64 c.was.s) := b5.cell 1
  have e2 : W1.cell? ⟨z, 2, none⟩ = some (.int .i64 c.was.g) := b5.cell 2
  have e3 : W1.cell? ⟨z, 3, none⟩ = some (.int .i64 c.was.b) := b5.cell 3
  have e4 : W1.cell? ⟨z, 4, none⟩ = some (.int .i64 c.was.p) := b5.cell 4
  have e5 : W1.cell? ⟨z, 5, none⟩ = some (.int .i64 c.was.x.n) := b5.cell 5
  have e6 : W1.cell? ⟨z, 6, none⟩ = some (.int .i64 c.was.x.c) := b5.cell 6
  have e7 : W1.cell? ⟨z, 7, none⟩ = some (.int .i64 c.was.x.g) := b5.cell 7
  have e8 : W1.cell? ⟨z, 8, none⟩ = some (.int .i64 c.was.y.n) := b5.cell 8
  have e9 : W1.cell? ⟨z, 9, none⟩ = some (.int .i64 c.was.y.c) := b5.cell 9
  have e10 : W1.cell? ⟨z, 10, none⟩ = some (.int .i64 c.was.y.g) := b5.cell 10
  go_region_law ((refine step_append_lies _ (by rfl) _ _ 66 (by rfl) 0 83 i0 _ 11 88 Try.underlying66 hi hz0 hz1 hz2 rfl (by decide) (.slice Ap h cp) h (flatG P) (by rfl) op5 ⟨W1.heap.size, 0, none⟩ 1 1 c.cs (by rfl) (by rfl) (World.news_of_block (cs := c.cs.toArray) (t := 83) (fr := (0, 0)) (heap_alloc_new W1.drew _)) c.one (by decide) (by unfold maxLen; omega) (by omega) (Nat.zero_le _) (W1.heap.size + 1) (by simp) ?_; intro gg cq w5 hown hgrow hat hlt; have hbx := HK.out w5 hgrow; have d0 := hbx.cell 0; have d1 := hbx.free 0))
  all_goals (
    go_end0
    have ez' := EZ.out
    subst ez'
    exact ⟨rfl, (keep_to h1d (.cells c.cs.toArray 83) hgrow hown hat).from_ hb1.drew⟩)

theorem under66 : Try.prog.underlying 66 = some (.slice (Try.prog.elem 66)) := by kernel_rfl
theorem sizeE66 (w : World) : (sizeOf (Try.prog.elem 66)).run Try.prog w = .ok 11 w := by kernel_rfl
theorem cut_past (A : Option Addr) (n cap k : Nat) (hc : k ≤ cap) (w : World) :
    (Instr.slice 66 (.slice A n cap) none (some (.int .i64 (k : Int))) none).run Try.prog w = .ok (.slice A k cap) w := by
  rw [run_slice_h w 66 A n cap under66 .i64 _ (by omega) (by omega), sizeE66]
  simp only [Result.andThen, sliced, Int.toNat_natCast, Nat.sub_zero, Nat.zero_mul]
  rcases A with _ | ad
  · split <;> rfl
  · split <;> simp [Addr.add]
theorem back_to {q : Nat} {c : Chg} (H : Pst w pp Ap cp (q + 1) (P ++ [c])) : Pst (w.setCell ⟨pp, 0, none⟩ (.slice Ap q cp)) pp Ap cp q P ∧ Kept (fun g => g = pp) w (w.setCell ⟨pp, 0, none⟩ (.slice Ap q cp)) := by
  have hk := kept_cell w ⟨pp, 0, none⟩ (.slice Ap q cp)
  have hl := H.len
  simp at hl
  refine ⟨⟨heap_setCell_same w pp 0 _ 68 _ H.box, ?_⟩, hk⟩
  have ho := own_kept H.op hk (fun g hg e => by subst e; exact own_off H.op H.box (by decide) hg)
  refine ⟨by unfold flatG; rw [flat_len Chg.len]; omega, ?_⟩
  rcases ho.2 with ⟨e, h0⟩ | ⟨g', c', cur, e, hb, hh, h1, h2, h3, h4⟩
  · omega
  · injection e with e1 e2 e3
    subst e1 e3
    refine .inr ⟨g', cp, cur, rfl, hb, hh, by omega, h2, h3, ?_⟩
    have e : cur.toList.take (q * 11) = (cur.toList.take ((q + 1) * 11)).take (q * 11) := by rw [List.take_take]; congr 1; omega
    rw [e, h4]
    unfold flatG
    rw [List.flatMap_append, List.take_append_of_le_length (by rw [flat_len Chg.len]; omega), List.take_of_length_le (by rw [flat_len Chg.len]; omega)]
set_option maxRecDepth 100000 in
theorem back_any {q : Nat} {c : Chg} (H : Pst w pp Ap cp (q + 1) (P ++ [c])) (hh : q ≤ 1000) : Calls Try.prog 46 #[.pointer (some ⟨pp, 0, none⟩)] w fun e w' => e = .returned (.agg c.cs.toArray) ∧ PastTo w pp Ap P w' := by
  have hl := H.len
  simp at hl
  have hx : (P ++ [c])[q]? = some c := by rw [← hl]; simp
  obtain ⟨g, eA, _, hr, _⟩ := own_at Chg.len H.op hx (by omega)
  subst eA
  have hcap := own_cap H.op
  obtain ⟨W1, eW1⟩ : ∃ W, W = w.alloc (.cells #[.int .i64 0, .int .i64 0, .int .i64 0, .int .i64 0, .int .i64 0, .int .i64 0, .int .i64 0, .int .i64 0, .int .i64 0, .int .i64 0, .int .i64 0] 83) := ⟨_, rfl⟩
  have hb1 : Below w.heap.size w W1 := by rw [eW1]; exact (Below.refl _ w).alloc (Nat.le_refl _) _
  have b2 : Blk W1 w.heap.size 83 (Chg.cs ⟨0, noC⟩).toArray := by rw [eW1]; exact heap_alloc_new w _
  have h1 := H.below hb1
  have r1 : W1.rangeAt g (q * 11) c.cs := by rw [eW1]; exact World.rangeAt_alloc hr _
  obtain ⟨z, ez⟩ : ∃ z, z = w.heap.size := ⟨_, rfl⟩
  have hq : ((q + 1 : Nat) : Int) - 1 = (q : Int) := by omega
  have hsl := cut_past (some ⟨g, 0, none⟩) (q + 1) cp q (by omega)
  have hq2 : ((q : Nat) : Int) + 1 - 1 = (q : Int) := by omega
  have c0 : W1.cell? ⟨pp, 0, none⟩ = some (.slice (some ⟨g, 0, none⟩) (q + 1) cp) := h1.box.cell 0
  go_enter Try.func46, Try.ntmps46
  go_wp2_with fail
  rw [← eW1, ← ez]
  rw [← ez] at b2 hb1
  clear eW1
  have EZ := Lib.hid ez
  clear ez
  refine (count_any h1).mono ?_
  rintro e w' ⟨rfl, rfl⟩
  have hB : Blk (W1.alloc (.cells (Chg.cs ⟨0, noC⟩).toArray 83)) W1.heap.size 83 (Chg.cs ⟨0, noC⟩).toArray := heap_alloc_new W1 _
  go_wp2_with (first
    | (refine wpList_load_mid rfl 83 (.tmp 13) rfl g (q * 11) rfl c.cs _ r1 Try.underlying83 rfl (load83 c) ?_)
    | (refine wpList_store_row rfl 83 (.tmp 4) (.tmp 14) rfl W1.heap.size c.cs.toArray rfl rfl 83 (Chg.cs ⟨0, noC⟩).toArray hB size83 rfl (by simp [Chg.cs, Cel.cs, Value.oneCell']) ?_
       obtain ⟨w3, ew3⟩ : ∃ W, W = (W1.alloc (.cells (Chg.cs ⟨0, noC⟩).toArray 83)).setRow W1.heap.size c.cs.toArray := ⟨_, rfl⟩
       have hb3 : Below W1.heap.size W1 w3 := by rw [ew3]; exact below_setRow ((Below.refl _ W1).alloc (Nat.le_refl _) _) (Nat.le_refl _) _
       have hbw : Below w.heap.size w w3 := by rw [← EZ.out]; exact hb1.trans (hb3.mono (Nat.le_of_lt b2.lt))
       have b6 : Blk w3 W1.heap.size 83 c.cs.toArray := by rw [ew3]; exact setRow_heap _ _ _ _ _ _ hB
       have b23 := b2.on hb3
       have h3 := h1.below hb3
       have c3 : w3.cell? ⟨pp, 0, none⟩ = some (.slice (some ⟨g, 0, none⟩) (q + 1) cp) := h3.box.cell 0
       have z3 := h3.box.free 0
       obtain ⟨hT1, hT2⟩ := back_to h3
       have hT3 := (kept_below (fun g => g = pp) hbw).next hT2 (fun g hg => .inl hg)
       have H1 := h1.box.lt
       have H2 := b2.lt
       have e1 := h1.box.ne b2 (by decide)
       have e2 : pp ≠ W1.heap.size := by omega
       generalize W1.heap.size = z6 at *
       have b64 : Blk (w3.setCell ⟨pp, 0, none⟩ (.slice (some ⟨g, 0, none⟩) q cp)) z6 83 c.cs.toArray := (Below.heap_setCell _ _ _ _ (fun e => e2 e.symm)).trans b6
       have b24 : Blk (w3.setCell ⟨pp, 0, none⟩ (.slice (some ⟨g, 0, none⟩) q cp)) z 83 (Chg.cs ⟨0, noC⟩).toArray := (Below.heap_setCell _ _ _ _ (fun e => e1 e.symm)).trans b23
       show wpList _ _ _ _ _ ((W1.alloc (.cells (Chg.cs ⟨0, noC⟩).toArray 83)).setRow z6 c.cs.toArray)
       rw [← ew3]
       clear ew3 hB)
    | (refine wpList_load_row rfl 83 (.tmp 4) rfl z6 rfl 83 c.cs.toArray (0, 0) _ b64 Try.underlying83 rfl size83 ?_)
    | (refine wpList_store_row rfl 83 (.tmp 2) (.tmp 24) rfl z c.cs.toArray rfl rfl 83 (Chg.cs ⟨0, noC⟩).toArray b24 size83 rfl (by simp [Chg.cs, Cel.cs, Value.oneCell']) ?_))
  have hgw : g < z := by
    have := EZ.out
    obtain ⟨cs, hb⟩ := own_blk H.op (g := g) rfl
    have := hb.lt
    omega
  have kz := kept_row (w3.setCell ⟨pp, 0, none⟩ (.slice (some ⟨g, 0, none⟩) q cp)) z c.cs.toArray
  refine bodyPost_ret (results_cell_row (cs := c.cs.toArray) rfl _ _ z 83 (0, 0) _ rfl (setRow_heap _ _ _ _ _ _ b24) Try.underlying83 rfl size83) rfl ?_
  refine ⟨rfl, some ⟨g, 0, none⟩, cp, q, ⟨hT1.box.kept kz e1, own_kept hT1.op kz (fun g' hg' e => ?_)⟩, ?_, fun g hg => .inl hg⟩
  · have hgg : g = g' := by simpa [lies] using hg'
    omega
  · exact (hT3.more (S' := pstS pp (some ⟨g, 0, none⟩)) (fun g e => .inl e)).next kz (fun g' e => .inr (by have := EZ.out; omega))
end
end Go.Proofs.Ytdilmapcjmdabaa
