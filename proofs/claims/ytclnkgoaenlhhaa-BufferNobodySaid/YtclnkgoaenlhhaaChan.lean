/- A row over a channel of entries: what is taken, what is put; of one goroutine, so that nobody else is there. Conditions: none. -/
import Derived.Test.YtclnkgoaenlhhaaEq
import Derived.Conc.LoneCalls
import Derived.Conc.LoneSelect
import Derived.Maps.AppendAt
import Derived.KernelRfl
import Derived.Laws.Rows
import Derived.Laws.Tables
namespace Go.Proofs.Ytclnkgoaenlhhaa
open Go.Conc Go.RowKit

/-- Entries as a channel holds them. -/
def ents (xs : List Ent) : List Value := xs.map fun e => .agg e.cs.toArray
theorem ents_len (xs : List Ent) : (ents xs).length = xs.length := by simp [ents]
/-- The channel c has room for cap entries, and xs wait in it. -/
structure Holds (w : World) (c cap : Nat) (xs : List Ent) : Prop where
  block : ∃ s r, w.heap[c]? = some (.chan cap (ents xs).toArray false s r false)
  fits : xs.length ≤ cap
theorem Holds.lt {w : World} {c cap : Nat} {xs : List Ent} (h : Holds w c cap xs) : c < w.heap.size := by
  obtain ⟨s, r, hc⟩ := h.block
  exact (Array.getElem?_eq_some_iff.1 hc).1
theorem Holds.kept {w w' : World} {c cap : Nat} {xs : List Ent} {row : Option Nat} (h : Holds w c cap xs) (hg : w.grownBy w' row) (hne : some c ≠ row) : Holds w' c cap xs :=
  ⟨by obtain ⟨s, r, hc⟩ := h.block; exact ⟨s, r, (hg.block c h.lt hne).trans hc⟩, h.fits⟩
theorem grown_below {w w' : World} (h : Below w.heap.size w w') (row : Option Nat) : w.grownBy w' row := ⟨h.os, h.tape, h.output, h.size, fun k hk _ => h.block k hk⟩
theorem Holds.below {w w' : World} {c cap : Nat} {xs : List Ent} (h : Holds w c cap xs) (hb : Below w.heap.size w w') : Holds w' c cap xs :=
  h.kept (grown_below hb none) (by simp)
/-- Behind the channel's turn. -/
theorem holds_set (w : World) (c cap : Nat) (buf : Array Value) (xs : List Ent) (s r : Nat) (hlt : c < w.heap.size) (hb : buf = (ents xs).toArray) (hf : xs.length ≤ cap) :
    Holds (w.setChan c cap buf false s r false) c cap xs := by
  subst hb
  exact ⟨⟨s, r, heap_setChan _ _ _ _ _ _ _ _ hlt⟩, hf⟩
theorem grown_set (w : World) (c cap : Nat) (buf : Array Value) (s r : Nat) :
    w.grownBy (w.setChan c cap buf false s r false) (some c) := by
  refine ⟨rfl, rfl, rfl, by simp [World.setChan], fun k hk hne => ?_⟩
  have hck : c ≠ k := fun e => hne (by rw [e])
  simp only [World.setChan]
  rw [Array.getElem?_setIfInBounds_ne hck]
theorem blk_set_chan {w : World} {g : Nat} {t : TypeId} {cs : Array Value} (h : Blk w g t cs) (c cap : Nat) (buf : Array Value) (s r : Nat) (hne : g ≠ c) : Blk (w.setChan c cap buf false s r false) g t cs := by
  unfold Blk
  simp only [World.setChan]
  rw [Array.getElem?_setIfInBounds_ne (Ne.symm hne)]
  exact h
theorem grown_then {w a b : World} {row : Option Nat} (h : w.grownBy a row) (k : Below w.heap.size a b) : w.grownBy b row :=
  ⟨k.os.trans h.os, k.tape.trans h.tape, k.output.trans h.output, Nat.le_trans h.size k.size, fun i hi hn => (k.block i hi).trans (h.block i hi hn)⟩
theorem below_setRow {B g : Nat} {a b : World} (h : Below B a b) (hg : B ≤ g) (cs : Array Value) : Below B a (b.setRow g cs) :=
  ⟨h.os, h.tape, h.output, by simpa [World.setRow] using h.size, fun k hk => (setRow_other _ _ _ _ (by omega)).trans (h.block k hk)⟩
/-- A whole struct loaded, and stored, in a walk of the machine of one. -/
theorem upon_load {o : Oper} {a : Act} {w : World} {K : Act → World → Prop} (ty : TypeId) (x : Operand) (ho : o.op = .load ty x) (g : Nat) (hx : a.eval x = .pointer (some ⟨g, 0, none⟩)) (t : TypeId) (cs : Array Value) (d : TypeDesc)
    (hg : Blk w g t cs) (hu : Try.prog.underlying ty = some d) (hd : ∃ fs, d = .struct fs) (hi : (Try.prog.info? ty).map (·.size) = some cs.size)
    (h : K (a.put o.dst (.agg cs)) w) : uponK o a K ((execOp a.eval o).run Try.prog w) := by
  obtain ⟨fs, rfl⟩ := hd
  unfold execOp
  simp only [ho, hx, Instr.loadAt, Instr.sureAddr, Sem.run_bind, Sem.run_pure, Result.andThen_ok, run_loadVar_row w g t ty cs (0, 0) _ hg hu rfl hi]
  exact h
theorem upon_store {o : Oper} {a : Act} {w : World} {K : Act → World → Prop} (ty : TypeId) (x y : Operand) (ho : o.op = .store ty x y) (g : Nat) (cells : Array Value) (hx : a.eval x = .pointer (some ⟨g, 0, none⟩)) (hy : a.eval y = .agg cells)
    (t : TypeId) (old : Array Value) (hg : Blk w g t old) (hi : (Try.prog.info? ty).map (·.size) = some cells.size) (hold : old.size = cells.size) (h1 : cells.all (·.oneCell') = true)
    (h : K (a.put o.dst undef) (w.setRow g cells)) : uponK o a K ((execOp a.eval o).run Try.prog w) := by
  unfold execOp
  simp only [ho, hx, hy, Instr.storeAt, Instr.sureAddr, Sem.run_bind, Sem.run_pure, Result.andThen_ok, run_storeVar_row w g t ty old cells hg hi hold h1]
  exact h
set_option maxRecDepth 100000 in
set_option maxHeartbeats 4000000 in
theorem put_room (c cap : Nat) (x : Ent) (xs : List Ent) (w : World) (h : Holds w c cap xs) (hroom : xs.length < cap) :
    Calls Try.prog 29 #[.chan (some c), .agg x.cs.toArray] w fun e w' => e = .returned (.bool true) ∧ Holds w' c cap (xs ++ [x]) ∧ w.grownBy w' (some c) := by
  obtain ⟨s, r, hc⟩ := h.block
  have hlt := h.lt
  refine calls_of_loneTo fun cs => ?_
  have e : Frame.enter Try.prog 29 #[.chan (some c), .agg x.cs.toArray] .normal = (base 29).at ⟨#[.chan (some c), .agg x.cs.toArray, undef, undef, undef, undef, undef, undef, undef, undef], []⟩ [.code (Try.f29.body.getD .skip)] := by
    simp [Frame.enter, Frame.at, Try.func29, base, Try.f29]
  rw [e]
  refine LoneTo.goes (n := 18) ?_
  simp only [Try.f29, Option.getD_some]
  s_c stepG_seq
  s_reg
  s_op
  s_op
  s_c stepG_region_end
  s_c stepG_seq
  s_c stepG_seq
  s_reg
  s_op
  s_c stepG_region_end
  s_reg
  s_in
  refine goes_oper_k rfl rfl (by decide) (fun K hK => ?_)
  refine upon_load 35 (.tmp 3) rfl w.heap.size rfl 35 x.cs.toArray _ (blk_new w _ _ _ rfl) Try.underlying35 ⟨_, rfl⟩ (load35 x) (hK _ _ ⟨trivial, ?_⟩)
  clear hK K
  walk_nrm
  s_c stepG_region_end
  s_c stepG_seq
  s_reg
  s_stop
  refine LoneTo.step (step_lone_select_send_room (c := c) (v := .agg x.cs.toArray) (z' := .agg noE.cs.toArray) (cap := cap) (buf := (ents xs).toArray) (s := s) (r := r) (tm := false) (stepG_comm (cases := #[scase c (.agg x.cs.toArray) (.agg noE.cs.toArray)]) (blocking := false) (shape := .select) (w' := (w.alloc (.cells x.cs.toArray 35))) rfl rfl (by decide) (by simp [go_sem, execOp, scase, Act.eval, noE, noP, noW, Ent.cs])) ?_ (by simpa [ents] using hroom)) ?_
  · rw [Below.heap_alloc _ _ _ hlt]
    exact hc
  rw [Frame.finish_at]
  walk_nrm
  refine LoneTo.goes (n := 20) ?_
  s_op
  s_op
  s_c stepG_region_end
  s_c stepG_block
  s_cond true
  s_c stepG_seq
  s_reg
  s_op
  s_c stepG_region_end
  s_c stepG_ret'
  s_stop
  have hlt2 : c < (w.alloc (.cells x.cs.toArray 35)).heap.size := by rw [World.size_alloc]; omega
  refine LoneTo.done ⟨.returned (.bool true), _, rfl, ⟨rfl, holds_set _ _ _ _ _ _ _ hlt2 ?_ ?_, (World.grownBy_alloc w _ _).trans (grown_set _ _ _ _ _ _)⟩, rfl, rfl, rfl, rfl, _, Try.func29, by simp [results, Try.f29, Frame.at]⟩
  · simp [ents]
  · simp
    omega
set_option maxRecDepth 100000 in
set_option maxHeartbeats 4000000 in
theorem put_full (c cap : Nat) (x : Ent) (xs : List Ent) (w : World) (h : Holds w c cap xs) (hroom : cap ≤ xs.length) :
    Calls Try.prog 29 #[.chan (some c), .agg x.cs.toArray] w fun e w' => e = .returned (.bool false) ∧ Below w.heap.size w w' := by
  obtain ⟨s, r, hc⟩ := h.block
  have hlt := h.lt
  refine calls_of_loneTo fun cs => ?_
  have e : Frame.enter Try.prog 29 #[.chan (some c), .agg x.cs.toArray] .normal = (base 29).at ⟨#[.chan (some c), .agg x.cs.toArray, undef, undef, undef, undef, undef, undef, undef, undef], []⟩ [.code (Try.f29.body.getD .skip)] := by
    simp [Frame.enter, Frame.at, Try.func29, base, Try.f29]
  rw [e]
  refine LoneTo.goes (n := 18) ?_
  simp only [Try.f29, Option.getD_some]
  s_c stepG_seq
  s_reg
  s_op
  s_op
  s_c stepG_region_end
  s_c stepG_seq
  s_c stepG_seq
  s_reg
  s_op
  s_c stepG_region_end
  s_reg
  s_in
  refine goes_oper_k rfl rfl (by decide) (fun K hK => ?_)
  refine upon_load 35 (.tmp 3) rfl w.heap.size rfl 35 x.cs.toArray _ (blk_new w _ _ _ rfl) Try.underlying35 ⟨_, rfl⟩ (load35 x) (hK _ _ ⟨trivial, ?_⟩)
  clear hK K
  walk_nrm
  s_c stepG_region_end
  s_c stepG_seq
  s_reg
  s_stop
  refine LoneTo.step (step_lone_select_send_full (c := c) (v := .agg x.cs.toArray) (z' := .agg noE.cs.toArray) (cap := cap) (buf := (ents xs).toArray) (s := s) (r := r) (tm := false) (stepG_comm (cases := #[scase c (.agg x.cs.toArray) (.agg noE.cs.toArray)]) (blocking := false) (shape := .select) (w' := (w.alloc (.cells x.cs.toArray 35))) rfl rfl (by decide) (by simp [go_sem, execOp, scase, Act.eval, noE, noP, noW, Ent.cs])) ?_ (by simpa [ents] using hroom)) ?_
  · rw [Below.heap_alloc _ _ _ hlt]
    exact hc
  rw [Frame.finish_at]
  walk_nrm
  refine LoneTo.goes (n := 20) ?_
  s_op
  s_op
  s_c stepG_region_end
  s_c stepG_block
  s_cond false
  s_c stepG_seq
  s_reg
  s_op
  s_c stepG_region_end
  s_c stepG_ret'
  s_stop
  refine LoneTo.done ⟨.returned (.bool false), _, rfl, ⟨rfl, (Below.refl _ w).alloc (Nat.le_refl _) _⟩, rfl, rfl, rfl, rfl, _, Try.func29, by simp [results, Try.f29, Frame.at]⟩
set_option maxRecDepth 100000 in
set_option maxHeartbeats 4000000 in
theorem put_nil (x : Ent) (w : World) :
    Calls Try.prog 29 #[.chan none, .agg x.cs.toArray] w fun e w' => e = .returned (.bool false) ∧ Below w.heap.size w w' := by
  refine calls_of_loneTo fun cs => ?_
  have e : Frame.enter Try.prog 29 #[.chan none, .agg x.cs.toArray] .normal = (base 29).at ⟨#[.chan none, .agg x.cs.toArray, undef, undef, undef, undef, undef, undef, undef, undef], []⟩ [.code (Try.f29.body.getD .skip)] := by
    simp [Frame.enter, Frame.at, Try.func29, base, Try.f29]
  rw [e]
  refine LoneTo.goes (n := 18) ?_
  simp only [Try.f29, Option.getD_some]
  s_c stepG_seq
  s_reg
  s_op
  s_op
  s_c stepG_region_end
  s_c stepG_seq
  s_c stepG_seq
  s_reg
  s_op
  s_c stepG_region_end
  s_reg
  s_in
  refine goes_oper_k rfl rfl (by decide) (fun K hK => ?_)
  refine upon_load 35 (.tmp 3) rfl w.heap.size rfl 35 x.cs.toArray _ (blk_new w _ _ _ rfl) Try.underlying35 ⟨_, rfl⟩ (load35 x) (hK _ _ ⟨trivial, ?_⟩)
  clear hK K
  walk_nrm
  s_c stepG_region_end
  s_c stepG_seq
  s_reg
  s_stop
  refine LoneTo.step (step_lone_select_send_nil (v := .agg x.cs.toArray) (z' := .agg noE.cs.toArray) (stepG_comm (cases := #[scaseNil (.agg x.cs.toArray) (.agg noE.cs.toArray)]) (blocking := false) (shape := .select) (w' := (w.alloc (.cells x.cs.toArray 35))) rfl rfl (by decide) (by simp [go_sem, execOp, scaseNil, Act.eval, noE, noP, noW, Ent.cs]))) ?_
  rw [Frame.finish_at]
  walk_nrm
  refine LoneTo.goes (n := 20) ?_
  s_op
  s_op
  s_c stepG_region_end
  s_c stepG_block
  s_cond false
  s_c stepG_seq
  s_reg
  s_op
  s_c stepG_region_end
  s_c stepG_ret'
  s_stop
  refine LoneTo.done ⟨.returned (.bool false), _, rfl, ⟨rfl, (Below.refl _ w).alloc (Nat.le_refl _) _⟩, rfl, rfl, rfl, rfl, _, Try.func29, by simp [results, Try.f29, Frame.at]⟩
set_option maxRecDepth 100000 in
set_option maxHeartbeats 4000000 in
theorem take_first (c cap : Nat) (x : Ent) (xs : List Ent) (w : World) (h : Holds w c cap (x :: xs)) :
    Calls Try.prog 26 #[.chan (some c)] w fun e w' => e = .returned (.tuple #[.agg x.cs.toArray, .bool true]) ∧ Holds w' c cap xs ∧ w.grownBy w' (some c) := by
  obtain ⟨s, r, hc⟩ := h.block
  have hlt := h.lt
  have hfit := h.fits
  have hs0 : (w.alloc (.cells noE.cs.toArray 35)).heap.size = w.heap.size + 1 := by simp
  have hsV : ((w.alloc (.cells noE.cs.toArray 35)).setChan c cap (ents xs).toArray false s (r + 1) false).heap.size = w.heap.size + 1 := by simp [World.setChan]
  have b0 : Blk ((w.alloc (.cells noE.cs.toArray 35)).setChan c cap (ents xs).toArray false s (r + 1) false) w.heap.size 35 noE.cs.toArray := blk_set_chan (blk_new w _ _ _ rfl) _ _ _ _ _ (by omega)
  have b1 : Blk (((w.alloc (.cells noE.cs.toArray 35)).setChan c cap (ents xs).toArray false s (r + 1) false).alloc (.cells #[.int .i64 0, .int .i64 0, .int .i64 0, .int .i64 0, .int .i64 0, .int .i64 0, .int .i64 0, .int .i64 0] 35)) w.heap.size 35 noE.cs.toArray := b0.on ((Below.refl _ _).alloc (Nat.le_refl _) _)
  have b1' : Blk ((((w.alloc (.cells noE.cs.toArray 35)).setChan c cap (ents xs).toArray false s (r + 1) false).alloc (.cells #[.int .i64 0, .int .i64 0, .int .i64 0, .int .i64 0, .int .i64 0, .int .i64 0, .int .i64 0, .int .i64 0] 35)).setRow (w.heap.size + 1) x.cs.toArray) w.heap.size 35 noE.cs.toArray := (setRow_other _ _ _ _ (by omega)).trans b1
  have b2 : Blk ((((w.alloc (.cells noE.cs.toArray 35)).setChan c cap (ents xs).toArray false s (r + 1) false).alloc (.cells #[.int .i64 0, .int .i64 0, .int .i64 0, .int .i64 0, .int .i64 0, .int .i64 0, .int .i64 0, .int .i64 0] 35)).setRow (w.heap.size + 1) x.cs.toArray) (w.heap.size + 1) 35 x.cs.toArray := setRow_heap _ _ _ _ _ _ (blk_new _ noE.cs.toArray 35 _ hsV)
  have b3 : Blk (((((w.alloc (.cells noE.cs.toArray 35)).setChan c cap (ents xs).toArray false s (r + 1) false).alloc (.cells #[.int .i64 0, .int .i64 0, .int .i64 0, .int .i64 0, .int .i64 0, .int .i64 0, .int .i64 0, .int .i64 0] 35)).setRow (w.heap.size + 1) x.cs.toArray).setRow w.heap.size x.cs.toArray) w.heap.size 35 x.cs.toArray := setRow_heap _ _ _ _ _ _ b1'
  have hV0 : Holds ((w.alloc (.cells noE.cs.toArray 35)).setChan c cap (ents xs).toArray false s (r + 1) false) c cap xs := holds_set _ _ _ _ _ _ _ (by omega) rfl (by simp at hfit; omega)
  have g0 : w.grownBy ((w.alloc (.cells noE.cs.toArray 35)).setChan c cap (ents xs).toArray false s (r + 1) false) (some c) := (World.grownBy_alloc w _ _).trans (grown_set _ _ _ _ _ _)
  have g3 : Below (w.heap.size) ((w.alloc (.cells noE.cs.toArray 35)).setChan c cap (ents xs).toArray false s (r + 1) false) (((((w.alloc (.cells noE.cs.toArray 35)).setChan c cap (ents xs).toArray false s (r + 1) false).alloc (.cells #[.int .i64 0, .int .i64 0, .int .i64 0, .int .i64 0, .int .i64 0, .int .i64 0, .int .i64 0, .int .i64 0] 35)).setRow (w.heap.size + 1) x.cs.toArray).setRow w.heap.size x.cs.toArray) := below_setRow (below_setRow ((Below.refl _ _).alloc (by omega) _) (by omega) _) (Nat.le_refl _) _
  have ebuf : (ents (x :: xs)).toArray.extract 1 (ents (x :: xs)).toArray.size = (ents xs).toArray := by simp [ents, List.take_of_length_le]
  have eget : (ents (x :: xs)).toArray.getD 0 undef = .agg x.cs.toArray := rfl
  refine calls_of_loneTo fun cs => ?_
  have e : Frame.enter Try.prog 26 #[.chan (some c)] .normal = (base 26).at ⟨#[.chan (some c), undef, undef, undef, undef, undef, undef, undef, undef, undef, undef, undef, undef], []⟩ [.code (Try.f26.body.getD .skip)] := by
    simp [Frame.enter, Frame.at, Try.func26, base, Try.f26]
  rw [e]
  refine LoneTo.goes (n := 14) ?_
  simp only [Try.f26, Option.getD_some]
  s_c stepG_seq
  s_reg
  s_op
  s_op
  s_c stepG_region_end
  s_c stepG_seq
  s_reg
  s_op
  s_c stepG_region_end
  s_c stepG_seq
  s_reg
  s_stop
  refine LoneTo.step (step_lone_select_recv_buf (c := c) (z := .agg noE.cs.toArray) (cap := cap) (buf := (ents (x :: xs)).toArray) (closed := false) (s := s) (r := r) (tm := false) (stepG_comm (cases := #[rcase c (.agg noE.cs.toArray)]) (blocking := false) (shape := .select) (w' := (w.alloc (.cells noE.cs.toArray 35))) rfl rfl (by decide) (by simp [go_sem, execOp, rcase, Act.eval, noE, noP, noW, Ent.cs])) ?_ (by simp [ents])) ?_
  · rw [Below.heap_alloc _ _ _ hlt]
    exact hc
  rw [ebuf, eget]
  clear ebuf eget
  rw [Frame.finish_at]
  walk_nrm
  refine LoneTo.goes (n := 24) ?_
  s_op
  s_op
  s_c stepG_region_end
  s_c stepG_block
  s_cond true
  s_c stepG_seq
  s_reg
  s_op
  s_op
  s_in
  refine goes_oper_k rfl rfl (by decide) (fun K hK => ?_)
  refine upon_store 35 (.tmp 4) (.tmp 11) rfl (w.heap.size + 1) x.cs.toArray rfl rfl 35 noE.cs.toArray (blk_new _ _ _ _ hsV) (load35 x) rfl (x.onea) (hK _ _ ⟨trivial, ?_⟩)
  clear hK K
  walk_nrm
  s_c stepG_region_end
  s_c stepG_seq
  s_reg
  s_in
  refine goes_oper_k rfl rfl (by decide) (fun K hK => ?_)
  refine upon_load 35 (.tmp 4) rfl (w.heap.size + 1) rfl 35 x.cs.toArray _ b2 Try.underlying35 ⟨_, rfl⟩ (load35 x) (hK _ _ ⟨trivial, ?_⟩)
  clear hK K
  walk_nrm
  s_in
  refine goes_oper_k rfl rfl (by decide) (fun K hK => ?_)
  refine upon_store 35 (.tmp 2) (.tmp 12) rfl w.heap.size x.cs.toArray rfl rfl 35 noE.cs.toArray b1' (load35 x) rfl (x.onea) (hK _ _ ⟨trivial, ?_⟩)
  clear hK K
  walk_nrm
  s_op
  s_c stepG_region_end
  s_c stepG_ret'
  s_stop
  refine LoneTo.done ⟨.returned (.tuple #[.agg x.cs.toArray, .bool true]), _, rfl, ⟨rfl, ?_, ?_⟩, rfl, rfl, rfl, rfl, _, Try.func26, ?_⟩
  · obtain ⟨s', r', hc'⟩ := hV0.block
    exact ⟨⟨s', r', (g3.block c hlt).trans hc'⟩, hV0.fits⟩
  · exact grown_then g0 g3
  · have hr := run_loadVar_row (P := Try.prog) _ w.heap.size 35 35 _ (0, 0) _ b3 Try.underlying35 rfl (load35 x)
    simp [results, Try.f26, Frame.at, asAddr, hr]
set_option maxRecDepth 100000 in
set_option maxHeartbeats 4000000 in
theorem take_none (c cap : Nat) (w : World) (h : Holds w c cap []) :
    Calls Try.prog 26 #[.chan (some c)] w fun e w' => e = .returned (.tuple #[.agg noE.cs.toArray, .bool false]) ∧ Below w.heap.size w w' := by
  obtain ⟨s, r, hc⟩ := h.block
  have hlt := h.lt
  have hs0 : (w.alloc (.cells noE.cs.toArray 35)).heap.size = w.heap.size + 1 := by simp
  have b0 : Blk (w.alloc (.cells noE.cs.toArray 35)) w.heap.size 35 noE.cs.toArray := blk_new w _ _ _ rfl
  have b1 : Blk ((w.alloc (.cells noE.cs.toArray 35)).alloc (.cells #[.int .i64 0, .int .i64 0, .int .i64 0, .int .i64 0, .int .i64 0, .int .i64 0, .int .i64 0, .int .i64 0] 35)) w.heap.size 35 noE.cs.toArray := b0.on ((Below.refl _ _).alloc (Nat.le_refl _) _)
  have b2 : Blk ((w.alloc (.cells noE.cs.toArray 35)).alloc (.cells #[.int .i64 0, .int .i64 0, .int .i64 0, .int .i64 0, .int .i64 0, .int .i64 0, .int .i64 0, .int .i64 0] 35)) (w.heap.size + 1) 35 noE.cs.toArray := blk_new _ _ 35 _ hs0
  have b3 : Blk (((w.alloc (.cells noE.cs.toArray 35)).alloc (.cells #[.int .i64 0, .int .i64 0, .int .i64 0, .int .i64 0, .int .i64 0, .int .i64 0, .int .i64 0, .int .i64 0] 35)).setRow w.heap.size noE.cs.toArray) w.heap.size 35 noE.cs.toArray := setRow_heap _ _ _ _ _ _ b1
  have g3 : Below w.heap.size w (((w.alloc (.cells noE.cs.toArray 35)).alloc (.cells #[.int .i64 0, .int .i64 0, .int .i64 0, .int .i64 0, .int .i64 0, .int .i64 0, .int .i64 0, .int .i64 0] 35)).setRow w.heap.size noE.cs.toArray) := below_setRow (((Below.refl _ w).alloc (Nat.le_refl _) _).alloc (by omega) _) (Nat.le_refl _) _
  refine calls_of_loneTo fun cs => ?_
  have e : Frame.enter Try.prog 26 #[.chan (some c)] .normal = (base 26).at ⟨#[.chan (some c), undef, undef, undef, undef, undef, undef, undef, undef, undef, undef, undef, undef], []⟩ [.code (Try.f26.body.getD .skip)] := by
    simp [Frame.enter, Frame.at, Try.func26, base, Try.f26]
  rw [e]
  refine LoneTo.goes (n := 14) ?_
  simp only [Try.f26, Option.getD_some]
  s_c stepG_seq
  s_reg
  s_op
  s_op
  s_c stepG_region_end
  s_c stepG_seq
  s_reg
  s_op
  s_c stepG_region_end
  s_c stepG_seq
  s_reg
  s_stop
  refine LoneTo.step (step_lone_select_default (c := c) (z := .agg noE.cs.toArray) (cap := cap) (s := s) (r := r) (tm := false) (stepG_comm (cases := #[rcase c (.agg noE.cs.toArray)]) (blocking := false) (shape := .select) (w' := (w.alloc (.cells noE.cs.toArray 35))) rfl rfl (by decide) (by simp [go_sem, execOp, rcase, Act.eval, noE, noP, noW, Ent.cs])) ?_) ?_
  · rw [Below.heap_alloc _ _ _ hlt]
    exact hc
  rw [Frame.finish_at]
  walk_nrm
  refine LoneTo.goes (n := 24) ?_
  s_op
  s_op
  s_c stepG_region_end
  s_c stepG_block
  s_cond false
  s_c stepG_seq
  s_reg
  s_op
  s_c stepG_region_end
  s_c stepG_seq
  s_reg
  s_in
  refine goes_oper_k rfl rfl (by decide) (fun K hK => ?_)
  refine upon_load 35 (.tmp 5) rfl (w.heap.size + 1) rfl 35 noE.cs.toArray _ b2 Try.underlying35 ⟨_, rfl⟩ (load35 noE) (hK _ _ ⟨trivial, ?_⟩)
  clear hK K
  walk_nrm
  s_in
  refine goes_oper_k rfl rfl (by decide) (fun K hK => ?_)
  refine upon_store 35 (.tmp 2) (.tmp 10) rfl w.heap.size noE.cs.toArray rfl rfl 35 noE.cs.toArray b1 (load35 noE) rfl (noE.onea) (hK _ _ ⟨trivial, ?_⟩)
  clear hK K
  walk_nrm
  s_op
  s_c stepG_region_end
  s_c stepG_ret'
  s_stop
  refine LoneTo.done ⟨.returned (.tuple #[.agg noE.cs.toArray, .bool false]), _, rfl, ⟨rfl, g3⟩, rfl, rfl, rfl, rfl, _, Try.func26, ?_⟩
  have hr := run_loadVar_row (P := Try.prog) _ w.heap.size 35 35 _ (0, 0) _ b3 Try.underlying35 rfl (load35 noE)
  simp [results, Try.f26, Frame.at, asAddr, hr]
set_option maxRecDepth 100000 in
set_option maxHeartbeats 4000000 in
theorem take_nil (w : World) :
    Calls Try.prog 26 #[.chan none] w fun e w' => e = .returned (.tuple #[.agg noE.cs.toArray, .bool false]) ∧ Below w.heap.size w w' := by
  have hs0 : (w.alloc (.cells noE.cs.toArray 35)).heap.size = w.heap.size + 1 := by simp
  have b0 : Blk (w.alloc (.cells noE.cs.toArray 35)) w.heap.size 35 noE.cs.toArray := blk_new w _ _ _ rfl
  have b1 : Blk ((w.alloc (.cells noE.cs.toArray 35)).alloc (.cells #[.int .i64 0, .int .i64 0, .int .i64 0, .int .i64 0, .int .i64 0, .int .i64 0, .int .i64 0, .int .i64 0] 35)) w.heap.size 35 noE.cs.toArray := b0.on ((Below.refl _ _).alloc (Nat.le_refl _) _)
  have b2 : Blk ((w.alloc (.cells noE.cs.toArray 35)).alloc (.cells #[.int .i64 0, .int .i64 0, .int .i64 0, .int .i64 0, .int .i64 0, .int .i64 0, .int .i64 0, .int .i64 0] 35)) (w.heap.size + 1) 35 noE.cs.toArray := blk_new _ _ 35 _ hs0
  have b3 : Blk (((w.alloc (.cells noE.cs.toArray 35)).alloc (.cells #[.int .i64 0, .int .i64 0, .int .i64 0, .int .i64 0, .int .i64 0, .int .i64 0, .int .i64 0, .int .i64 0] 35)).setRow w.heap.size noE.cs.toArray) w.heap.size 35 noE.cs.toArray := setRow_heap _ _ _ _ _ _ b1
  have g3 : Below w.heap.size w (((w.alloc (.cells noE.cs.toArray 35)).alloc (.cells #[.int .i64 0, .int .i64 0, .int .i64 0, .int .i64 0, .int .i64 0, .int .i64 0, .int .i64 0, .int .i64 0] 35)).setRow w.heap.size noE.cs.toArray) := below_setRow (((Below.refl _ w).alloc (Nat.le_refl _) _).alloc (by omega) _) (Nat.le_refl _) _
  refine calls_of_loneTo fun cs => ?_
  have e : Frame.enter Try.prog 26 #[.chan none] .normal = (base 26).at ⟨#[.chan none, undef, undef, undef, undef, undef, undef, undef, undef, undef, undef, undef, undef], []⟩ [.code (Try.f26.body.getD .skip)] := by
    simp [Frame.enter, Frame.at, Try.func26, base, Try.f26]
  rw [e]
  refine LoneTo.goes (n := 14) ?_
  simp only [Try.f26, Option.getD_some]
  s_c stepG_seq
  s_reg
  s_op
  s_op
  s_c stepG_region_end
  s_c stepG_seq
  s_reg
  s_op
  s_c stepG_region_end
  s_c stepG_seq
  s_reg
  s_stop
  refine LoneTo.step (step_lone_select_recv_nil (z := .agg noE.cs.toArray) (stepG_comm (cases := #[rcaseNil (.agg noE.cs.toArray)]) (blocking := false) (shape := .select) (w' := (w.alloc (.cells noE.cs.toArray 35))) rfl rfl (by decide) (by simp [go_sem, execOp, rcaseNil, Act.eval, noE, noP, noW, Ent.cs]))) ?_
  rw [Frame.finish_at]
  walk_nrm
  refine LoneTo.goes (n := 24) ?_
  s_op
  s_op
  s_c stepG_region_end
  s_c stepG_block
  s_cond false
  s_c stepG_seq
  s_reg
  s_op
  s_c stepG_region_end
  s_c stepG_seq
  s_reg
  s_in
  refine goes_oper_k rfl rfl (by decide) (fun K hK => ?_)
  refine upon_load 35 (.tmp 5) rfl (w.heap.size + 1) rfl 35 noE.cs.toArray _ b2 Try.underlying35 ⟨_, rfl⟩ (load35 noE) (hK _ _ ⟨trivial, ?_⟩)
  clear hK K
  walk_nrm
  s_in
  refine goes_oper_k rfl rfl (by decide) (fun K hK => ?_)
  refine upon_store 35 (.tmp 2) (.tmp 10) rfl w.heap.size noE.cs.toArray rfl rfl 35 noE.cs.toArray b1 (load35 noE) rfl (noE.onea) (hK _ _ ⟨trivial, ?_⟩)
  clear hK K
  walk_nrm
  s_op
  s_c stepG_region_end
  s_c stepG_ret'
  s_stop
  refine LoneTo.done ⟨.returned (.tuple #[.agg noE.cs.toArray, .bool false]), _, rfl, ⟨rfl, g3⟩, rfl, rfl, rfl, rfl, _, Try.func26, ?_⟩
  have hr := run_loadVar_row (P := Try.prog) _ w.heap.size 35 35 _ (0, 0) _ b3 Try.underlying35 rfl (load35 noE)
  simp [results, Try.f26, Frame.at, asAddr, hr]

/-- Whatever waits. -/
theorem take_any (c cap : Nat) (xs : List Ent) (w : World) (h : Holds w c cap xs) :
    Calls Try.prog 26 #[.chan (some c)] w fun e w' => e = .returned (.tuple #[.agg (xs.headD noE).cs.toArray, .bool (!xs.isEmpty)]) ∧ Holds w' c cap xs.tail ∧ w.grownBy w' (some c) := by
  cases xs with
  | nil => exact (take_none c cap w h).mono fun e w' ⟨he, hb⟩ => ⟨he, h.below hb, grown_below hb _⟩
  | cons x xs => exact take_first c cap x xs w h
/-- What waits behind an entry was put, where there is room. -/
def putN (cap : Nat) (xs : List Ent) (x : Ent) : List Ent := if xs.length < cap then xs ++ [x] else xs
theorem put_any (c cap : Nat) (x : Ent) (xs : List Ent) (w : World) (h : Holds w c cap xs) :
    Calls Try.prog 29 #[.chan (some c), .agg x.cs.toArray] w fun e w' => e = .returned (.bool (decide (xs.length < cap))) ∧ Holds w' c cap (putN cap xs x) ∧ w.grownBy w' (some c) := by
  unfold putN
  by_cases hr : xs.length < cap
  · simp only [hr, decide_true, if_true]
    exact put_room c cap x xs w h hr
  · simp only [hr, decide_false, if_false]
    exact (put_full c cap x xs w h (by omega)).mono fun e w' ⟨he, hb⟩ => ⟨he, h.below hb, grown_below hb _⟩
end Go.Proofs.Ytclnkgoaenlhhaa
