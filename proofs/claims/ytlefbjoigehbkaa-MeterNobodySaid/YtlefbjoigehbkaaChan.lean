/- A channel of tokens: what is there, what is sent; of one goroutine. Conditions: none. -/
import Derived.Test.YtlefbjoigehbkaaChecked
import Derived.WalkKit
import Derived.WalkSpells
import Derived.Conc.LoneCalls
import Derived.Conc.LoneSelect
import Derived.Conc.LoneSelectN
import Derived.Conc.SmallLaws
import Derived.KernelRfl
import Derived.Laws.Rows
namespace Go.Proofs.Ytlefbjoigehbkaa
open Go.Conc Go.RowKit

/-- The channel c has room for cap tokens, and k lie in it. -/
structure Holds (w : World) (c cap k : Nat) : Prop where
  block : ∃ buf s r, w.heap[c]? = some (.chan cap buf false s r false) ∧ buf.size = k
  fits : k ≤ cap
theorem Holds.lt {w : World} {c cap k : Nat} (h : Holds w c cap k) : c < w.heap.size := by
  obtain ⟨buf, s, r, hc, _⟩ := h.block
  exact (Array.getElem?_eq_some_iff.1 hc).1
theorem Holds.kept {w w' : World} {c cap k : Nat} {row : Option Nat} (h : Holds w c cap k) (hg : w.grownBy w' row) (hne : some c ≠ row) : Holds w' c cap k :=
  ⟨by obtain ⟨buf, s, r, hc, hk⟩ := h.block; exact ⟨buf, s, r, (hg.block c h.lt hne).trans hc, hk⟩, h.fits⟩
theorem grown_below {w w' : World} (h : Below w.heap.size w w') (row : Option Nat) : w.grownBy w' row := ⟨h.os, h.tape, h.output, h.size, fun k hk _ => h.block k hk⟩
theorem Holds.below {w w' : World} {c cap k : Nat} (h : Holds w c cap k) (hb : Below w.heap.size w w') : Holds w' c cap k :=
  h.kept (grown_below hb none) (by simp)
theorem grown_set (w : World) (c cap : Nat) (buf : Array Value) (s r : Nat) :
    w.grownBy (w.setChan c cap buf false s r false) (some c) := by
  refine ⟨rfl, rfl, rfl, by simp [World.setChan], fun k hk hne => ?_⟩
  have hck : c ≠ k := fun e => hne (by rw [e])
  simp only [World.setChan]
  rw [Array.getElem?_setIfInBounds_ne hck]

/-- A call within a walk of the machine of one: by the callee's contract. -/
theorem loneTo_call {P : Program} {Q : Goroutine → World → Prop} {ops : Array Oper} {i : Nat} {rest : List Nat} {o : Oper} {f : FuncId} {fn : Func} {args : Array Operand} {ats : Array TypeId}
    {b : Frame} {a : Act} {k : List Item} {cs : List Frame} {w : World} {R : Ending → World → Prop}
    (ho : ops[i]? = some o) (hw : Region.wanted o (yielded ops a.tmps) = true) (hk : b.kind ≠ .early) (hop : o.op = .call { callee := .value (.func f), args, argTypes := ats })
    (hf : P.funcs[f]? = some fn) (hname : (fn.name == "runtime.NumGoroutine") = false) (hb : fn.body.isNone = false)
    {vs : Array Value} (hv : args.map a.eval = vs) (hc : Calls P f vs w R)
    (h : ∀ e w', R e w' → ∃ v, e = .returned v ∧ LoneTo P Q (G (b.at (a.put ((ops[i]?).bind (·.dst)) v) (.inRegion ops rest :: k)) cs) w') :
    LoneTo P Q (G (b.at a (.inRegion ops (i :: rest) :: k)) cs) w := by
  subst hv
  refine .step (step_solo_go rfl (stepG_enter ho hw hk (run_call_body hop hf hname hb))) ?_
  obtain ⟨e, w', fr, hR, hs, hfn, hl⟩ := hc (b.at a (.inRegion ops (i :: rest) :: k) :: cs)
  obtain ⟨v, rfl, hto⟩ := h e w' hR
  have hstep := step_leave_returned (c := b.at a (.inRegion ops (i :: rest) :: k)) (cs := cs) hl
  rw [Frame.finish_at] at hstep
  obtain ⟨g₂, w₂, hs₂, hq⟩ := LoneTo.step (g := G fr (b.at a (.inRegion ops (i :: rest) :: k) :: cs)) hstep hto
  exact ⟨g₂, w₂, Steps.trans hs hs₂, hq⟩

theorem gone_nil (w : World) : Calls Try.prog 12 #[.pointer none] w fun e w' => e = .returned (.chan none) ∧ w = w' := by
  go_enter Try.func12, Try.ntmps12
  go_wp2
  go_ret
  exact ⟨rfl, rfl⟩
theorem gone_any (p : Nat) (o : Option Nat) (w : World) (h : w.cell? ⟨p, 0, none⟩ = some (.chan o)) : Calls Try.prog 12 #[.pointer (some ⟨p, 0, none⟩)] w fun e w' => e = .returned (.chan o) ∧ w = w' := by
  go_enter Try.func12, Try.ntmps12
  go_wp2
  go_ret
  exact ⟨rfl, rfl⟩

set_option maxRecDepth 100000 in
/-- What Spend answers: the meter's channel is found by the contract of gone. -/
theorem spend_room (v : Value) (c cap k : Nat) (w : World) (h : Holds w c cap k) (hroom : k < cap)
    (hg : Calls Try.prog 12 #[v] w fun e w' => e = .returned (.chan (some c)) ∧ w = w') :
    Calls Try.prog 10 #[v] w fun e w' => e = .returned (.bool true) ∧ Holds w' c cap (k + 1) ∧ w.grownBy w' (some c) := by
  obtain ⟨buf, s, r, hc, hk⟩ := h.block
  have hlt := h.lt
  refine calls_of_loneTo fun cs => ?_
  have e : Frame.enter Try.prog 10 #[v] .normal = (base 10).at ⟨#[v, undef, undef, undef, undef, undef, undef, undef, undef], []⟩ [.code (Try.f10.body.getD .skip)] := by
    simp [Frame.enter, Frame.at, Try.func10, base, Try.f10]
  rw [e]
  refine LoneTo.goes (n := 18) ?_
  simp only [Try.f10, Option.getD_some]
  s_c stepG_seq
  s_reg
  s_op
  s_c stepG_region_end
  s_c stepG_seq
  s_c stepG_seq
  s_reg
  s_op
  s_stop
  refine loneTo_call (f := 12) (args := #[.tmp 3]) rfl rfl (by decide) rfl Try.func12 (by kernel_rfl) rfl (vs := #[v]) (by simp [Act.eval]) hg ?_
  rintro _ _ ⟨rfl, rfl⟩
  refine ⟨_, rfl, ?_⟩
  walk_nrm
  refine LoneTo.goes (n := 10) ?_
  s_c stepG_region_end
  s_reg
  s_op
  s_c stepG_region_end
  s_c stepG_seq
  s_reg
  s_stop
  refine LoneTo.step (step_lone_select_send_room (c := c) (v := .agg #[]) (z' := .agg #[]) (cap := cap) (buf := buf) (s := s) (r := r) (tm := false) (stepG_comm (cases := #[scase c (.agg #[]) (.agg #[])]) (blocking := false) (shape := .select) (w' := w) rfl rfl (by decide) (by simp [go_sem, execOp, scase, Act.eval])) hc (by omega)) ?_
  rw [Frame.finish_at]
  walk_nrm
  refine LoneTo.goes (n := 20) ?_
  s_op
  s_op
  s_c stepG_region_end
  s_c stepG_block
  s_cond true
  s_c stepG_seq
  s_reg
  s_op
  s_c stepG_region_end
  s_c stepG_ret'
  s_stop
  refine LoneTo.done ⟨.returned (.bool true), _, rfl, ⟨rfl, ⟨⟨_, _, _, heap_setChan _ _ _ _ _ _ _ _ hlt, by simp [hk]⟩, hroom⟩, grown_set _ _ _ _ _ _⟩, rfl, rfl, rfl, rfl, _, Try.func10, by simp [results, Try.f10, Frame.at]⟩

set_option maxRecDepth 100000 in
theorem spend_full (v : Value) (c cap k : Nat) (w : World) (h : Holds w c cap k) (hroom : cap ≤ k)
    (hg : Calls Try.prog 12 #[v] w fun e w' => e = .returned (.chan (some c)) ∧ w = w') :
    Calls Try.prog 10 #[v] w fun e w' => e = .returned (.bool false) ∧ w = w' := by
  obtain ⟨buf, s, r, hc, hk⟩ := h.block
  refine calls_of_loneTo fun cs => ?_
  have e : Frame.enter Try.prog 10 #[v] .normal = (base 10).at ⟨#[v, undef, undef, undef, undef, undef, undef, undef, undef], []⟩ [.code (Try.f10.body.getD .skip)] := by
    simp [Frame.enter, Frame.at, Try.func10, base, Try.f10]
  rw [e]
  refine LoneTo.goes (n := 18) ?_
  simp only [Try.f10, Option.getD_some]
  s_c stepG_seq
  s_reg
  s_op
  s_c stepG_region_end
  s_c stepG_seq
  s_c stepG_seq
  s_reg
  s_op
  s_stop
  refine loneTo_call (f := 12) (args := #[.tmp 3]) rfl rfl (by decide) rfl Try.func12 (by kernel_rfl) rfl (vs := #[v]) (by simp [Act.eval]) hg ?_
  rintro _ _ ⟨rfl, rfl⟩
  refine ⟨_, rfl, ?_⟩
  walk_nrm
  refine LoneTo.goes (n := 10) ?_
  s_c stepG_region_end
  s_reg
  s_op
  s_c stepG_region_end
  s_c stepG_seq
  s_reg
  s_stop
  refine LoneTo.step (step_lone_select_send_full (c := c) (v := .agg #[]) (z' := .agg #[]) (cap := cap) (buf := buf) (s := s) (r := r) (tm := false) (stepG_comm (cases := #[scase c (.agg #[]) (.agg #[])]) (blocking := false) (shape := .select) (w' := w) rfl rfl (by decide) (by simp [go_sem, execOp, scase, Act.eval])) hc (by omega)) ?_
  rw [Frame.finish_at]
  walk_nrm
  refine LoneTo.goes (n := 20) ?_
  s_op
  s_op
  s_c stepG_region_end
  s_c stepG_block
  s_cond false
  s_c stepG_seq
  s_reg
  s_op
  s_c stepG_region_end
  s_c stepG_ret'
  s_stop
  refine LoneTo.done ⟨.returned (.bool false), _, rfl, ⟨rfl, rfl⟩, rfl, rfl, rfl, rfl, _, Try.func10, by simp [results, Try.f10, Frame.at]⟩

set_option maxRecDepth 100000 in
theorem spend_nil (v : Value) (w : World)
    (hg : Calls Try.prog 12 #[v] w fun e w' => e = .returned (.chan none) ∧ w = w') :
    Calls Try.prog 10 #[v] w fun e w' => e = .returned (.bool false) ∧ w = w' := by
  refine calls_of_loneTo fun cs => ?_
  have e : Frame.enter Try.prog 10 #[v] .normal = (base 10).at ⟨#[v, undef, undef, undef, undef, undef, undef, undef, undef], []⟩ [.code (Try.f10.body.getD .skip)] := by
    simp [Frame.enter, Frame.at, Try.func10, base, Try.f10]
  rw [e]
  refine LoneTo.goes (n := 18) ?_
  simp only [Try.f10, Option.getD_some]
  s_c stepG_seq
  s_reg
  s_op
  s_c stepG_region_end
  s_c stepG_seq
  s_c stepG_seq
  s_reg
  s_op
  s_stop
  refine loneTo_call (f := 12) (args := #[.tmp 3]) rfl rfl (by decide) rfl Try.func12 (by kernel_rfl) rfl (vs := #[v]) (by simp [Act.eval]) hg ?_
  rintro _ _ ⟨rfl, rfl⟩
  refine ⟨_, rfl, ?_⟩
  walk_nrm
  refine LoneTo.goes (n := 10) ?_
  s_c stepG_region_end
  s_reg
  s_op
  s_c stepG_region_end
  s_c stepG_seq
  s_reg
  s_stop
  refine LoneTo.step (step_lone_select_send_nil (v := .agg #[]) (z' := .agg #[]) (stepG_comm (cases := #[scaseNil (.agg #[]) (.agg #[])]) (blocking := false) (shape := .select) (w' := w) rfl rfl (by decide) (by simp [go_sem, execOp, scaseNil, Act.eval]))) ?_
  rw [Frame.finish_at]
  walk_nrm
  refine LoneTo.goes (n := 20) ?_
  s_op
  s_op
  s_c stepG_region_end
  s_c stepG_block
  s_cond false
  s_c stepG_seq
  s_reg
  s_op
  s_c stepG_region_end
  s_c stepG_ret'
  s_stop
  refine LoneTo.done ⟨.returned (.bool false), _, rfl, ⟨rfl, rfl⟩, rfl, rfl, rfl, rfl, _, Try.func10, by simp [results, Try.f10, Frame.at]⟩
end Go.Proofs.Ytlefbjoigehbkaa
