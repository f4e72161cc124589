/- A row over a channel: what is taken, what is put; of one goroutine, so that nobody else is there. Conditions: none. -/
import Derived.Test.YtjbmdbnjoekpmaaChecked
import Derived.WalkKit
import Derived.Conc.LoneCalls
import Derived.Conc.LoneSelect
import Derived.Maps.AppendAt
import Derived.KernelRfl
import Derived.Laws.Rows
namespace Go.Proofs.Ytjbmdbnjoekpmaa
open Go.Conc Go.RowKit

/-- Numbers as cells hold them. -/
def ints (xs : List Int) : List Value := xs.map (Value.int .i64)
/-- The channel c has room for cap numbers, and xs wait in it. -/
structure Holds (w : World) (c cap : Nat) (xs : List Int) : Prop where
  block : ∃ s r, w.heap[c]? = some (.chan cap (ints xs).toArray false s r false)
  fits : xs.length ≤ cap
theorem Holds.lt {w : World} {c cap : Nat} {xs : List Int} (h : Holds w c cap xs) : c < w.heap.size := by
  obtain ⟨s, r, hc⟩ := h.block
  exact (Array.getElem?_eq_some_iff.1 hc).1
theorem Holds.kept {w w' : World} {c cap : Nat} {xs : List Int} {row : Option Nat} (h : Holds w c cap xs) (hg : w.grownBy w' row) (hne : some c ≠ row) : Holds w' c cap xs :=
  ⟨by obtain ⟨s, r, hc⟩ := h.block; exact ⟨s, r, (hg.block c h.lt hne).trans hc⟩, h.fits⟩
theorem grown_below {w w' : World} (h : Below w.heap.size w w') (row : Option Nat) : w.grownBy w' row := ⟨h.os, h.tape, h.output, h.size, fun k hk _ => h.block k hk⟩
theorem Holds.below {w w' : World} {c cap : Nat} {xs : List Int} (h : Holds w c cap xs) (hb : Below w.heap.size w w') : Holds w' c cap xs :=
  h.kept (grown_below hb none) (by simp)
theorem holds_set (w : World) (o : Obj) (c cap : Nat) (buf : Array Value) (xs : List Int) (s r : Nat) (hlt : c < w.heap.size) (hb : buf = (ints xs).toArray) (hf : xs.length ≤ cap) :
    Holds ((w.alloc o).setChan c cap buf false s r false) c cap xs := by
  subst hb
  exact ⟨⟨s, r, heap_setChan _ _ _ _ _ _ _ _ (by simp; omega)⟩, hf⟩
theorem grown_set (w : World) (o : Obj) (c cap : Nat) (buf : Array Value) (s r : Nat) :
    w.grownBy ((w.alloc o).setChan c cap buf false s r false) (some c) := by
  refine ⟨rfl, rfl, rfl, by simp [World.setChan], fun k hk hne => ?_⟩
  have hck : c ≠ k := fun e => hne (by rw [e])
  simp only [World.setChan]
  rw [Array.getElem?_setIfInBounds_ne hck]
  exact Below.heap_alloc w o k hk

set_option maxRecDepth 100000 in
theorem take_first (c cap : Nat) (x : Int) (xs : List Int) (w : World) (h : Holds w c cap (x :: xs)) :
    Calls Try.prog 23 #[.agg #[.chan (some c)]] w fun e w' => e = .returned (.tuple #[.int .i64 x, .bool true]) ∧ Holds w' c cap xs ∧ w.grownBy w' (some c) := by
  obtain ⟨s, r, hc⟩ := h.block
  have hlt := h.lt
  have hfit := h.fits
  refine calls_of_loneTo fun cs => ?_
  have e : Frame.enter Try.prog 23 #[.agg #[.chan (some c)]] .normal = (base 23).at ⟨#[.agg #[.chan (some c)], undef, undef, undef, undef, undef, undef, undef, undef, undef, undef, undef, undef, undef], []⟩ [.code (Try.f23.body.getD .skip)] := by
    simp [Frame.enter, Frame.at, Try.func23, base, Try.f23]
  rw [e]
  refine LoneTo.goes (n := 14) ?_
  simp only [Try.f23, Option.getD_some]
  s_c stepG_seq
  s_reg
  s_op
  s_op
  s_op
  s_c stepG_region_end
  s_c stepG_seq
  s_reg
  s_op
  s_op
  s_c stepG_region_end
  s_c stepG_seq
  s_reg
  s_stop
  refine LoneTo.step (step_lone_select_recv_buf (c := c) (z := .int .i64 0) (cap := cap) (buf := (ints (x :: xs)).toArray) (closed := false) (s := s) (r := r) (tm := false) (stepG_comm (cases := #[rcase c (.int .i64 0)]) (blocking := false) (shape := .select) (w' := (w.alloc (.cells #[.chan (some c)] 38))) rfl rfl (by decide) (by simp [go_sem, execOp, rcase, Act.eval])) ?_ (by simp [ints])) ?_
  · rw [Below.heap_alloc _ _ _ hlt]
    exact hc
  rw [Frame.finish_at]
  walk_nrm
  refine LoneTo.goes (n := 20) ?_
  s_op
  s_op
  s_c stepG_region_end
  s_c stepG_block
  s_cond true
  s_c stepG_seq
  s_reg
  s_op
  s_op
  s_c stepG_region_end
  s_c stepG_seq
  s_reg
  s_op
  s_op
  s_op
  s_c stepG_region_end
  s_c stepG_ret'
  s_stop
  refine LoneTo.done ⟨.returned (.tuple #[.int .i64 x, .bool true]), _, rfl, ⟨rfl, holds_set _ _ _ _ _ _ _ _ hlt ?_ ?_, grown_set _ _ _ _ _ _ _⟩, rfl, rfl, rfl, rfl, _, Try.func23, by simp [results, Try.f23, Frame.at, ints]⟩
  · simp [ints, List.take_of_length_le]
  · simp at hfit
    omega

set_option maxRecDepth 100000 in
theorem take_none (c cap : Nat) (w : World) (h : Holds w c cap []) :
    Calls Try.prog 23 #[.agg #[.chan (some c)]] w fun e w' => e = .returned (.tuple #[.int .i64 0, .bool false]) ∧ Below w.heap.size w w' := by
  obtain ⟨s, r, hc⟩ := h.block
  have hlt := h.lt
  refine calls_of_loneTo fun cs => ?_
  have e : Frame.enter Try.prog 23 #[.agg #[.chan (some c)]] .normal = (base 23).at ⟨#[.agg #[.chan (some c)], undef, undef, undef, undef, undef, undef, undef, undef, undef, undef, undef, undef, undef], []⟩ [.code (Try.f23.body.getD .skip)] := by
    simp [Frame.enter, Frame.at, Try.func23, base, Try.f23]
  rw [e]
  refine LoneTo.goes (n := 14) ?_
  simp only [Try.f23, Option.getD_some]
  s_c stepG_seq
  s_reg
  s_op
  s_op
  s_op
  s_c stepG_region_end
  s_c stepG_seq
  s_reg
  s_op
  s_op
  s_c stepG_region_end
  s_c stepG_seq
  s_reg
  s_stop
  refine LoneTo.step (step_lone_select_default (c := c) (z := .int .i64 0) (cap := cap) (s := s) (r := r) (tm := false) (stepG_comm (cases := #[rcase c (.int .i64 0)]) (blocking := false) (shape := .select) (w' := (w.alloc (.cells #[.chan (some c)] 38))) rfl rfl (by decide) (by simp [go_sem, execOp, rcase, Act.eval])) ?_) ?_
  · rw [Below.heap_alloc _ _ _ hlt]
    exact hc
  rw [Frame.finish_at]
  walk_nrm
  refine LoneTo.goes (n := 20) ?_
  s_op
  s_op
  s_c stepG_region_end
  s_c stepG_block
  s_cond false
  s_c stepG_seq
  s_reg
  s_op
  s_c stepG_region_end
  s_c stepG_seq
  s_reg
  s_op
  s_op
  s_op
  s_c stepG_region_end
  s_c stepG_ret'
  s_stop
  refine LoneTo.done ⟨.returned (.tuple #[.int .i64 0, .bool false]), _, rfl, ⟨rfl, (Below.refl _ w).alloc (Nat.le_refl _) _⟩, rfl, rfl, rfl, rfl, _, Try.func23, by simp [results, Try.f23, Frame.at]⟩

set_option maxRecDepth 100000 in
theorem take_nil (w : World) :
    Calls Try.prog 23 #[.agg #[.chan none]] w fun e w' => e = .returned (.tuple #[.int .i64 0, .bool false]) ∧ Below w.heap.size w w' := by
  refine calls_of_loneTo fun cs => ?_
  have e : Frame.enter Try.prog 23 #[.agg #[.chan none]] .normal = (base 23).at ⟨#[.agg #[.chan none], undef, undef, undef, undef, undef, undef, undef, undef, undef, undef, undef, undef, undef], []⟩ [.code (Try.f23.body.getD .skip)] := by
    simp [Frame.enter, Frame.at, Try.func23, base, Try.f23]
  rw [e]
  refine LoneTo.goes (n := 14) ?_
  simp only [Try.f23, Option.getD_some]
  s_c stepG_seq
  s_reg
  s_op
  s_op
  s_op
  s_c stepG_region_end
  s_c stepG_seq
  s_reg
  s_op
  s_op
  s_c stepG_region_end
  s_c stepG_seq
  s_reg
  s_stop
  refine LoneTo.step (step_lone_select_recv_nil (z := .int .i64 0) (stepG_comm (cases := #[rcaseNil (.int .i64 0)]) (blocking := false) (shape := .select) (w' := (w.alloc (.cells #[.chan none] 38))) rfl rfl (by decide) (by simp [go_sem, execOp, rcaseNil, Act.eval]))) ?_
  rw [Frame.finish_at]
  walk_nrm
  refine LoneTo.goes (n := 20) ?_
  s_op
  s_op
  s_c stepG_region_end
  s_c stepG_block
  s_cond false
  s_c stepG_seq
  s_reg
  s_op
  s_c stepG_region_end
  s_c stepG_seq
  s_reg
  s_op
  s_op
  s_op
  s_c stepG_region_end
  s_c stepG_ret'
  s_stop
  refine LoneTo.done ⟨.returned (.tuple #[.int .i64 0, .bool false]), _, rfl, ⟨rfl, (Below.refl _ w).alloc (Nat.le_refl _) _⟩, rfl, rfl, rfl, rfl, _, Try.func23, by simp [results, Try.f23, Frame.at]⟩

set_option maxRecDepth 100000 in
theorem put_room (c cap : Nat) (x : Int) (xs : List Int) (w : World) (h : Holds w c cap xs) (hroom : xs.length < cap) :
    Calls Try.prog 24 #[.agg #[.chan (some c)], .int .i64 x] w fun e w' => e = .returned (.bool true) ∧ Holds w' c cap (xs ++ [x]) ∧ w.grownBy w' (some c) := by
  obtain ⟨s, r, hc⟩ := h.block
  have hlt := h.lt
  refine calls_of_loneTo fun cs => ?_
  have e : Frame.enter Try.prog 24 #[.agg #[.chan (some c)], .int .i64 x] .normal = (base 24).at ⟨#[.agg #[.chan (some c)], .int .i64 x, undef, undef, undef, undef, undef, undef, undef, undef, undef], []⟩ [.code (Try.f24.body.getD .skip)] := by
    simp [Frame.enter, Frame.at, Try.func24, base, Try.f24]
  rw [e]
  refine LoneTo.goes (n := 18) ?_
  simp only [Try.f24, Option.getD_some]
  s_c stepG_seq
  s_reg
  s_op
  s_op
  s_c stepG_region_end
  s_c stepG_seq
  s_c stepG_seq
  s_reg
  s_op
  s_op
  s_c stepG_region_end
  s_reg
  s_op
  s_c stepG_region_end
  s_c stepG_seq
  s_reg
  s_stop
  refine LoneTo.step (step_lone_select_send_room (c := c) (v := .int .i64 x) (z' := .int .i64 0) (cap := cap) (buf := (ints xs).toArray) (s := s) (r := r) (tm := false) (stepG_comm (cases := #[scase c (.int .i64 x) (.int .i64 0)]) (blocking := false) (shape := .select) (w' := (w.alloc (.cells #[.chan (some c)] 38))) rfl rfl (by decide) (by simp [go_sem, execOp, scase, Act.eval])) ?_ (by simpa [ints] using hroom)) ?_
  · rw [Below.heap_alloc _ _ _ hlt]
    exact hc
  rw [Frame.finish_at]
  walk_nrm
  refine LoneTo.goes (n := 20) ?_
  s_op
  s_op
  s_c stepG_region_end
  s_c stepG_block
  s_cond true
  s_c stepG_seq
  s_reg
  s_op
  s_c stepG_region_end
  s_c stepG_ret'
  s_stop
  refine LoneTo.done ⟨.returned (.bool true), _, rfl, ⟨rfl, holds_set _ _ _ _ _ _ _ _ hlt ?_ ?_, grown_set _ _ _ _ _ _ _⟩, rfl, rfl, rfl, rfl, _, Try.func24, by simp [results, Try.f24, Frame.at]⟩
  · simp [ints]
  · simp
    omega

set_option maxRecDepth 100000 in
theorem put_full (c cap : Nat) (x : Int) (xs : List Int) (w : World) (h : Holds w c cap xs) (hroom : cap ≤ xs.length) :
    Calls Try.prog 24 #[.agg #[.chan (some c)], .int .i64 x] w fun e w' => e = .returned (.bool false) ∧ Below w.heap.size w w' := by
  obtain ⟨s, r, hc⟩ := h.block
  have hlt := h.lt
  refine calls_of_loneTo fun cs => ?_
  have e : Frame.enter Try.prog 24 #[.agg #[.chan (some c)], .int .i64 x] .normal = (base 24).at ⟨#[.agg #[.chan (some c)], .int .i64 x, undef, undef, undef, undef, undef, undef, undef, undef, undef], []⟩ [.code (Try.f24.body.getD .skip)] := by
    simp [Frame.enter, Frame.at, Try.func24, base, Try.f24]
  rw [e]
  refine LoneTo.goes (n := 18) ?_
  simp only [Try.f24, Option.getD_some]
  s_c stepG_seq
  s_reg
  s_op
  s_op
  s_c stepG_region_end
  s_c stepG_seq
  s_c stepG_seq
  s_reg
  s_op
  s_op
  s_c stepG_region_end
  s_reg
  s_op
  s_c stepG_region_end
  s_c stepG_seq
  s_reg
  s_stop
  refine LoneTo.step (step_lone_select_send_full (c := c) (v := .int .i64 x) (z' := .int .i64 0) (cap := cap) (buf := (ints xs).toArray) (s := s) (r := r) (tm := false) (stepG_comm (cases := #[scase c (.int .i64 x) (.int .i64 0)]) (blocking := false) (shape := .select) (w' := (w.alloc (.cells #[.chan (some c)] 38))) rfl rfl (by decide) (by simp [go_sem, execOp, scase, Act.eval])) ?_ (by simpa [ints] using hroom)) ?_
  · rw [Below.heap_alloc _ _ _ hlt]
    exact hc
  rw [Frame.finish_at]
  walk_nrm
  refine LoneTo.goes (n := 20) ?_
  s_op
  s_op
  s_c stepG_region_end
  s_c stepG_block
  s_cond false
  s_c stepG_seq
  s_reg
  s_op
  s_c stepG_region_end
  s_c stepG_ret'
  s_stop
  refine LoneTo.done ⟨.returned (.bool false), _, rfl, ⟨rfl, (Below.refl _ w).alloc (Nat.le_refl _) _⟩, rfl, rfl, rfl, rfl, _, Try.func24, by simp [results, Try.f24, Frame.at]⟩

set_option maxRecDepth 100000 in
theorem put_nil (x : Int) (w : World) :
    Calls Try.prog 24 #[.agg #[.chan none], .int .i64 x] w fun e w' => e = .returned (.bool false) ∧ Below w.heap.size w w' := by
  refine calls_of_loneTo fun cs => ?_
  have e : Frame.enter Try.prog 24 #[.agg #[.chan none], .int .i64 x] .normal = (base 24).at ⟨#[.agg #[.chan none], .int .i64 x, undef, undef, undef, undef, undef, undef, undef, undef, undef], []⟩ [.code (Try.f24.body.getD .skip)] := by
    simp [Frame.enter, Frame.at, Try.func24, base, Try.f24]
  rw [e]
  refine LoneTo.goes (n := 18) ?_
  simp only [Try.f24, Option.getD_some]
  s_c stepG_seq
  s_reg
  s_op
  s_op
  s_c stepG_region_end
  s_c stepG_seq
  s_c stepG_seq
  s_reg
  s_op
  s_op
  s_c stepG_region_end
  s_reg
  s_op
  s_c stepG_region_end
  s_c stepG_seq
  s_reg
  s_stop
  refine LoneTo.step (step_lone_select_send_nil (v := .int .i64 x) (z' := .int .i64 0) (stepG_comm (cases := #[scaseNil (.int .i64 x) (.int .i64 0)]) (blocking := false) (shape := .select) (w' := (w.alloc (.cells #[.chan none] 38))) rfl rfl (by decide) (by simp [go_sem, execOp, scaseNil, Act.eval]))) ?_
  rw [Frame.finish_at]
  walk_nrm
  refine LoneTo.goes (n := 20) ?_
  s_op
  s_op
  s_c stepG_region_end
  s_c stepG_block
  s_cond false
  s_c stepG_seq
  s_reg
  s_op
  s_c stepG_region_end
  s_c stepG_ret'
  s_stop
  refine LoneTo.done ⟨.returned (.bool false), _, rfl, ⟨rfl, (Below.refl _ w).alloc (Nat.le_refl _) _⟩, rfl, rfl, rfl, rfl, _, Try.func24, by simp [results, Try.f24, Frame.at]⟩

/-- Whatever waits. -/
theorem take_any (c cap : Nat) (xs : List Int) (w : World) (h : Holds w c cap xs) :
    Calls Try.prog 23 #[.agg #[.chan (some c)]] w fun e w' => e = .returned (.tuple #[.int .i64 (xs.headD 0), .bool (!xs.isEmpty)]) ∧ Holds w' c cap xs.tail ∧ w.grownBy w' (some c) := by
  cases xs with
  | nil => exact (take_none c cap w h).mono fun e w' ⟨he, hb⟩ => ⟨he, h.below hb, grown_below hb _⟩
  | cons x xs => exact take_first c cap x xs w h
/-- What waits behind a number was put, where there is room. -/
def putN (cap : Nat) (xs : List Int) (x : Int) : List Int := if xs.length < cap then xs ++ [x] else xs
theorem put_any (c cap : Nat) (x : Int) (xs : List Int) (w : World) (h : Holds w c cap xs) :
    Calls Try.prog 24 #[.agg #[.chan (some c)], .int .i64 x] w fun e w' => e = .returned (.bool (decide (xs.length < cap))) ∧ Holds w' c cap (putN cap xs x) ∧ w.grownBy w' (some c) := by
  unfold putN
  by_cases hr : xs.length < cap
  · simp only [hr, decide_true, if_true]
    exact put_room c cap x xs w h hr
  · simp only [hr, decide_false, if_false]
    exact (put_full c cap x xs w h (by omega)).mono fun e w' ⟨he, hb⟩ => ⟨he, h.below hb, grown_below hb _⟩
end Go.Proofs.Ytjbmdbnjoekpmaa
