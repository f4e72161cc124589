/- The iterator from the end of a list: a function value that hands out its entries, the last first. Conditions: the loop's body keeps what lay below a mark. -/
import Derived.RangeFuncNested
import Derived.RangeFuncBound
import Derived.RangeFuncCalls
import Derived.RangeFuncLeaves
import Derived.RangeFuncBox
import Derived.Shelf.Abstract
import Derived.OwnWalkIn
import Derived.TacticsInMore
import Derived.LoopNIn
import Derived.LoopIn
import Derived.Test.YtlajjadpcaobiaaOwn
namespace Go.Proofs.Ytlajjadpcaobiaa
open Go.RowKit Go.Shelf Go.ChangeShapes Go.WideShapes

/-- From the last but so many: the indices down to m. -/
def tops (n m : Nat) : List Nat := ((List.range n).drop m).reverse
theorem tops_all (n : Nat) : tops n n = [] := by
  unfold tops
  rw [List.drop_eq_nil_of_le (by simp)]
  rfl
theorem tops_succ (n m : Nat) (h : m < n) : tops n m = tops n (m + 1) ++ [m] := by
  unfold tops
  rw [List.drop_eq_getElem_cons (by simpa using h)]
  simp
theorem tops_pre (n : Nat) : ∀ m, tops n m <+: tops n 0
  | 0 => List.prefix_rfl
  | m + 1 => by
    by_cases h : m < n
    · have := tops_pre n m
      rw [tops_succ n m h] at this
      exact (List.prefix_append _ _).trans this
    · unfold tops
      rw [List.drop_eq_nil_of_le (by simp; omega)]
      exact List.nil_prefix
/-- What a round keeps: all below n₀ but one block. -/
def KB (n₀ b : Nat) (w w' : World) : Prop := Kept (fun g => g = b ∨ n₀ ≤ g) w w'
theorem kb_t {n₀ b : Nat} {A B C : World} (h : KB n₀ b A B) (k : KB n₀ b B C) : KB n₀ b A C := Kept.next h k (fun _ e => .inl e)
theorem kb_b {n₀ b : Nat} {w : World} (hn : n₀ ≤ w.heap.size) (W : World) (l : Nat) (o o' : Obj) (hl : w.heap.size ≤ l) (h : W.heap[l]? = some o) (ho : o.isCells = false) (hw : o.isWalk = false) : KB n₀ b W (W.putObj l o') := by
  have hb := belowK_b hn W l o o' hl h ho hw
  exact ⟨hb.os, hb.tape, hb.output, hb.size, fun k _ hk => hb.block k (by omega)⟩
theorem kb_below {n₀ b : Nat} {w w' : World} (h : Below n₀ w w') : KB n₀ b w w' := ⟨h.os, h.tape, h.output, h.size, fun k _ hk => h.block k (by omega)⟩
theorem tops_len (n m : Nat) : (tops n m).length = n - m := by simp [tops]

attribute [local go_sem] Oper.semAt_some
theorem back_any (n : Nat) (A : Option Addr) (k cap : Nat) (w : World) :
    CallsIn Fence.wide n Try.prog 30 #[.slice A k cap] w fun e w' => e = .returned (.func (.func 39) #[] #[.pointer (some ⟨w.heap.size, 0, none⟩)]) ∧ w' = w.alloc (.cells #[.slice A k cap] 60) := by
  refine callsIn_of_wp Try.func30 rfl trivial ?_ rfl
  simp only [Try.ntmps30, List.size_toArray, List.length_cons, List.length_nil, Nat.reduceAdd, Nat.reduceSub, Array.replicate_succ, Array.replicate_zero, List.push_toArray, List.append_toArray, List.nil_append, List.cons_append]
  gi_wp2
  go_ret
  exact ⟨rfl, rfl⟩
/-- What a round is handed: the index, and the change (of any number, one of the list). -/
def encC (l : List Ch) (k : Nat) : Array Value := #[.int .i64 (k : Int), .agg #[.int .i64 (l.getD (k % l.length) noC).x.k, .int .i64 (l.getD (k % l.length) noC).x.i, .int .i64 (l.getD (k % l.length) noC).x.j, .int .i64 (l.getD (k % l.length) noC).v.n, .int .i64 (l.getD (k % l.length) noC).v.c, .int .i64 (l.getD (k % l.length) noC).v.g]]

set_option maxRecDepth 100000 in
set_option maxHeartbeats 4000000 in
theorem back1_any (n : Nat) (hn : 1 ≤ n) (y Bs n₀ b0 : Nat) (A : Option Addr) (len cap : Nat) (l : List Ch) (J Jx : List Nat → World → Prop) (W : World)
    (hY : ∀ (pre : List Nat) (x : Nat) (W : World), J pre W → pre.length < len → YieldAt Fence.wide (n - 1) Try.prog y (encC l x) W fun e W' =>
      (e = .returned (.bool true) ∧ J (pre ++ [x]) W' ∧ KB n₀ b0 W W') ∨ (e = .returned (.bool false) ∧ Jx (pre ++ [x]) W'))
    (hB : Blk W Bs 60 #[.slice A len cap]) (hBn : ¬ (Bs = b0 ∨ n₀ ≤ Bs)) (hS : SeesC W A len cap l) (hA : ∀ g, holds A len g → ¬ (g = b0 ∨ n₀ ≤ g)) (hJ0 : J [] W) :
    CallsIn Fence.wide n Try.prog 39 #[.func (.yield y) #[] #[], .pointer (some ⟨Bs, 0, none⟩)] W fun e W' => (∃ v, e = .returned v) ∧
      ((∃ ys, ys = tops len 0 ∧ J ys W') ∨ (∃ pre : List Nat, pre <+: tops len 0 ∧ Jx pre W')) := by
  have hll := hS.len
  have hm1 : (len : Int) ≤ 9223372036854775807 := by have := hS.room; have := hS.most; unfold maxLen at this; omega
  have hm0 : (0 : Int) ≤ (len : Int) := by omega
  have hb0 : W.cell? ⟨Bs, 0, none⟩ = some (.slice A len cap) := hB.cell 0
  have HL := Lib.hid hll
  clear hll
  refine callsIn_of_wp Try.func39 rfl trivial ?_ rfl
  simp only [Try.ntmps39, List.size_toArray, List.length_cons, List.length_nil, Nat.reduceAdd, Nat.reduceSub, Array.replicate_succ, Array.replicate_zero, List.push_toArray, List.append_toArray, List.nil_append, List.cons_append]
  gi_wp2
  gi_loopw [3] (fun v wr => ∃ m : Nat, m ≤ len ∧ v = .int .i64 ((m : Int) - 1) ∧ J (tops len m) wr ∧ Blk wr Bs 60 #[.slice A len cap] ∧ SeesC wr A len cap l) (fun v _ => (intOf v + 1).toNat)
  case atStart => exact ⟨len, Nat.le_refl _, rfl, by rw [tops_all]; exact hJ0, hB, hS⟩
  case round =>
    obtain ⟨m, hm, rfl, hJm, hBm, hSm⟩ := hrel
    by_cases h0 : m = 0
    · subst h0
      gi_wp2
      go_end0
      exact ⟨⟨_, rfl⟩, .inl ⟨_, rfl, hJm⟩⟩
    · obtain ⟨k, rfl⟩ : ∃ k, m = k + 1 := ⟨m - 1, by omega⟩
      have ek : ((k + 1 : Nat) : Int) - 1 = (k : Int) := by omega
      rw [ek]
      have htl := tops_len len (k + 1)
      have HT := Lib.hid (tops_succ len k (by omega))
      have hYk := hY _ k wr hJm (by omega)
      have hx : l[k]? = some (l.getD k noC) := by
        have := HL.out
        simp [List.getD, List.getElem?_eq_getElem (show k < l.length by omega)]
      unfold encC at hYk
      rw [Nat.mod_eq_of_lt (show k < l.length by have := HL.out; omega)] at hYk
      generalize l.getD k noC = x at hx hYk
      obtain ⟨fn, tmps, assign, body, hy, hR⟩ := hYk
      obtain ⟨g, o, eA, hr⟩ := hSm.at_ hx
      subst eA
      have c0 : wr.cell? ⟨Bs, 0, none⟩ = some (.slice (some ⟨g, o, none⟩) len cap) := hBm.cell 0
      have r0 : wr.cell? ⟨g, o + k * 6, none⟩ = some (.int .i64 x.x.k) := hr 0 _ rfl
      have r1 : wr.cell? ⟨g, o + k * 6 + 1, none⟩ = some (.int .i64 x.x.i) := hr 1 _ rfl
      have r2 : wr.cell? ⟨g, o + k * 6 + 2, none⟩ = some (.int .i64 x.x.j) := hr 2 _ rfl
      have r3 : wr.cell? ⟨g, o + k * 6 + 3, none⟩ = some (.int .i64 x.v.n) := hr 3 _ rfl
      have r4 : wr.cell? ⟨g, o + k * 6 + 4, none⟩ = some (.int .i64 x.v.c) := hr 4 _ rfl
      have r5 : wr.cell? ⟨g, o + k * 6 + 5, none⟩ = some (.int .i64 x.v.g) := hr 5 _ rfl
      have hkl : k < len := by omega
      have hkI : (k : Int) < (len : Int) := by omega
      have hk0 : (0 : Int) ≤ (k : Int) := by omega
      have HR := Lib.hid hr
      have HX := Lib.hid hx
      clear hr hx ek
      gi_wp2
      refine hR.mono ?_
      rintro e W6 (⟨rfl, hJ6, hk6⟩ | ⟨rfl, hJx6⟩)
      · gi_wp2
        go_roundw
        case rel => exact ⟨k, by omega, by go_num, by rw [HT.out]; exact hJ6, hBm.kept hk6 hBn, Sees.kept hSm hk6 hA⟩
        case measure => simp [intOf]
      · gi_wp2
        refine bodyPost_ret (results_none rfl _ _ _) rfl ?_
        exact ⟨⟨_, rfl⟩, .inr ⟨_, by rw [← HT.out]; exact tops_pre len k, hJx6⟩⟩
theorem back_stops (n : Nat) (hn : 1 ≤ n) (Bs n₀ b0 : Nat) (A : Option Addr) (len cap : Nat) (l : List Ch) (w : World) (hB : Blk w Bs 60 #[.slice A len cap]) (hBn : ¬ (Bs = b0 ∨ n₀ ≤ Bs)) (hS : SeesC w A len cap l) (hA : ∀ g, holds A len g → ¬ (g = b0 ∨ n₀ ≤ g)) :
    SeqStopsK Fence.wide n Try.prog 39 #[.pointer (some ⟨Bs, 0, none⟩)] (encC l) (KB n₀ b0) (fun ys => ys = tops len 0) (fun pre => pre <+: tops len 0) len w := fun y J Jx W hW _ _ hY hJ0 =>
  back1_any n hn y Bs n₀ b0 A len cap l J Jx W hY (hB.on hW) hBn (hS.on hW) hA hJ0
end Go.Proofs.Ytlajjadpcaobiaa
