/- An iterator over a list of numbers; its numbers collected; sorted; a number looked for in a sorted list. Conditions: at most 1000 numbers. -/
import Derived.RangeFuncNested
import Derived.RangeFuncBound
import Derived.RangeFuncCalls
import Derived.RangeFuncLeaves
import Derived.RangeFuncBox
import Derived.Shelf.Abstract
import Derived.OwnWalkIn
import Derived.TacticsInMore
import Derived.LoopNIn
import Derived.LoopIn
import Derived.Maps.AppendAt
import Derived.Sort.OwnSortedInts
import Derived.Test.YtllcgidachbnlaaShelf
import Derived.Test.YtllcgidachbnlaaSmall
namespace Go.Proofs.Ytllcgidachbnlaa
open Go.RowKit Go.Shelf Go.ChangeShapes Go.WideShapes Go.Sort

theorem sees_below {w w' : World} {A : Option Addr} {n cap n₀ k : Nat} {l : List Value} (h : Sees w k A n cap l) (hb : Below n₀ w w') (hA : ∀ g, holds A n g → g < n₀) : Sees w' k A n cap l :=
  Sees.kept (S := fun g => n₀ ≤ g) h ⟨hb.os, hb.tape, hb.output, hb.size, fun k _ hn => hb.block k (by omega)⟩ (fun g hg e => by have := hA g hg; omega)

attribute [local go_sem] Oper.semAt_some
/-- The closure over a list: where its box lies. -/
def seqV (b : Nat) : Value := .func (.func 62) #[] #[.pointer (some ⟨b, 0, none⟩)]
set_option maxRecDepth 100000 in
theorem values_any (A : Option Addr) (n cap : Nat) (w : World) :
    Calls Try.prog 55 #[.slice A n cap] w fun e w' => e = .returned (seqV w.heap.size) ∧ w' = w.alloc (.cells #[.slice A n cap] 30) := by
  refine (callsIn_wide (n := 9)).1 ?_
  refine callsIn_of_wp Try.func55 rfl trivial ?_ rfl
  simp only [Try.ntmps55, List.size_toArray, List.length_cons, List.length_nil, Nat.reduceAdd, Nat.reduceSub, Array.replicate_succ, Array.replicate_zero, List.push_toArray, List.append_toArray, List.nil_append, List.cons_append]
  gi_wp2
  go_ret
  exact ⟨rfl, rfl⟩
/-- What a round is handed. -/
def encI (x : Int) : Array Value := #[.int .i64 x]

set_option maxRecDepth 100000 in
set_option maxHeartbeats 4000000 in
theorem values1_any (n : Nat) (hn : 1 ≤ n) (y Bs n₀ : Nat) (A : Option Addr) (len cap : Nat) (l : List Int) (J Jx : List Int → World → Prop) (W : World)
    (hY : ∀ (pre : List Int) (x : Int) (W : World), J pre W → pre.length < len → YieldAt Fence.wide (n - 1) Try.prog y (encI x) W fun e W' =>
      (e = .returned (.bool true) ∧ J (pre ++ [x]) W' ∧ Below n₀ W W') ∨ (e = .returned (.bool false) ∧ Jx (pre ++ [x]) W'))
    (hB : Blk W Bs 30 #[.slice A len cap]) (hS : SeesI W A len cap l) (hA : ∀ g, holds A len g → g < n₀) (hJ0 : J [] W) :
    CallsIn Fence.wide n Try.prog 62 #[.func (.yield y) #[] #[], .pointer (some ⟨Bs, 0, none⟩)] W fun e W' => (∃ v, e = .returned v) ∧
      ((∃ ys, ys = l ∧ J ys W') ∨ (∃ pre : List Int, pre <+: l ∧ Jx pre W')) := by
  have hll := hS.len
  have hm1 : (len : Int) ≤ 9223372036854775807 := by have := hS.room; have := hS.most; unfold maxLen at this; omega
  have hm0 : (0 : Int) ≤ (len : Int) := by omega
  have hb0 : W.cell? ⟨Bs, 0, none⟩ = some (.slice A len cap) := hB.cell 0
  have HL := Lib.hid hll
  clear hll
  refine callsIn_of_wp Try.func62 rfl trivial ?_ rfl
  simp only [Try.ntmps62, List.size_toArray, List.length_cons, List.length_nil, Nat.reduceAdd, Nat.reduceSub, Array.replicate_succ, Array.replicate_zero, List.push_toArray, List.append_toArray, List.nil_append, List.cons_append]
  gi_wp2
  gi_loopw [7] (fun v wr => ∃ k : Nat, k ≤ len ∧ v = .int .i64 (k : Int) ∧ J (l.take k) wr ∧ SeesI wr A len cap l) (fun v _ => len - (intOf v).toNat)
  case atStart => exact ⟨0, Nat.zero_le _, rfl, by simpa using hJ0, hS⟩
  case round =>
    obtain ⟨k, hk, rfl, hJm, hSm⟩ := hrel
    by_cases hlt : k < len
    · have HT := Lib.hid (show l.take (k + 1) = l.take k ++ [l.getD k 0] by
        rw [List.take_add_one, List.getD, List.getElem?_eq_getElem (show k < l.length by have := HL.out; omega)]
        simp)
      have hYk := hY _ (l.getD k 0) wr hJm (by rw [List.length_take]; omega)
      obtain ⟨g, o, eA, c1⟩ := hSm.get hlt
      unfold encI at hYk
      generalize l.getD k 0 = x at c1 hYk HT
      obtain ⟨fn, tmps, assign, body, hy, hR⟩ := hYk
      subst eA
      have hkI : (k : Int) < (len : Int) := by omega
      have hk0 : (0 : Int) ≤ (k : Int) := by omega
      gi_wp2
      refine hR.mono ?_
      rintro e W6 (⟨rfl, hJ6, hk6⟩ | ⟨rfl, hJx6⟩)
      · gi_wp2
        go_roundw
        case rel => exact ⟨k + 1, by omega, by go_num, by rw [HT.out]; exact hJ6, sees_below hSm hk6 hA⟩
        case measure => simp [intOf]; omega
      · gi_wp2
        refine bodyPost_ret (results_none rfl _ _ _) rfl ?_
        exact ⟨⟨_, rfl⟩, .inr ⟨_, by rw [← HT.out]; exact List.take_prefix _ _, hJx6⟩⟩
    · have hke : k = len := by omega
      have HK := Lib.hid hke
      clear hke
      gi_wp2
      go_end0
      exact ⟨⟨_, rfl⟩, .inl ⟨_, by rw [HK.out, ← HL.out, List.take_length], hJm⟩⟩
theorem values_stops (n : Nat) (hn : 1 ≤ n) (Bs n₀ : Nat) (A : Option Addr) (len cap : Nat) (l : List Int) (w : World) (hB : Blk w Bs 30 #[.slice A len cap]) (hS : SeesI w A len cap l) (hA : ∀ g, holds A len g → g < n₀) :
    SeqStopsK Fence.wide n Try.prog 62 #[.pointer (some ⟨Bs, 0, none⟩)] encI (Below n₀) (fun ys => ys = l) (fun pre => pre <+: l) len w := fun y J Jx W hW _ _ hY hJ0 =>
  values1_any n hn y Bs n₀ A len cap l J Jx W hY (hB.on hW) (hS.on hW) hA hJ0
end Go.Proofs.Ytllcgidachbnlaa
