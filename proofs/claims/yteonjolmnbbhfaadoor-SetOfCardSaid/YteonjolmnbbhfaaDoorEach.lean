/- The iterator of package set: a function value that hands out the members of a set, rising. Conditions: the table of math/bits lies as it is laid; the loop's body keeps what lay below a mark. -/
import Derived.RangeFuncNested
import Derived.RangeFuncBound
import Derived.RangeFuncCalls
import Derived.RangeFuncLeaves
import Derived.RangeFuncBox
import Derived.Shelf.Abstract
import Derived.OwnWalkIn
import Derived.TacticsInMore
import Derived.LoopNIn
import Derived.LoopIn
import Derived.Test.YteonjolmnbbhfaaDoorCalls
namespace Go.Proofs.YteonjolmnbbhfaaDoor
open Go.RowKit Go.Shelf
attribute [local go_sem] Oper.semAt_some

/-- The table of math/bits lies as it is laid. -/
def Tab (w : World) : Prop := ∀ j, j < 64 → w.cell? ⟨0, j, none⟩ = some (.int .u8 (Lib.deBruijn64tab.getD j 0 : Nat))
theorem Tab.below {B : Nat} {w w' : World} (h : Tab w) (hB : 0 < B) (hb : Below B w w') : Tab w' := fun j hj => (hb.cell (p := ⟨0, j, none⟩) hB).trans (h j hj)

theorem tz_core (x k idx : Nat) (w : World) (hx0 : ((x : Int) == 0) = false)
    (key : IntKind.u64.wrap (bits BinOp.and IntKind.u64 (x : Int) (IntKind.u64.wrap (-(x : Int))) * 285870213051353865) / 288230376151711744 = (idx : Int))
    (hi : idx < 64) (hk : k < 64) (hcell : w.cell? ⟨0, idx, none⟩ = some (.int .u8 k)) :
    Calls Tryd.prog 21 #[.int .u64 x] w fun e w' => e = .returned (.int .i64 k) ∧ w = w' := by
  go_enter Tryd.func21, Tryd.ntmps21
  go_wp2_with (simp only [key])
  go_ret
  exact ⟨rfl, rfl⟩
theorem tz_key (x a : Nat) (hx : x < 18446744073709551616) (hx0 : x ≠ 0) (hlow : x &&& (18446744073709551616 - x) = a) :
    IntKind.u64.wrap (bits BinOp.and IntKind.u64 (x : Int) (IntKind.u64.wrap (-(x : Int))) * 285870213051353865) / 288230376151711744 = ((a * 285870213051353865 % 18446744073709551616 / 288230376151711744 : Nat) : Int) := by
  have e1 : IntKind.u64.wrap (-(x : Int)) = ((18446744073709551616 - x : Nat) : Int) := by rw [IntKind.wrap_u64]; omega
  rw [e1, bits_and_u64_nat x _ hx (by omega), hlow, IntKind.wrap_u64]
  omega
theorem tz_any (x : Nat) (hx : x < 18446744073709551616) (hx0 : x ≠ 0) (w : World) (hT : Tab w) :
    Calls Tryd.prog 21 #[.int .u64 (x : Int)] w fun e w' => e = .returned (.int .i64 ((Lib.ctz 64 x : Nat) : Int)) ∧ w = w' := by
  obtain ⟨hlow, hk⟩ := Lib.lowest_bit 64 x hx0 hx
  obtain ⟨hi, ht⟩ := Lib.deBruijn64_at _ hk
  have hc := hT _ hi
  rw [ht] at hc
  exact tz_core x _ _ w (by simpa using hx0) (tz_key x _ hx hx0 hlow) hi hk hc

theorem each_any (n : Nat) (s : Int) (w : World) :
    CallsIn Fence.wide n Tryd.prog 17 #[.int .u64 s] w fun e w' => e = .returned (.func (.func 20) #[] #[.pointer (some ⟨w.heap.size, 0, none⟩)]) ∧ w' = w.alloc (.cells #[.int .u64 s] 24) := by
  refine callsIn_of_wp Tryd.func17 rfl trivial ?_ rfl
  simp only [Tryd.ntmps17, List.size_toArray, List.length_cons, List.length_nil, Nat.reduceAdd, Nat.reduceSub, Array.replicate_succ, Array.replicate_zero, List.push_toArray, List.append_toArray, List.nil_append, List.cons_append]
  gi_wp2
  go_ret
  exact ⟨rfl, rfl⟩

set_option maxRecDepth 100000 in
set_option maxHeartbeats 2000000 in
theorem each1_any (n : Nat) (hn : 1 ≤ n) (l Bs n₀ s : Nat) (hs : s < 18446744073709551616) (h0 : 0 < n₀) (J Jx : List Nat → World → Prop)
    (hY : ∀ (pre : List Nat) (x : Nat) (W : World), J pre W → pre.length < 64 → YieldAt Fence.wide (n - 1) Tryd.prog l #[.int .i64 (x : Int)] W fun e W' =>
      (e = .returned (.bool true) ∧ J (pre ++ [x]) W' ∧ Below n₀ W W') ∨ (e = .returned (.bool false) ∧ Jx (pre ++ [x]) W'))
    (W : World) (hBs : W.cell? ⟨Bs, 0, none⟩ = some (.int .u64 (s : Int))) (hT : Tab W) (hJ0 : J [] W) :
    CallsIn Fence.wide n Tryd.prog 20 #[.func (.yield l) #[] #[], .pointer (some ⟨Bs, 0, none⟩)] W fun e W' => (∃ v, e = .returned v) ∧
      ((∃ ys, ys = mem s ∧ J ys W') ∨ (∃ pre, pre <+: mem s ∧ Jx pre W')) := by
  refine callsIn_of_wp Tryd.func20 rfl trivial ?_ rfl
  simp only [Tryd.ntmps20, List.size_toArray, List.length_cons, List.length_nil, Nat.reduceAdd, Nat.reduceSub, Array.replicate_succ, Array.replicate_zero, List.push_toArray, List.append_toArray, List.nil_append, List.cons_append]
  gi_wp2
  gi_loopw [3] (fun v wr => ∃ (pre : List Nat) (t : Nat), v = .int .u64 (t : Int) ∧ t < 18446744073709551616 ∧ mem s = pre ++ mem t ∧ J pre wr ∧ Tab wr)
    (fun v _ => (mem (intOf v).toNat).length)
  case atStart => exact ⟨[], s, rfl, hs, rfl, hJ0, hT⟩
  case round =>
    obtain ⟨pre, t, rfl, ht, hm, hJs, hTs⟩ := hrel
    by_cases h0t : t = 0
    · subst h0t
      rw [mem_zero, List.append_nil] at hm
      have HM := Lib.hid hm
      clear hm
      gi_wp2
      go_end0
      exact ⟨⟨_, rfl⟩, .inl ⟨pre, HM.out.symm, hJs⟩⟩
    · have hst := mem_step t h0t ht
      have hlen : pre.length < 64 := by
        have h1 := mem_len s
        rw [hm, List.length_append, hst] at h1
        simp at h1
        omega
      obtain ⟨fn, tmps, assign, body, hy, hR⟩ := hY pre (Lib.ctz 64 t) wr hJs hlen
      have hx0 : ((t : Int) == 0) = false := by simpa using h0t
      have hx1 : ((t : Int) != 0) = true := by simpa using h0t
      have HM := Lib.hid hm
      have HS := Lib.hid hst
      clear hm hst
      gi_wp2_with (first
        | (refine ⟨trivial, ?_⟩; gi_at_call 21; refine (callsIn_wide.2 (tz_any t ht h0t _ hTs)).mono ?_; rintro e w' ⟨rfl, rfl⟩))
      refine hR.mono ?_
      rintro e W3 (⟨rfl, hJ3, hk3⟩ | ⟨rfl, hJx3⟩)
      · gi_wp2_with (first
          | (refine ⟨trivial, ?_⟩; gi_at_call 13; refine (callsIn_wide.2 (less_any t _ ht _)).mono ?_; rintro e w' ⟨rfl, rfl⟩))
        go_roundw
        case rel => exact ⟨pre ++ [Lib.ctz 64 t], lessN t (Lib.ctz 64 t : Nat), rfl, less_lt _ _ ht, by rw [HM.out, HS.out]; simp, hJ3, hTs.below h0 hk3⟩
        case measure =>
          have e2 : (mem t).length = (mem (lessN t (Lib.ctz 64 t : Nat))).length + 1 := by rw [HS.out]; simp
          simp [intOf, e2]
      · gi_wp2
        refine bodyPost_ret (results_none rfl _ _ _) rfl ?_
        exact ⟨⟨_, rfl⟩, .inr ⟨pre ++ [Lib.ctz 64 t], ⟨mem (lessN t (Lib.ctz 64 t : Nat)), by rw [HM.out, HS.out]; simp⟩, hJx3⟩⟩
theorem each_stops (n : Nat) (hn : 1 ≤ n) (Bs n₀ s : Nat) (hs : s < 18446744073709551616) (h0 : 0 < n₀) (w : World) (hBs : Bs < w.heap.size)
    (hc : w.cell? ⟨Bs, 0, none⟩ = some (.int .u64 (s : Int))) (hT : Tab w) :
    SeqStopsK Fence.wide n Tryd.prog 20 #[.pointer (some ⟨Bs, 0, none⟩)] (fun x : Nat => #[Value.int .i64 (x : Int)]) (Below n₀) (fun ys => ys = mem s) (fun pre => pre <+: mem s) 64 w := fun l J Jx W hW _ _ hY hJ0 =>
  each1_any n hn l Bs n₀ s hs h0 J Jx hY W ((hW.cell (p := ⟨Bs, 0, none⟩) hBs).trans hc) (hT.below (by omega) hW) hJ0
end Go.Proofs.YteonjolmnbbhfaaDoor
