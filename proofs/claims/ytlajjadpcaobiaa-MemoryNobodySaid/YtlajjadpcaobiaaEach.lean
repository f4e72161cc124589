/- The iterator of package place: a function value that hands out a program's places, rising. Conditions: the loop's body keeps what lay below a mark, and blocks that are no places. -/
import Derived.RangeFuncNested
import Derived.RangeFuncBound
import Derived.RangeFuncCalls
import Derived.RangeFuncLeaves
import Derived.RangeFuncBox
import Derived.Shelf.Abstract
import Derived.OwnWalkIn
import Derived.TacticsInMore
import Derived.LoopNIn
import Derived.LoopIn
import Derived.Test.YtlajjadpcaobiaaIs
namespace Go.Proofs.Ytlajjadpcaobiaa
open Go.RowKit Go.Shelf Go.ChangeShapes Go.WideShapes

/-- A kind's places with one first number, so many parts; all of a kind, so many first numbers; all of so many kinds. -/
def rowI (K : Int) (s : Sp) (i n : Nat) : List Pl := (List.range n).map fun (j : Nat) => (⟨K, s.f + (i : Int), (j : Int)⟩ : Pl)
def kindI (K : Int) (s : Sp) (n : Nat) : List Pl := (List.range n).flatMap fun i => rowI K s i s.p.toNat
def kindsP (p : Pg) (n : Nat) : List Pl := (List.range n).flatMap fun (k : Nat) => kindI (k : Int) (spanP (k : Int) p) (spanP (k : Int) p).m.toNat
/-- A program's places. -/
def allP (p : Pg) : List Pl := kindsP p 9
theorem rowI_succ (K : Int) (s : Sp) (i n : Nat) : rowI K s i (n + 1) = rowI K s i n ++ [⟨K, s.f + (i : Int), (n : Int)⟩] := by
  unfold rowI
  rw [List.range_succ, List.map_append]
  rfl
theorem kindI_succ (K : Int) (s : Sp) (n : Nat) : kindI K s (n + 1) = kindI K s n ++ rowI K s n s.p.toNat := by
  unfold kindI
  rw [List.range_succ, List.flatMap_append]
  simp
theorem kindsP_succ (p : Pg) (n : Nat) : kindsP p (n + 1) = kindsP p n ++ kindI (n : Int) (spanP (n : Int) p) (spanP (n : Int) p).m.toNat := by
  unfold kindsP
  rw [List.range_succ, List.flatMap_append]
  simp
theorem rowI_len (K : Int) (s : Sp) (i n : Nat) : (rowI K s i n).length = n := by simp [rowI]
theorem kindI_len (K : Int) (s : Sp) (hs : s.p ≤ 2) : ∀ n, (kindI K s n).length ≤ 2 * n
  | 0 => by simp [kindI]
  | n + 1 => by
    rw [kindI_succ, List.length_append, rowI_len]
    have := kindI_len K s hs n
    omega
theorem kindsP_len (p : Pg) : ∀ n, (kindsP p n).length ≤ 12 * n
  | 0 => by simp [kindsP]
  | n + 1 => by
    rw [kindsP_succ, List.length_append]
    have h1 := kindsP_len p n
    obtain ⟨_, _, _, h2, _, h3⟩ := spanP_of (n : Int) p
    have h4 := kindI_len (n : Int) (spanP (n : Int) p) h3 (spanP (n : Int) p).m.toNat
    omega

attribute [local go_sem] Oper.semAt_some
theorem each_any (n : Nat) (p : Pg) (w : World) :
    CallsIn Fence.wide n Try.prog 36 #[.agg p.cs.toArray] w fun e w' => e = .returned (.func (.func 40) #[] #[.pointer (some ⟨w.heap.size, 0, none⟩)]) ∧ w' = w.alloc (.cells p.cs.toArray 24) := by
  refine callsIn_of_wp Try.func36 rfl trivial ?_ rfl
  simp only [Try.ntmps36, List.size_toArray, List.length_cons, List.length_nil, Nat.reduceAdd, Nat.reduceSub, Array.replicate_succ, Array.replicate_zero, List.push_toArray, List.append_toArray, List.nil_append, List.cons_append]
  gi_wp2
  go_ret
  exact ⟨rfl, rfl⟩

/-- What a round keeps: what lay below a mark, and every block of neither places nor lists of them. -/
def Keeps (n₀ : Nat) (W W' : World) : Prop := Below n₀ W W' ∧ W.heap.size ≤ W'.heap.size ∧ ∀ (g : Nat) (t : TypeId) (cs : Array Value), t ≠ 27 → t ≠ 59 → Blk W g t cs → Blk W' g t cs
theorem keeps_t {n₀ : Nat} {A B C : World} (h : Keeps n₀ A B) (k : Keeps n₀ B C) : Keeps n₀ A C :=
  ⟨h.1.trans k.1, Nat.le_trans h.2.1 k.2.1, fun g t cs h1 h2 h3 => k.2.2 g t cs h1 h2 (h.2.2 g t cs h1 h2 h3)⟩
theorem keeps_b {n₀ : Nat} {w : World} (hn : n₀ ≤ w.heap.size) (W : World) (l : Nat) (o o' : Obj) (hl : w.heap.size ≤ l) (h : W.heap[l]? = some o) (ho : o.isCells = false) (hw : o.isWalk = false) : Keeps n₀ W (W.putObj l o') := by
  have hb := belowK_b hn W l o o' hl h ho hw
  refine ⟨hb, hb.size, fun g t cs _ _ hg => blk_grown hg (grownBy_putObj' W l o') fun e => ?_⟩
  injection e with e
  subst e
  rw [show W.heap[g]? = _ from hg] at h
  cases h
  cases ho
theorem grown_of {w w' : World} (h : Below w.heap.size w w') (row : Option Nat) : w.grownBy w' row := ⟨h.os, h.tape, h.output, h.size, fun k hk _ => h.block k hk⟩

set_option maxRecDepth 100000 in
set_option maxHeartbeats 4000000 in
theorem each1_any (n : Nat) (hn : 1 ≤ n) (l Bp n₀ : Nat) (p : Pg) (hp : p.Ok) (J Jx : List Pl → World → Prop) (W : World)
    (hJ : AbidesFrom W.heap.size J)
    (hY : ∀ (pre : List Pl) (x : Pl) (W : World), J pre W → pre.length < 108 → YieldAt Fence.wide (n - 1) Try.prog l #[.agg x.cs.toArray] W fun e W' =>
      (e = .returned (.bool true) ∧ J (pre ++ [x]) W' ∧ Keeps n₀ W W') ∨ (e = .returned (.bool false) ∧ Jx (pre ++ [x]) W'))
    (hBp : Blk W Bp 24 p.cs.toArray) (hJ0 : J [] W) :
    CallsIn Fence.wide n Try.prog 40 #[.func (.yield l) #[] #[], .pointer (some ⟨Bp, 0, none⟩)] W fun e W' => (∃ v, e = .returned v) ∧
      ((∃ ys, ys = allP p ∧ J ys W') ∨ (∃ pre : List Pl, True ∧ Jx pre W')) := by
  have hY2 : ∀ (pre : List Pl) (a b c : Int) (W : World), J pre W → pre.length < 108 → YieldAt Fence.wide (n - 1) Try.prog l #[.agg #[.int .i64 a, .int .i64 b, .int .i64 c]] W fun e W' =>
      (e = .returned (.bool true) ∧ J (pre ++ [⟨a, b, c⟩]) W' ∧ Keeps n₀ W W') ∨ (e = .returned (.bool false) ∧ Jx (pre ++ [⟨a, b, c⟩]) W') := fun pre a b c W h1 h2 => hY pre ⟨a, b, c⟩ W h1 h2
  clear hY
  refine callsIn_of_wp Try.func40 rfl trivial ?_ rfl
  simp only [Try.ntmps40, List.size_toArray, List.length_cons, List.length_nil, Nat.reduceAdd, Nat.reduceSub, Array.replicate_succ, Array.replicate_zero, List.push_toArray, List.append_toArray, List.nil_append, List.cons_append]
  gi_wp2
  gi_loopw [7] (fun v wr => ∃ k : Nat, k ≤ 9 ∧ v = .int .i64 k ∧ J (kindsP p k) wr ∧ Blk wr Bp 24 p.cs.toArray ∧ W.heap.size ≤ wr.heap.size) (fun v _ => 9 - (intOf v).toNat)
  case atStart => exact ⟨0, by omega, rfl, hJ0, hBp, Nat.le_refl _⟩
  case round =>
    obtain ⟨k, hk9, rfl, hJk, hBk, hWs⟩ := hrel
    by_cases hk : k < 9
    · have t0 : decide ((k : Int) < 9) = true := decide_eq_true (by omega)
      have hO := spanP_of (k : Int) p
      have hSp := fun W => span_any (k : Int) p hp W
      have hKS := kindsP_succ p k
      have hKL := kindsP_len p k
      generalize kindsP p k = pre0 at *
      generalize spanP (k : Int) p = SS at *
      obtain ⟨sf, sm, sp⟩ := SS
      simp only at hO hKS
      obtain ⟨o1, o2, o3, o4, o5, o6⟩ := hO
      obtain ⟨M, rfl⟩ : ∃ M : Nat, sm = (M : Int) := ⟨sm.toNat, by omega⟩
      obtain ⟨Q, rfl⟩ : ∃ Q : Nat, sp = (Q : Int) := ⟨sp.toNat, by omega⟩
      rw [Int.toNat_natCast] at hKS
      have HKS := Lib.hid hKS
      clear hKS
      have e0 : wr.cell? ⟨Bp, 0, none⟩ = some (.int .i64 p.r) := hBk.cell 0
      have e1 : wr.cell? ⟨Bp, 1, none⟩ = some (.int .i64 p.c) := hBk.cell 1
      have e2 : wr.cell? ⟨Bp, 2, none⟩ = some (.int .i64 p.s) := hBk.cell 2
      have e3 : wr.cell? ⟨Bp, 3, none⟩ = some (.slice p.A p.n p.cap) := hBk.cell 3
      have hSp2 : ∀ W, Calls Try.prog 41 #[.int .i64 (k : Int), .agg #[.int .i64 p.r, .int .i64 p.c, .int .i64 p.s, .slice p.A p.n p.cap]] W fun e w' => e = .returned (.agg #[.int .i64 sf, .int .i64 (M : Int), .int .i64 (Q : Int)]) ∧ Below W.heap.size W w' := hSp
      clear hSp
      gi_wp2_with (refine ⟨trivial, ?_⟩; gi_at_call 41; refine (callsIn_wide.2 (hSp2 _)).mono ?_; rintro e w1 ⟨rfl, hb1⟩)
      have hg1 := grown_of hb1 none
      have hJ1 := hJ _ wr w1 none hJk hg1 (fun r e => by cases e)
      have hB1 := hBk.on hb1
      have hs1 := hb1.size
      obtain ⟨W2, eW2⟩ : ∃ W2, W2 = w1.alloc (.cells #[.int .i64 sf, .int .i64 (M : Int), .int .i64 (Q : Int)] 86) := ⟨_, rfl⟩
      have hb2 : Below w1.heap.size w1 W2 := by rw [eW2]; exact (Below.refl _ _).alloc (Nat.le_refl _) _
      have hS2 : Blk W2 w1.heap.size 86 #[.int .i64 sf, .int .i64 (M : Int), .int .i64 (Q : Int)] := by rw [eW2]; exact heap_alloc_new w1 _
      have hJ2 := hJ _ w1 W2 none hJ1 (grown_of hb2 none) (fun r e => by cases e)
      have hB2 := hB1.on hb2
      have hs2 := hb2.size
      rw [← eW2]
      generalize w1.heap.size = Bs at hS2 hs1 hs2 ⊢
      clear eW2 hb2 hJ1 hB1 hg1 hb1 hJk hBk e0 e1 e2 e3 hSp2
      have hW2 : W.heap.size ≤ W2.heap.size := by omega
      clear hs1 hs2 hWs w1
      generalize wr = w3 at *
      clear w3
      gi_loopw [15] (fun v wr => ∃ i : Nat, i ≤ M ∧ v = .int .i64 i ∧ J (pre0 ++ kindI (k : Int) ⟨sf, M, Q⟩ i) wr ∧ Blk wr Bp 24 p.cs.toArray ∧ Blk wr Bs 86 #[.int .i64 sf, .int .i64 (M : Int), .int .i64 (Q : Int)] ∧ W.heap.size ≤ wr.heap.size) (fun v _ => M - (intOf v).toNat)
      case atStart => exact ⟨0, by omega, rfl, by simpa [kindI] using hJ2, hB2, hS2, hW2⟩
      case round =>
        obtain ⟨i, hiM, rfl, hJi, hBi, hSi, hWi⟩ := hrel
        by_cases hi : i < M
        · have t1 : decide ((i : Int) < (M : Int)) = true := decide_eq_true (by omega)
          have HIS := Lib.hid (kindI_succ (k : Int) ⟨sf, M, Q⟩ i)
          have hIL := kindI_len (k : Int) ⟨sf, M, Q⟩ (by simpa using o6) i
          have f2 : wr.cell? ⟨Bs, 2, none⟩ = some (.int .i64 (Q : Int)) := hSi.cell 2
          generalize hpre1 : pre0 ++ kindI (k : Int) ⟨sf, M, Q⟩ i = pre1 at hJi
          have hL1 : pre1.length ≤ 12 * k + 2 * i := by rw [← hpre1, List.length_append]; omega
          have HPR := Lib.hid hpre1
          clear hpre1 hIL
          gi_wp2
          generalize wr = w5 at *
          gi_loopw [20] (fun v wr => ∃ j : Nat, j ≤ Q ∧ v = .int .i64 j ∧ J (pre1 ++ rowI (k : Int) ⟨sf, M, Q⟩ i j) wr ∧ Blk wr Bp 24 p.cs.toArray ∧ Blk wr Bs 86 #[.int .i64 sf, .int .i64 (M : Int), .int .i64 (Q : Int)] ∧ W.heap.size ≤ wr.heap.size) (fun v _ => Q - (intOf v).toNat)
          case atStart => exact ⟨0, by omega, rfl, by simpa [rowI] using hJi, hBi, hSi, hWi⟩
          case round =>
            obtain ⟨j, hjQ, rfl, hJj, hBj, hSj, hWj⟩ := hrel
            by_cases hj : j < Q
            · have t2 : decide ((j : Int) < (Q : Int)) = true := decide_eq_true (by omega)
              have hRL := rowI_len (k : Int) ⟨sf, M, Q⟩ i j
              have HRS := Lib.hid (rowI_succ (k : Int) ⟨sf, M, Q⟩ i j)
              have g0 : wr.cell? ⟨Bs, 0, none⟩ = some (.int .i64 sf) := hSj.cell 0
              have hlen : (pre1 ++ rowI (k : Int) ⟨sf, M, Q⟩ i j).length < 108 := by rw [List.length_append]; omega
              have hwi : IntKind.i64.wrap (sf + (i : Int)) = sf + (i : Int) := by rw [IntKind.wrap_i64]; omega
              obtain ⟨fn, tmps, assign, body, hy, hR⟩ := hY2 _ (k : Int) (sf + (i : Int)) (j : Int) wr hJj hlen
              clear hlen
              gi_wp2
              refine hR.mono ?_
              rintro e W6 (⟨rfl, hJ6, hk6⟩ | ⟨rfl, hJx6⟩)
              · gi_wp2
                go_roundw
                case rel => exact ⟨j + 1, by omega, by go_num, by rw [HRS.out, ← List.append_assoc]; exact hJ6, hk6.2.2 _ _ _ (by decide) (by decide) hBj, hk6.2.2 _ _ _ (by decide) (by decide) hSj, by have := hk6.2.1; omega⟩
                case measure => simp [intOf]; omega
              · gi_wp2
                refine bodyPost_ret (results_none rfl _ _ _) rfl ?_
                exact ⟨⟨_, rfl⟩, .inr ⟨_, trivial, hJx6⟩⟩
            · obtain rfl : j = Q := by omega
              have t2 : decide ((j : Int) < (j : Int)) = false := decide_eq_false (by omega)
              gi_wp2
              go_roundw
              case rel => exact ⟨i + 1, by omega, by go_num, by rw [HIS.out, ← List.append_assoc, HPR.out]; simpa using hJj, hBj, hSj, hWj⟩
              case measure => simp [intOf]; omega
        · obtain rfl : i = M := by omega
          have t1 : decide ((i : Int) < (i : Int)) = false := decide_eq_false (by omega)
          gi_wp2
          go_roundw
          case rel => exact ⟨k + 1, by omega, by go_num, by rw [HKS.out]; exact hJi, hBi, hWi⟩
          case measure => simp [intOf]; omega
    · obtain rfl : k = 9 := by omega
      gi_wp2
      go_end0
      exact ⟨⟨_, rfl⟩, .inl ⟨allP p, rfl, hJk⟩⟩
theorem each_stops (n : Nat) (hn : 1 ≤ n) (Bp n₀ : Nat) (p : Pg) (hp : p.Ok) (w : World) (hBp : Blk w Bp 24 p.cs.toArray) :
    SeqStopsK Fence.wide n Try.prog 40 #[.pointer (some ⟨Bp, 0, none⟩)] (fun x : Pl => #[Value.agg #[.int .i64 x.k, .int .i64 x.i, .int .i64 x.j]]) (Keeps n₀) (fun ys => ys = allP p) (fun _ => True) 108 w := fun l J Jx W hW hJ _ hY hJ0 =>
  each1_any n hn l Bp n₀ p hp J Jx W hJ hY (hBp.on hW) hJ0
end Go.Proofs.Ytlajjadpcaobiaa
