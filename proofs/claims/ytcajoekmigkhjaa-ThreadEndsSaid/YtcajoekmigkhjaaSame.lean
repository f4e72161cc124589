/- Two lists of numbers, two micros, two threads that are the same. Conditions: none. -/
import Derived.Test.YtcajoekmigkhjaaClone
import Derived.Test.YtcajoekmigkhjaaBags
import Derived.Deep.QuietTactic
import Derived.ChangeKeysEq
namespace Go.Proofs.Ytcajoekmigkhjaa
open Go.RowKit Go.ChangeShapes Go.WideShapes Go.Great

set_option maxRecDepth 100000 in
set_option maxHeartbeats 4000000 in
/-- Two lists that are the same. -/
theorem nums_same (A A' : Option Addr) (n cap cap' : Nat) (xs : List Int) (w : World) (h : SeesI w A n cap xs) (h' : SeesI w A' n cap' xs) :
    Calls Try.prog 27 #[.slice A n cap, .slice A' n cap'] w fun e w' => e = .returned (.bool true) ∧ Below w.heap.size w w' := by
  have hmx := Sees.most h
  have hrm := Sees.room h
  unfold maxLen at hmx
  go_enter Try.func27, Try.ntmps27
  go_wp2
  go_loopw [5] (fun i wr => ∃ k : Nat, k ≤ n ∧ i = .int .i64 k ∧ Below w.heap.size w wr) (fun i _ => n - (intOf i).toNat)
  case atStart => exact ⟨0, Nat.zero_le _, rfl, Below.refl _ _⟩
  case round =>
    obtain ⟨k, hk, rfl, hb⟩ := hrel
    by_cases hlt : k < n
    · obtain ⟨g, o, rfl, c0⟩ := (h.on hb).get hlt
      obtain ⟨g', o', rfl, d0⟩ := (h'.on hb).get hlt
      generalize xs.getD k 0 = x at c0 d0
      have hkI : (k : Int) < (n : Int) := by omega
      have hk0 : (0 : Int) ≤ (k : Int) := by omega
      go_wp2
      go_quiet (fail)
      go_wp2
      go_roundw
      case rel => exact ⟨k + 1, by omega, by go_num, below_dn hb _⟩
      case measure => simp [intOf]; omega
    · go_wp2
      go_ret
      exact ⟨rfl, hb⟩
set_option maxRecDepth 100000 in
set_option maxHeartbeats 4000000 in
theorem micro_same {w : World} {m : Mi} {A' : Option Addr} {c' : Nat} {z : List Int} (h : SeesI w m.se.A m.se.n m.se.cap z) (h' : SeesI w A' m.se.n c' z) :
    Calls Try.prog 25 #[.agg m.cs.toArray, .agg (Mi.cs ⟨m.k, m.i, m.n, ⟨A', m.se.n, c'⟩⟩).toArray] w fun e w' => e = .returned (.bool true) ∧ Below w.heap.size w w' := by
  obtain ⟨p1, f1⟩ : ∃ p, w.heap.size = p := ⟨_, rfl⟩
  obtain ⟨W1, ea1⟩ : ∃ W, w.alloc (.cells m.cs.toArray 29) = W := ⟨_, rfl⟩
  have ka1 : Below w.heap.size w W1 := by rw [← ea1]; exact (Below.refl _ w).alloc (Nat.le_refl _) _
  have b1 : Blk W1 p1 29 m.cs.toArray := by rw [← ea1]; exact blk_new w _ 29 _ f1
  have kk : Below w.heap.size w W1 := ka1
  have hp1 : w.heap.size ≤ p1 := Nat.le_of_eq f1
  clear ka1
  obtain ⟨p2, f2⟩ : ∃ p, W1.heap.size = p := ⟨_, rfl⟩
  obtain ⟨W2, ea2⟩ : ∃ W, W1.alloc (.cells (Mi.cs ⟨m.k, m.i, m.n, ⟨A', m.se.n, c'⟩⟩).toArray 29) = W := ⟨_, rfl⟩
  have ka2 : Below W1.heap.size W1 W2 := by rw [← ea2]; exact (Below.refl _ W1).alloc (Nat.le_refl _) _
  have b2 : Blk W2 p2 29 (Mi.cs ⟨m.k, m.i, m.n, ⟨A', m.se.n, c'⟩⟩).toArray := by rw [← ea2]; exact blk_new W1 _ 29 _ f2
  have q1_2 : p1 < p2 := by rw [← f2]; exact b1.lt
  replace b1 := b1.on ka2
  have kk0 := kk
  replace kk := kk.trans (ka2.mono kk.size)
  have hp2 : w.heap.size ≤ p2 := by rw [← f2]; exact kk0.size
  clear ka2 kk0
  have c2_1_0 : W2.cell? ⟨p1, 0, none⟩ = some (.int .i64 m.k) := b1.cell 0
  have c2_1_1 : W2.cell? ⟨p1, 1, none⟩ = some (.int .i64 m.i) := b1.cell 1
  have c2_1_2 : W2.cell? ⟨p1, 2, none⟩ = some (.int .i64 m.n) := b1.cell 2
  have c2_1_3 : W2.cell? ⟨p1, 3, none⟩ = some (.slice m.se.A m.se.n m.se.cap) := b1.cell 3
  have c2_2_0 : W2.cell? ⟨p2, 0, none⟩ = some (.int .i64 m.k) := b2.cell 0
  have c2_2_1 : W2.cell? ⟨p2, 1, none⟩ = some (.int .i64 m.i) := b2.cell 1
  have c2_2_2 : W2.cell? ⟨p2, 2, none⟩ = some (.int .i64 m.n) := b2.cell 2
  have c2_2_3 : W2.cell? ⟨p2, 3, none⟩ = some (.slice A' m.se.n c') := b2.cell 3
  have d1 := nums_same m.se.A A' m.se.n m.se.cap c' z W2 (h.on kk) (h'.on kk)
  go_enter Try.func25, Try.ntmps25
  go_wp2_with fail
  refine (d1).mono ?_
  rintro e W3 ⟨rfl, k1⟩
  clear c2_1_0 c2_1_1 c2_1_2 c2_1_3 c2_2_0 c2_2_1 c2_2_2 c2_2_3
  replace b1 := b1.on k1
  replace b2 := b2.on k1
  replace kk := kk.trans (k1.mono kk.size)
  clear k1
  go_wp2
  go_ret
  exact ⟨rfl, kk⟩
def Th.rg (x : Th) : List Value := [.int .i64 x.a0, .int .i64 x.a1, .int .i64 x.a2, .int .i64 x.a3, .int .i64 x.a4, .int .i64 x.a5, .int .i64 x.a6, .int .i64 x.a7, .int .i64 x.a8, .int .i64 x.a9, .int .i64 x.a10, .int .i64 x.a11]
theorem cells25 : Try.prog.cellsOf 25 = 3 := by kernel_rfl
theorem eq26 (x : Th) (w : World) : (binOp BinOp.eql 26 (.agg x.rg.toArray) (.agg x.rg.toArray)).run Try.prog w = .ok (.bool true) w := by
  unfold Th.rg
  obtain ⟨i0, hi, _⟩ := info_parts info25
  rw [run_eql_struct, show (10000 : Nat) = 9999 + 1 from rfl, run_equalIn_array w 9999 _ _ Try.underlying26 hi, cells25]
  simp only [show List.range 4 = [0, 1, 2, 3] from rfl, Op.eqItems, Sem.run_bind]
  go_simp
theorem size26 (x : Th) : (Try.prog.info? 26).map (·.size) = some x.rg.length := by show _ = some 12; kernel_rfl
theorem load29 (m : Mi) : (Try.prog.info? 29).map (·.size) = some m.cs.length := size29
set_option maxRecDepth 100000 in
set_option maxHeartbeats 4000000 in
theorem thread_same {w : World} {x : Th} {A1 A2 A3 : Option Addr} {c1 c2 c3 : Nat} {z s : List Int} {l : List Bg} (h : Reads w x z l s) (h' : Reads w (x.put ⟨A1, x.se.n, c1⟩ ⟨A2, x.bg.n, c2⟩ ⟨A3, x.sn.n, c3⟩) z l s) :
    Calls Try.prog 11 #[.agg x.cs.toArray, .agg (x.put ⟨A1, x.se.n, c1⟩ ⟨A2, x.bg.n, c2⟩ ⟨A3, x.sn.n, c3⟩).cs.toArray] w fun e w' => e = .returned (.bool true) ∧ Below w.heap.size w w' := by
  obtain ⟨p1, f1⟩ : ∃ p, w.heap.size = p := ⟨_, rfl⟩
  obtain ⟨W1, ea1⟩ : ∃ W, w.alloc (.cells x.cs.toArray 32) = W := ⟨_, rfl⟩
  have ka1 : Below w.heap.size w W1 := by rw [← ea1]; exact (Below.refl _ w).alloc (Nat.le_refl _) _
  have b1 : Blk W1 p1 32 x.cs.toArray := by rw [← ea1]; exact blk_new w _ 32 _ f1
  have kk : Below w.heap.size w W1 := ka1
  have hp1 : w.heap.size ≤ p1 := Nat.le_of_eq f1
  clear ka1
  obtain ⟨p2, f2⟩ : ∃ p, W1.heap.size = p := ⟨_, rfl⟩
  obtain ⟨W2, ea2⟩ : ∃ W, W1.alloc (.cells (x.put ⟨A1, x.se.n, c1⟩ ⟨A2, x.bg.n, c2⟩ ⟨A3, x.sn.n, c3⟩).cs.toArray 32) = W := ⟨_, rfl⟩
  have ka2 : Below W1.heap.size W1 W2 := by rw [← ea2]; exact (Below.refl _ W1).alloc (Nat.le_refl _) _
  have b2 : Blk W2 p2 32 (x.put ⟨A1, x.se.n, c1⟩ ⟨A2, x.bg.n, c2⟩ ⟨A3, x.sn.n, c3⟩).cs.toArray := by rw [← ea2]; exact blk_new W1 _ 32 _ f2
  have q1_2 : p1 < p2 := by rw [← f2]; exact b1.lt
  replace b1 := b1.on ka2
  have kk0 := kk
  replace kk := kk.trans (ka2.mono kk.size)
  have hp2 : w.heap.size ≤ p2 := by rw [← f2]; exact kk0.size
  clear ka2 kk0
  have c2_1_0 : W2.cell? ⟨p1, 0, none⟩ = some (.int .i64 x.pc) := b1.cell 0
  have c2_1_1 : W2.cell? ⟨p1, 1, none⟩ = some (.int .i64 x.fu) := b1.cell 1
  have c2_1_2 : W2.cell? ⟨p1, 2, none⟩ = some (.int .i64 x.st) := b1.cell 2
  have c2_2_0 : W2.cell? ⟨p2, 0, none⟩ = some (.int .i64 x.pc) := b2.cell 0
  have c2_2_1 : W2.cell? ⟨p2, 1, none⟩ = some (.int .i64 x.fu) := b2.cell 1
  have c2_2_2 : W2.cell? ⟨p2, 2, none⟩ = some (.int .i64 x.st) := b2.cell 2
  have g1 := range_part b1 3 x.rg rfl
  have g2 : W2.rangeAt p2 3 x.rg := range_part b2 3 x.rg rfl
  have g3 := range_part b1 15 x.mi.cs rfl
  have g4 := range_part b2 15 (Mi.cs ⟨x.mi.k, x.mi.i, x.mi.n, ⟨A1, x.mi.se.n, c1⟩⟩) rfl
  have d1 := micro_same (m := x.mi) (h.on kk).se (h'.on kk).se
  have hq := fun W => eq26 x W
  go_enter Try.func11, Try.ntmps11
  go_wp2_with (first
    | ((with_reducible refine at_load 26 (.tmp 25) ?_); refine wpList_mid (by rfl) 26 (.tmp 25) rfl p1 3 rfl x.rg _ g1 Try.underlying26 rfl (size26 x) ?_)
    | ((with_reducible refine at_load 26 (.tmp 27) ?_); refine wpList_mid (by rfl) 26 (.tmp 27) rfl p2 3 rfl x.rg _ g2 Try.underlying26 rfl (size26 x) ?_)
    | ((with_reducible refine at_load 29 (.tmp 32) ?_); refine wpList_mid (by rfl) 29 (.tmp 32) rfl p1 15 rfl x.mi.cs _ g3 Try.underlying29 rfl (load29 _) ?_)
    | ((with_reducible refine at_load 29 (.tmp 34) ?_); refine wpList_mid (by rfl) 29 (.tmp 34) rfl p2 15 rfl (Mi.cs ⟨x.mi.k, x.mi.i, x.mi.n, ⟨A1, x.mi.se.n, c1⟩⟩) _ g4 Try.underlying29 rfl (load29 _) ?_))
  refine (d1).mono ?_
  rintro e W3 ⟨rfl, k1⟩
  clear c2_1_0 c2_1_1 c2_1_2 c2_2_0 c2_2_1 c2_2_2
  replace b1 := b1.on k1
  replace b2 := b2.on k1
  replace kk := kk.trans (k1.mono kk.size)
  clear k1
  clear d1 g1 g2 g3 g4 hq
  have d2 := bags_same x.bg.A A2 x.bg.n x.bg.cap c2 l W3 (h.on kk).bg (h'.on kk).bg
  have c3_1_19 : W3.cell? ⟨p1, 19, none⟩ = some (.slice x.bg.A x.bg.n x.bg.cap) := b1.cell 19
  have c3_2_19 : W3.cell? ⟨p2, 19, none⟩ = some (.slice A2 x.bg.n c2) := b2.cell 19
  go_wp2_with fail
  refine (d2).mono ?_
  rintro e W4 ⟨rfl, k2⟩
  clear c3_1_19 c3_2_19
  replace b1 := b1.on k2
  replace b2 := b2.on k2
  replace kk := kk.trans (k2.mono kk.size)
  clear k2
  clear d2
  have d3 := nums_same x.sn.A A3 x.sn.n x.sn.cap c3 s W4 (h.on kk).sn (h'.on kk).sn
  have c4_1_20 : W4.cell? ⟨p1, 20, none⟩ = some (.slice x.sn.A x.sn.n x.sn.cap) := b1.cell 20
  have c4_2_20 : W4.cell? ⟨p2, 20, none⟩ = some (.slice A3 x.sn.n c3) := b2.cell 20
  go_wp2_with fail
  refine (d3).mono ?_
  rintro e W5 ⟨rfl, k3⟩
  clear c4_1_20 c4_2_20
  replace b1 := b1.on k3
  replace b2 := b2.on k3
  replace kk := kk.trans (k3.mono kk.size)
  clear k3
  clear d3
  have c5_1_21 : W5.cell? ⟨p1, 21, none⟩ = some (.int .i64 x.old) := b1.cell 21
  have c5_2_21 : W5.cell? ⟨p2, 21, none⟩ = some (.int .i64 x.old) := b2.cell 21
  go_wp2
  go_ret
  exact ⟨rfl, kk⟩
end Go.Proofs.Ytcajoekmigkhjaa
