/- The walks of OpTells, OpNames and OpBack. Conditions: the variable 'rows' lies as it is laid. -/
import Derived.Test.YtngnnpmojaglnaaDoorRefs
namespace Go.Proofs.YtngnnpmojaglnaaDoor
open Go.RowKit

theorem op_cas (w : World) (hL : Laid w) : Calls Tryd.prog 12 #[.string ⟨#[99, 97, 115]⟩] w fun e w' => e = .returned (.int .i64 16) ∧ Below w.heap.size w w' := by
  have h := op_any (txt [99, 97, 115]) w hL
  have e : opOf (oct (txt [99, 97, 115])) = 16 := by rw [oct_txt]; exact opOf_some (k := 16) (by decide) (by decide)
  rw [e] at h
  exact h
theorem name_16 (w : World) (hL : Laid w) : Calls Tryd.prog 7 #[.int .i64 16] w fun e w' => e = .returned (.string ⟨#[99, 97, 115]⟩) ∧ Below w.heap.size w w' := name_any 16 w hL
theorem shape_16 (w : World) (hL : Laid w) : Calls Tryd.prog 9 #[.int .i64 16] w fun e w' => e = .returned (.string ⟨#[114, 114, 114, 102]⟩) ∧ Below w.heap.size w w' := shape_any 16 w hL
theorem shares_16 (w : World) : Calls Tryd.prog 11 #[.int .i64 16] w fun e w' => e = .returned (.bool true) ∧ w = w' := shares_any 16 w
set_option maxRecDepth 100000 in
theorem alive_any (w : World) (hL : Laid w) : Calls Tryd.prog 6 #[] w fun e w' => e = .returned (.bool true) ∧ Below w.heap.size w w' := by
  go_enter Tryd.func6, Tryd.ntmps6
  go_wp2_with fail
  refine (op_cas w hL).mono ?_
  rintro e w1 ⟨rfl, hb1⟩
  have hL1 := hL.on hb1
  go_wp2_with fail
  refine (name_16 w1 hL1).mono ?_
  rintro e w2 ⟨rfl, hb2⟩
  have hL2 := hL1.on hb2
  go_wp2_with fail
  refine (shape_16 w2 hL2).mono ?_
  rintro e w3 ⟨rfl, hb3⟩
  go_wp2_with fail
  refine (shares_16 w3).mono ?_
  rintro e w4 ⟨rfl, rfl⟩
  go_wp2
  go_ret
  have h1 := hb1.size
  have h2 := hb2.size
  exact ⟨rfl, (hb1.trans (hb2.mono (by omega))).trans (hb3.mono (by omega))⟩

theorem same_txt (x : ByteArray) : (x.toList == x.toList) = true := by simp
set_option maxRecDepth 100000 in
theorem tells_walk (n : Int) (w : World) (hL : Laid w) : Calls Tryd.prog 3 #[.int .i64 n] w fun e w' => e = .returned (.bool true) ∧ Below w.heap.size w w' := by
  have hA := name_any n
  have hB := refname_any n
  have hC := shape_any n
  have hD := refshape_any n
  have hE := shares_any n
  obtain ⟨x, hx⟩ : ∃ x, txt (nameZ n) = x := ⟨_, rfl⟩
  obtain ⟨y, hy⟩ : ∃ y, txt (shapeZ n) = y := ⟨_, rfl⟩
  rw [hx] at hA hB
  rw [hy] at hC hD
  clear hx hy
  have q0 := same_txt x
  have q1 := same_txt y
  have five : n < 11 ∨ (11 ≤ n ∧ n ≤ 16) ∨ (16 < n ∧ n < 18) ∨ (18 ≤ n ∧ n ≤ 25) ∨ 25 < n := by omega
  rcases five with h | ⟨h, h'⟩ | ⟨h, h'⟩ | ⟨h, h'⟩ | h
  all_goals first
    | (have es : sharesZ n = true := (by unfold sharesZ; simp; omega); rw [es] at hE)
    | (have es : sharesZ n = false := (by unfold sharesZ; simp; omega); rw [es] at hE)
  all_goals first
    | (have t1 : decide (11 ≤ n) = true := decide_eq_true (by omega)
       have t1' : 11 ≤ n := by omega)
    | (have t1 : decide (11 ≤ n) = false := decide_eq_false (by omega))
  all_goals first
    | (have t2 : decide (n ≤ 16) = true := decide_eq_true (by omega))
    | (have t2 : decide (n ≤ 16) = false := decide_eq_false (by omega))
  all_goals first
    | (have t3 : decide (18 ≤ n) = true := decide_eq_true (by omega))
    | (have t3 : decide (18 ≤ n) = false := decide_eq_false (by omega))
  all_goals first
    | (have t4 : decide (n ≤ 25) = true := decide_eq_true (by omega))
    | (have t4 : decide (n ≤ 25) = false := decide_eq_false (by omega))
  all_goals
    clear es
    go_enter Tryd.func3, Tryd.ntmps3
    go_wp2_with fail
    refine (alive_any w hL).mono ?_
    rintro e w1 ⟨rfl, hb1⟩
    have hL1 := hL.on hb1
    go_wp2_with fail
    refine (hA w1 hL1).mono ?_
    rintro e w2 ⟨rfl, hb2⟩
    have hL2 := hL1.on hb2
    go_wp2_with fail
    refine (hB w2).mono ?_
    rintro e w3 ⟨rfl, hb3⟩
    have hL3 := hL2.on hb3
    go_wp2_with fail
    refine (hC w3 hL3).mono ?_
    rintro e w4 ⟨rfl, hb4⟩
    go_wp2_with fail
    refine (hD w4).mono ?_
    rintro e w5 ⟨rfl, hb5⟩
    go_wp2_with fail
    refine (hE w5).mono ?_
    rintro e w6 ⟨rfl, rfl⟩
    go_wp2
    go_ret
    have h1 := hb1.size
    have h2 := hb2.size
    have h3 := hb3.size
    have h4 := hb4.size
    exact ⟨rfl, (((hb1.trans (hb2.mono (by omega))).trans (hb3.mono (by omega))).trans (hb4.mono (by omega))).trans (hb5.mono (by omega))⟩

theorem shapes_four (k : Nat) (h1 : 1 ≤ k) (h2 : k ≤ 25) : (shapeAt k).length = 4 :=
  (by decide : ∀ k, k < 26 → 1 ≤ k → (shapeAt k).length = 4) k (by omega) h1
theorem names_there (k : Nat) (h1 : 1 ≤ k) (h2 : k ≤ 25) : (nameAt k).isEmpty = false :=
  (by decide : ∀ k, k < 26 → 1 ≤ k → (nameAt k).isEmpty = false) k (by omega) h1
theorem op_none {n : Int} (h : n < 1 ∨ 25 < n) : isOp n = false := by unfold isOp; simp; omega
theorem op_there {k : Nat} (h1 : 1 ≤ k) (h2 : k ≤ 25) : isOp k = true := by unfold isOp; simp; omega
theorem toList_txt (l : List UInt8) : (txt l).toList = l := by rw [ByteArray.toList_eq]; rfl
set_option maxRecDepth 100000 in
theorem back_walk (n : Int) (w : World) (hL : Laid w) : Calls Tryd.prog 5 #[.int .i64 n] w fun e w' => e = .returned (.bool true) ∧ Below w.heap.size w w' := by
  have hA := name_any n
  have hC := shape_any n
  have hE := shares_any n
  by_cases ho : n < 1 ∨ 25 < n
  · have e0 : txt (nameZ n) = ⟨#[]⟩ := by simp [nameZ, op_none ho, txt]
    have e1 : txt (shapeZ n) = ⟨#[]⟩ := by simp [shapeZ, op_none ho, txt]
    have e2 : sharesZ n = false := by unfold sharesZ; simp; omega
    rw [e0] at hA
    rw [e1] at hC
    rw [e2] at hE
    clear e0 e1 e2
    rcases ho with h | h
    all_goals first
      | (have t1 : decide (n < 1) = true := decide_eq_true (by omega))
      | (have t1 : decide (n < 1) = false := decide_eq_false (by omega)
         have t2 : decide (25 < n) = true := decide_eq_true (by omega))
    all_goals
      go_enter Tryd.func5, Tryd.ntmps5
      go_wp2_with fail
      refine (alive_any w hL).mono ?_
      rintro e w1 ⟨rfl, hb1⟩
      have hL1 := hL.on hb1
      go_wp2_with fail
      refine (hA w1 hL1).mono ?_
      rintro e w2 ⟨rfl, hb2⟩
      have hL2 := hL1.on hb2
      go_wp2_with fail
      refine (hC w2 hL2).mono ?_
      rintro e w3 ⟨rfl, hb3⟩
      go_wp2_with fail
      refine (hE w3).mono ?_
      rintro e w4 ⟨rfl, rfl⟩
      go_wp2
      go_ret
      have h1 := hb1.size
      have h2 := hb2.size
      exact ⟨rfl, (hb1.trans (hb2.mono (by omega))).trans (hb3.mono (by omega))⟩
  · obtain ⟨k, rfl⟩ : ∃ k : Nat, n = k := ⟨n.toNat, by omega⟩
    have k1 : 1 ≤ k := by omega
    have k2 : k ≤ 25 := by omega
    have hB := op_any (txt (nameAt k))
    rw [oct_txt, opOf_some k1 k2] at hB
    have t1 : decide ((k : Int) < 1) = false := decide_eq_false (by omega)
    have t2 : decide ((25 : Int) < k) = false := decide_eq_false (by omega)
    have e0 : nameZ k = nameAt k := by simp [nameZ, op_there k1 k2]
    have e1 : shapeZ k = shapeAt k := by simp [shapeZ, op_there k1 k2]
    have g0 := names_there k k1 k2
    have g1 := shapes_four k k1 k2
    rw [← txt_size] at g1
    rw [← toList_txt (nameAt k)] at g0
    rw [e0] at hA
    rw [e1] at hC
    obtain ⟨x, hx⟩ : ∃ x, txt (nameAt k) = x := ⟨_, rfl⟩
    obtain ⟨y, hy⟩ : ∃ y, txt (shapeAt k) = y := ⟨_, rfl⟩
    rw [hx] at hA hB g0
    rw [hy] at hC g1
    clear hx hy e0 e1 ho
    go_enter Tryd.func5, Tryd.ntmps5
    go_wp2_with fail
    refine (alive_any w hL).mono ?_
    rintro e w1 ⟨rfl, hb1⟩
    have hL1 := hL.on hb1
    go_wp2_with fail
    refine (hA w1 hL1).mono ?_
    rintro e w2 ⟨rfl, hb2⟩
    have hL2 := hL1.on hb2
    go_wp2_with fail
    refine (hC w2 hL2).mono ?_
    rintro e w3 ⟨rfl, hb3⟩
    have hL3 := hL2.on hb3
    go_wp2_with fail
    refine (hA w3 hL3).mono ?_
    rintro e w4 ⟨rfl, hb4⟩
    have hL4 := hL3.on hb4
    go_wp2_with fail
    refine (hB w4 hL4).mono ?_
    rintro e w5 ⟨rfl, hb5⟩
    go_wp2
    go_ret
    have h1 := hb1.size
    have h2 := hb2.size
    have h3 := hb3.size
    have h4 := hb4.size
    exact ⟨rfl, (((hb1.trans (hb2.mono (by omega))).trans (hb3.mono (by omega))).trans (hb4.mono (by omega))).trans (hb5.mono (by omega))⟩

set_option maxRecDepth 100000 in
theorem names_walk (s : ByteArray) (w : World) (hL : Laid w) : Calls Tryd.prog 4 #[.string s] w fun e w' => e = .returned (.bool true) ∧ Below w.heap.size w w' := by
  obtain ⟨t, ht⟩ : ∃ t, s.extract 0 30 = t := ⟨_, rfl⟩
  have two : ∀ x : ByteArray, opOf (oct x) = 0 ∨ (1 ≤ opOf (oct x) ∧ opOf (oct x) ≤ 25 ∧ txt (nameZ (opOf (oct x) : Nat)) = x) := by
    intro x
    rcases opOf_cases (oct x) with ⟨h1, h2, h3⟩ | h
    · refine .inr ⟨h1, h2, ?_⟩
      have e0 : nameZ (opOf (oct x) : Nat) = nameAt (opOf (oct x)) := by simp [nameZ, op_there h1 h2]
      rw [e0, h3, txt_oct]
    · exact .inl h
  rcases Nat.lt_or_ge 30 s.size with hs | hs
  · have t0 : decide ((30 : Int) < (s.size : Int)) = true := decide_eq_true (by omega)
    have hA := op_any t
    have hB := refop_any t
    have q0 := same_txt t
    rcases two t with h0 | ⟨h1, h2, h3⟩
    · rw [h0] at hA hB
      clear two h0
      go_enter Tryd.func4, Tryd.ntmps4
      go_wp2_with fail
      refine (alive_any w hL).mono ?_
      rintro e w1 ⟨rfl, hb1⟩
      have hL1 := hL.on hb1
      go_wp2_with fail
      refine (hA w1 hL1).mono ?_
      rintro e w2 ⟨rfl, hb2⟩
      go_wp2_with fail
      refine (hB w2).mono ?_
      rintro e w3 ⟨rfl, hb3⟩
      go_wp2
      go_ret
      have h1 := hb1.size
      have h2 := hb2.size
      exact ⟨rfl, (hb1.trans (hb2.mono (by omega))).trans (hb3.mono (by omega))⟩
    · obtain ⟨k, hk⟩ : ∃ k, opOf (oct t) = k := ⟨_, rfl⟩
      rw [hk] at hA hB h1 h2 h3
      have hC := name_any k
      rw [h3] at hC
      clear two hk h3
      have z0 : ((k : Int) == 0) = false := by simp; omega
      go_enter Tryd.func4, Tryd.ntmps4
      go_wp2_with fail
      refine (alive_any w hL).mono ?_
      rintro e w1 ⟨rfl, hb1⟩
      have hL1 := hL.on hb1
      go_wp2_with fail
      refine (hA w1 hL1).mono ?_
      rintro e w2 ⟨rfl, hb2⟩
      have hL2 := hL1.on hb2
      go_wp2_with fail
      refine (hB w2).mono ?_
      rintro e w3 ⟨rfl, hb3⟩
      have hL3 := hL2.on hb3
      go_wp2_with fail
      refine (hC w3 hL3).mono ?_
      rintro e w4 ⟨rfl, hb4⟩
      go_wp2
      go_ret
      have h1 := hb1.size
      have h2 := hb2.size
      have h3 := hb3.size
      exact ⟨rfl, ((hb1.trans (hb2.mono (by omega))).trans (hb3.mono (by omega))).trans (hb4.mono (by omega))⟩
  · have t0 : decide ((30 : Int) < (s.size : Int)) = false := decide_eq_false (by omega)
    have hA := op_any s
    have hB := refop_any s
    have q0 := same_txt s
    rcases two s with h0 | ⟨h1, h2, h3⟩
    · rw [h0] at hA hB
      clear two h0
      go_enter Tryd.func4, Tryd.ntmps4
      go_wp2_with fail
      refine (alive_any w hL).mono ?_
      rintro e w1 ⟨rfl, hb1⟩
      have hL1 := hL.on hb1
      go_wp2_with fail
      refine (hA w1 hL1).mono ?_
      rintro e w2 ⟨rfl, hb2⟩
      go_wp2_with fail
      refine (hB w2).mono ?_
      rintro e w3 ⟨rfl, hb3⟩
      go_wp2
      go_ret
      have h1 := hb1.size
      have h2 := hb2.size
      exact ⟨rfl, (hb1.trans (hb2.mono (by omega))).trans (hb3.mono (by omega))⟩
    · obtain ⟨k, hk⟩ : ∃ k, opOf (oct s) = k := ⟨_, rfl⟩
      rw [hk] at hA hB h1 h2 h3
      have hC := name_any k
      rw [h3] at hC
      clear two hk h3
      have z0 : ((k : Int) == 0) = false := by simp; omega
      go_enter Tryd.func4, Tryd.ntmps4
      go_wp2_with fail
      refine (alive_any w hL).mono ?_
      rintro e w1 ⟨rfl, hb1⟩
      have hL1 := hL.on hb1
      go_wp2_with fail
      refine (hA w1 hL1).mono ?_
      rintro e w2 ⟨rfl, hb2⟩
      have hL2 := hL1.on hb2
      go_wp2_with fail
      refine (hB w2).mono ?_
      rintro e w3 ⟨rfl, hb3⟩
      have hL3 := hL2.on hb3
      go_wp2_with fail
      refine (hC w3 hL3).mono ?_
      rintro e w4 ⟨rfl, hb4⟩
      go_wp2
      go_ret
      have h1 := hb1.size
      have h2 := hb2.size
      have h3 := hb3.size
      exact ⟨rfl, ((hb1.trans (hb2.mono (by omega))).trans (hb3.mono (by omega))).trans (hb4.mono (by omega))⟩
end Go.Proofs.YtngnnpmojaglnaaDoor
