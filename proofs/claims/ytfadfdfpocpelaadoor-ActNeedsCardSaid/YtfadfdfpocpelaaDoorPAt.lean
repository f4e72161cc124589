/- Contracts of package op: the row of a number, its name and letters, whether it touches what is shared. Conditions: the variable 'rows' lies as it is laid. -/
import Derived.Test.YtfadfdfpocpelaaDoorPClone
namespace Go.Proofs.YtfadfdfpocpelaaDoor.P
open Go.RowKit

theorem in_any (n lo hi : Int) (w : World) : Calls Tryd.prog 11 #[.int .i64 n, .int .i64 lo, .int .i64 hi] w fun e w' => e = .returned (.bool (decide (lo ≤ n ∧ n ≤ hi))) ∧ w = w' := by
  by_cases h1 : lo ≤ n
  · by_cases h2 : n ≤ hi
    · have e : decide (lo ≤ n ∧ n ≤ hi) = true := by simp [h1, h2]
      rw [e]
      go_enter Tryd.func11, Tryd.ntmps11
      go_wp2
      go_ret
      exact ⟨rfl, rfl⟩
    · have e : decide (lo ≤ n ∧ n ≤ hi) = false := by simp [h2]
      have h3 : decide (n ≤ hi) = false := by simp; omega
      rw [e]
      clear e h2
      go_enter Tryd.func11, Tryd.ntmps11
      go_wp2
      go_ret
      exact ⟨rfl, rfl⟩
  · have e : decide (lo ≤ n ∧ n ≤ hi) = false := by simp [h1]
    have h3 : decide (lo ≤ n) = false := by simp; omega
    rw [e]
    clear e h1
    go_enter Tryd.func11, Tryd.ntmps11
    go_wp2
    go_ret
    exact ⟨rfl, rfl⟩

theorem at_none (n : Int) (hn : isOp n = false) (w : World) : Calls Tryd.prog 62 #[.int .i64 n] w fun e w' => e = .returned (.agg #[.string ⟨#[]⟩, .string ⟨#[]⟩]) ∧ Below w.heap.size w w' := by
  have hi := in_any n 1 25
  unfold isOp at hn
  rw [hn] at hi
  clear hn
  go_enter Tryd.func62, Tryd.ntmps62
  go_wp2_with (go_at_call 11; refine (hi _).mono ?_; rintro e w' ⟨rfl, rfl⟩)
  refine bodyPost_ret (results_cell_row (cs := #[.string ⟨#[]⟩, .string ⟨#[]⟩]) rfl _ _ w.heap.size 112 (0, 0) _ rfl (heap_alloc_new w _) Tryd.underlying112 rfl (by kernel_rfl)) rfl ?_
  exact ⟨rfl, (Below.refl _ w).alloc (Nat.le_refl _) _⟩
theorem at_some (k : Nat) (h1 : 1 ≤ k) (h2 : k ≤ 25) (w : World) (hL : Laid w) : Calls Tryd.prog 62 #[.int .i64 k] w fun e w' => e = .returned (.agg #[.string (txt (nameAt k)), .string (txt (shapeAt k))]) ∧ Below w.heap.size w w' := by
  have hi := in_any k 1 25
  have ht : decide ((1 : Int) ≤ k ∧ (k : Int) ≤ 25) = true := decide_eq_true (by omega)
  rw [ht] at hi
  clear ht
  have hL1 : Laid (w.alloc (.cells #[.string ⟨#[]⟩, .string ⟨#[]⟩] 112)) := hL.on ((Below.refl _ w).alloc (Nat.le_refl _) _)
  have c0 := hL1.name k (by omega)
  have c1 := hL1.shape k (by omega)
  go_enter Tryd.func62, Tryd.ntmps62
  go_wp2_with (go_at_call 11; refine (hi _).mono ?_; rintro e w' ⟨rfl, rfl⟩)
  refine bodyPost_ret (results_cell_row (cs := #[.string (txt (nameAt k)), .string (txt (shapeAt k))]) rfl _ _ w.heap.size 112 (0, 0) _ rfl (heap_alloc_new w _) Tryd.underlying112 rfl (by kernel_rfl)) rfl ?_
  exact ⟨rfl, (Below.refl _ w).alloc (Nat.le_refl _) _⟩
theorem row_any (n : Int) (w : World) (hL : Laid w) : Calls Tryd.prog 62 #[.int .i64 n] w fun e w' => e = .returned (.agg #[.string (txt (nameZ n)), .string (txt (shapeZ n))]) ∧ Below w.heap.size w w' := by
  cases hn : isOp n with
  | false =>
    have e0 : nameZ n = [] := by simp [nameZ, hn]
    have e1 : shapeZ n = [] := by simp [shapeZ, hn]
    rw [e0, e1]
    exact at_none n hn w
  | true =>
    have e0 : nameZ n = nameAt n.toNat := by simp [nameZ, hn]
    have e1 : shapeZ n = shapeAt n.toNat := by simp [shapeZ, hn]
    have hb := of_decide_eq_true hn
    obtain ⟨k, rfl⟩ : ∃ k : Nat, n = k := ⟨n.toNat, by omega⟩
    rw [e0, e1]
    exact at_some k (by omega) (by omega) w hL

theorem name_len (i : Nat) : (nameAt i).length ≤ 6 := by
  by_cases h : i < 26
  · exact (by decide : ∀ i, i < 26 → (nameAt i).length ≤ 6) i h
  · simp [nameAt, List.getD, List.getElem?_eq_none (show tab.length ≤ i by rw [tab_len]; omega)]
theorem shape_len (i : Nat) : (shapeAt i).length ≤ 4 := by
  by_cases h : i < 26
  · exact (by decide : ∀ i, i < 26 → (shapeAt i).length ≤ 4) i h
  · simp [shapeAt, List.getD, List.getElem?_eq_none (show tab.length ≤ i by rw [tab_len]; omega)]
theorem nameZ_len (n : Int) : (nameZ n).length ≤ 6 := by
  unfold nameZ
  split
  · exact name_len _
  · simp
theorem shapeZ_len (n : Int) : (shapeZ n).length ≤ 4 := by
  unfold shapeZ
  split
  · exact shape_len _
  · simp
theorem field0 (a b : ByteArray) (w : World) : (Instr.field 112 (.agg #[.string a, .string b]) 0).run Tryd.prog w = .ok (.string a) w := by kernel_rfl
theorem field1 (a b : ByteArray) (w : World) : (Instr.field 112 (.agg #[.string a, .string b]) 1).run Tryd.prog w = .ok (.string b) w := by kernel_rfl
theorem shape_any (n : Int) (w : World) (hL : Laid w) : Calls Tryd.prog 52 #[.int .i64 n] w fun e w' => e = .returned (.string (txt (shapeZ n))) ∧ Below w.heap.size w w' := by
  have hs : (txt (shapeZ n)).size ≤ 140737488355328 := by rw [txt_size]; have := shapeZ_len n; omega
  have hA := row_any n w hL
  have hf := field1
  go_enter Tryd.func52, Tryd.ntmps52
  go_wp2_with fail
  refine hA.mono ?_
  rintro e w1 ⟨rfl, hb1⟩
  go_wp2_with fail
  refine (clone_any _ hs w1).mono ?_
  rintro e w2 ⟨rfl, hb2⟩
  go_wp2
  go_ret
  have h2 := hb1.size
  exact ⟨rfl, hb1.trans (hb2.mono (by omega))⟩

end Go.Proofs.YtfadfdfpocpelaaDoor.P
