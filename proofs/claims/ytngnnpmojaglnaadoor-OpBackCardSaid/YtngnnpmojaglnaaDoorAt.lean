/- Contracts of package op: the row of a number, its name and letters, whether it touches what is shared. Conditions: the variable 'rows' lies as it is laid. -/
import Derived.Test.YtngnnpmojaglnaaDoorClone
namespace Go.Proofs.YtngnnpmojaglnaaDoor
open Go.RowKit

theorem in_any (n lo hi : Int) (w : World) : Calls Tryd.prog 17 #[.int .i64 n, .int .i64 lo, .int .i64 hi] w fun e w' => e = .returned (.bool (decide (lo ≤ n ∧ n ≤ hi))) ∧ w = w' := by
  by_cases h1 : lo ≤ n
  · by_cases h2 : n ≤ hi
    · have e : decide (lo ≤ n ∧ n ≤ hi) = true := by simp [h1, h2]
      rw [e]
      go_enter Tryd.func17, Tryd.ntmps17
      go_wp2
      go_ret
      exact ⟨rfl, rfl⟩
    · have e : decide (lo ≤ n ∧ n ≤ hi) = false := by simp [h2]
      have h3 : decide (n ≤ hi) = false := by simp; omega
      rw [e]
      clear e h2
      go_enter Tryd.func17, Tryd.ntmps17
      go_wp2
      go_ret
      exact ⟨rfl, rfl⟩
  · have e : decide (lo ≤ n ∧ n ≤ hi) = false := by simp [h1]
    have h3 : decide (lo ≤ n) = false := by simp; omega
    rw [e]
    clear e h1
    go_enter Tryd.func17, Tryd.ntmps17
    go_wp2
    go_ret
    exact ⟨rfl, rfl⟩

theorem at_none (n : Int) (hn : isOp n = false) (w : World) : Calls Tryd.prog 15 #[.int .i64 n] w fun e w' => e = .returned (.agg #[.string ⟨#[]⟩, .string ⟨#[]⟩]) ∧ Below w.heap.size w w' := by
  have hi := in_any n 1 25
  unfold isOp at hn
  rw [hn] at hi
  clear hn
  go_enter Tryd.func15, Tryd.ntmps15
  go_wp2_with (go_at_call 17; refine (hi _).mono ?_; rintro e w' ⟨rfl, rfl⟩)
  refine bodyPost_ret (results_cell_row (cs := #[.string ⟨#[]⟩, .string ⟨#[]⟩]) rfl _ _ w.heap.size 29 (0, 0) _ rfl (heap_alloc_new w _) Tryd.underlying29 rfl (by kernel_rfl)) rfl ?_
  exact ⟨rfl, (Below.refl _ w).alloc (Nat.le_refl _) _⟩
theorem at_some (k : Nat) (h1 : 1 ≤ k) (h2 : k ≤ 25) (w : World) (hL : Laid w) : Calls Tryd.prog 15 #[.int .i64 k] w fun e w' => e = .returned (.agg #[.string (txt (nameAt k)), .string (txt (shapeAt k))]) ∧ Below w.heap.size w w' := by
  have hi := in_any k 1 25
  have ht : decide ((1 : Int) ≤ k ∧ (k : Int) ≤ 25) = true := decide_eq_true (by omega)
  rw [ht] at hi
  clear ht
  have hL1 : Laid (w.alloc (.cells #[.string ⟨#[]⟩, .string ⟨#[]⟩] 29)) := hL.on ((Below.refl _ w).alloc (Nat.le_refl _) _)
  have c0 := hL1.name k (by omega)
  have c1 := hL1.shape k (by omega)
  go_enter Tryd.func15, Tryd.ntmps15
  go_wp2_with (go_at_call 17; refine (hi _).mono ?_; rintro e w' ⟨rfl, rfl⟩)
  refine bodyPost_ret (results_cell_row (cs := #[.string (txt (nameAt k)), .string (txt (shapeAt k))]) rfl _ _ w.heap.size 29 (0, 0) _ rfl (heap_alloc_new w _) Tryd.underlying29 rfl (by kernel_rfl)) rfl ?_
  exact ⟨rfl, (Below.refl _ w).alloc (Nat.le_refl _) _⟩
theorem at_any (n : Int) (w : World) (hL : Laid w) : Calls Tryd.prog 15 #[.int .i64 n] w fun e w' => e = .returned (.agg #[.string (txt (nameZ n)), .string (txt (shapeZ n))]) ∧ Below w.heap.size w w' := by
  cases hn : isOp n with
  | false =>
    have e0 : nameZ n = [] := by simp [nameZ, hn]
    have e1 : shapeZ n = [] := by simp [shapeZ, hn]
    rw [e0, e1]
    exact at_none n hn w
  | true =>
    have e0 : nameZ n = nameAt n.toNat := by simp [nameZ, hn]
    have e1 : shapeZ n = shapeAt n.toNat := by simp [shapeZ, hn]
    have hb := of_decide_eq_true hn
    obtain ⟨k, rfl⟩ : ∃ k : Nat, n = k := ⟨n.toNat, by omega⟩
    rw [e0, e1]
    exact at_some k (by omega) (by omega) w hL

theorem name_len (i : Nat) : (nameAt i).length ≤ 6 := by
  by_cases h : i < 26
  · exact (by decide : ∀ i, i < 26 → (nameAt i).length ≤ 6) i h
  · simp [nameAt, List.getD, List.getElem?_eq_none (show tab.length ≤ i by rw [tab_len]; omega)]
theorem shape_len (i : Nat) : (shapeAt i).length ≤ 4 := by
  by_cases h : i < 26
  · exact (by decide : ∀ i, i < 26 → (shapeAt i).length ≤ 4) i h
  · simp [shapeAt, List.getD, List.getElem?_eq_none (show tab.length ≤ i by rw [tab_len]; omega)]
theorem nameZ_len (n : Int) : (nameZ n).length ≤ 6 := by
  unfold nameZ
  split
  · exact name_len _
  · simp
theorem shapeZ_len (n : Int) : (shapeZ n).length ≤ 4 := by
  unfold shapeZ
  split
  · exact shape_len _
  · simp
theorem field0 (a b : ByteArray) (w : World) : (Instr.field 29 (.agg #[.string a, .string b]) 0).run Tryd.prog w = .ok (.string a) w := by kernel_rfl
theorem field1 (a b : ByteArray) (w : World) : (Instr.field 29 (.agg #[.string a, .string b]) 1).run Tryd.prog w = .ok (.string b) w := by kernel_rfl
theorem name_any (n : Int) (w : World) (hL : Laid w) : Calls Tryd.prog 7 #[.int .i64 n] w fun e w' => e = .returned (.string (txt (nameZ n))) ∧ Below w.heap.size w w' := by
  have hs : (txt (nameZ n)).size ≤ 140737488355328 := by rw [txt_size]; have := nameZ_len n; omega
  have hA := at_any n w hL
  have hf := field0
  go_enter Tryd.func7, Tryd.ntmps7
  go_wp2_with fail
  refine hA.mono ?_
  rintro e w1 ⟨rfl, hb1⟩
  go_wp2_with fail
  refine (clone_any _ hs w1).mono ?_
  rintro e w2 ⟨rfl, hb2⟩
  go_wp2
  go_ret
  have h2 := hb1.size
  exact ⟨rfl, hb1.trans (hb2.mono (by omega))⟩
theorem shape_any (n : Int) (w : World) (hL : Laid w) : Calls Tryd.prog 9 #[.int .i64 n] w fun e w' => e = .returned (.string (txt (shapeZ n))) ∧ Below w.heap.size w w' := by
  have hs : (txt (shapeZ n)).size ≤ 140737488355328 := by rw [txt_size]; have := shapeZ_len n; omega
  have hA := at_any n w hL
  have hf := field1
  go_enter Tryd.func9, Tryd.ntmps9
  go_wp2_with fail
  refine hA.mono ?_
  rintro e w1 ⟨rfl, hb1⟩
  go_wp2_with fail
  refine (clone_any _ hs w1).mono ?_
  rintro e w2 ⟨rfl, hb2⟩
  go_wp2
  go_ret
  have h2 := hb1.size
  exact ⟨rfl, hb1.trans (hb2.mono (by omega))⟩
/-- Does it touch what is shared? -/
def sharesZ (n : Int) : Bool := decide (11 ≤ n ∧ n ≤ 16) || decide (18 ≤ n ∧ n ≤ 25)
theorem shares_any (n : Int) (w : World) : Calls Tryd.prog 11 #[.int .i64 n] w fun e w' => e = .returned (.bool (sharesZ n)) ∧ w = w' := by
  have hi := in_any n 11 16
  have hj := in_any n 18 25
  unfold sharesZ
  obtain ⟨b, eb⟩ : ∃ b, b = decide (11 ≤ n ∧ n ≤ 16) := ⟨_, rfl⟩
  obtain ⟨c, ec⟩ : ∃ c, c = decide (18 ≤ n ∧ n ≤ 25) := ⟨_, rfl⟩
  rw [← eb] at hi ⊢
  rw [← ec] at hj ⊢
  clear eb ec
  cases b
  · go_enter Tryd.func11, Tryd.ntmps11
    go_wp2_with fail
    refine (hi w).mono ?_
    rintro e w1 ⟨rfl, rfl⟩
    go_wp2_with fail
    refine (hj w).mono ?_
    rintro e w1 ⟨rfl, rfl⟩
    go_wp2
    go_ret
    exact ⟨rfl, rfl⟩
  · go_enter Tryd.func11, Tryd.ntmps11
    go_wp2_with fail
    refine (hi w).mono ?_
    rintro e w1 ⟨rfl, rfl⟩
    go_wp2
    go_ret
    exact ⟨rfl, rfl⟩

/-! ### the instruction of a name -/
theorem names_apart {i j : Nat} (hi : 1 ≤ i) (hi2 : i ≤ 25) (hj : 1 ≤ j) (hj2 : j ≤ 25) (h : nameAt i = nameAt j) : i = j :=
  (by decide +kernel : ∀ i, i < 26 → ∀ j, j < 26 → 1 ≤ i → 1 ≤ j → nameAt i = nameAt j → i = j) i (by omega) j (by omega) hi hj h
def opOf (l : List UInt8) : Nat := ((List.range' 1 25).find? fun k => nameAt k == l).getD 0
theorem opOf_some {k : Nat} (h1 : 1 ≤ k) (h2 : k ≤ 25) : opOf (nameAt k) = k := by
  unfold opOf
  cases h : (List.range' 1 25).find? fun j => nameAt j == nameAt k with
  | none =>
    have := List.find?_eq_none.1 h k (List.mem_range'_1.2 ⟨by omega, by omega⟩)
    simp at this
  | some j =>
    have h3 := List.find?_some h
    have h4 := List.mem_range'_1.1 (List.mem_of_find?_eq_some h)
    have h5 := names_apart (i := j) (j := k) (by omega) (by omega) h1 h2 (by simpa using h3)
    simp [h5]
theorem opOf_none {l : List UInt8} (h : ∀ j, 1 ≤ j → j ≤ 25 → nameAt j ≠ l) : opOf l = 0 := by
  unfold opOf
  cases h' : (List.range' 1 25).find? fun j => nameAt j == l with
  | none => rfl
  | some j =>
    have h3 := List.find?_some h'
    have h4 := List.mem_range'_1.1 (List.mem_of_find?_eq_some h')
    exact absurd (by simpa using h3) (h j (by omega) (by omega))
theorem opOf_cases (l : List UInt8) : (1 ≤ opOf l ∧ opOf l ≤ 25 ∧ nameAt (opOf l) = l) ∨ opOf l = 0 := by
  unfold opOf
  cases h' : (List.range' 1 25).find? fun j => nameAt j == l with
  | none => exact .inr rfl
  | some j =>
    have h3 := List.find?_some h'
    have h4 := List.mem_range'_1.1 (List.mem_of_find?_eq_some h')
    exact .inl ⟨by simp; omega, by simp; omega, by simpa using h3⟩
theorem op_any (s : ByteArray) (w : World) (hL : Laid w) : Calls Tryd.prog 12 #[.string s] w fun e w' => e = .returned (.int .i64 (opOf (oct s) : Nat)) ∧ Below w.heap.size w w' := by
  go_enter Tryd.func12, Tryd.ntmps12
  go_wp2
  go_loop [3] (fun i => ∃ k : Nat, 1 ≤ k ∧ k ≤ 26 ∧ i = .int .i64 k ∧ ∀ j, 1 ≤ j → j < k → nameAt j ≠ oct s) (fun i => 26 - (intOf i).toNat)
  case atStart => exact ⟨1, Nat.le_refl _, by decide, rfl, fun j h1 h2 => by omega⟩
  case round =>
    obtain ⟨k, hk1, hk2, rfl, hno⟩ := hrel
    by_cases hlt : k ≤ 25
    · have t0 : decide ((k : Int) ≤ 25) = true := decide_eq_true (by omega)
      have c0 := hL.name k (by omega)
      by_cases he : nameAt k = oct s
      · have t1 : decide (txt (nameAt k) = s) = true := decide_eq_true (by rw [he, txt_oct])
        rw [← eq_txt] at t1
        have hop : opOf (oct s) = k := by rw [← he]; exact opOf_some hk1 hlt
        have HO := Lib.hid hop
        clear hop he hno
        go_wp2
        go_ret
        exact ⟨by rw [HO.out]; rfl, Below.refl _ _⟩
      · have t1 : decide (txt (nameAt k) = s) = false := decide_eq_false (fun e => he (by rw [← e, oct_txt]))
        rw [← eq_txt] at t1
        have HN := Lib.hid hno
        have HE := Lib.hid he
        clear hno he
        go_wp2
        go_round
        case rel => exact ⟨k + 1, by omega, by omega, by go_num, fun j h1 h2 => by
          by_cases e : j = k
          · subst e; exact HE.out
          · exact HN.out j h1 (by omega)⟩
        case measure => simp [intOf]; omega
    · have t0 : decide ((k : Int) ≤ 25) = false := decide_eq_false (by omega)
      have hop : opOf (oct s) = 0 := opOf_none (fun j h1 h2 => hno j h1 (by omega))
      have HO := Lib.hid hop
      clear hop hno
      go_wp2
      go_ret
      exact ⟨by rw [HO.out]; rfl, Below.refl _ _⟩
end Go.Proofs.YtngnnpmojaglnaaDoor
