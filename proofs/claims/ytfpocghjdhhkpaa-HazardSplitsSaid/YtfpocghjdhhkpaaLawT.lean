/- Where the slots are: by rising threads, of each by rising slots. Conditions: none. -/
import Derived.Test.YtfpocghjdhhkpaaAlive
namespace Go.Proofs.Ytfpocghjdhhkpaa
open Go.RowKit Go.Shelf Go.ChangeShapes Go.WideShapes Go.Sort

theorem slot_yes (i th sl a k : Int) (ha : 0 ≤ a) (haN : a < cl th 4) (hk : 0 ≤ k) (hkM : k < cl sl 2) (hi : a * cl sl 2 + k = i) : slotB i th sl = true ∧ slotP i th sl = ⟨5, a, k⟩ := by
  obtain ⟨s0, s2⟩ := cl_of sl 2 (by omega)
  have h1 : 0 ≤ a * cl sl 2 := Int.mul_nonneg ha s0
  have h2 : (a + 1) * cl sl 2 ≤ cl th 4 * cl sl 2 := Int.mul_le_mul_of_nonneg_right (by omega) s0
  rw [Int.add_mul, Int.one_mul] at h2
  have hb : slotB i th sl = true := by
    unfold slotB
    rw [decide_eq_true (show (0 : Int) ≤ i by omega), decide_eq_true (show i < cl th 4 * cl sl 2 by omega)]
    rfl
  obtain ⟨e1, e2⟩ := (Int.ediv_emod_unique (a := i) (b := cl sl 2) (q := a) (r := k) (by omega)).2 ⟨by rw [Int.mul_comm (cl sl 2) a]; omega, hk, hkM⟩
  refine ⟨hb, ?_⟩
  unfold slotP
  rw [hb, e1, e2]
  rfl
theorem slot_no (i th sl : Int) (h : i < 0 ∨ cl th 4 * cl sl 2 ≤ i) : slotB i th sl = false ∧ slotP i th sl = noP := by
  have hb : slotB i th sl = false := by
    unfold slotB
    rcases h with h | h
    · rw [decide_eq_false (show ¬ (0 : Int) ≤ i by omega)]
      rfl
    · rw [decide_eq_false (show ¬ i < cl th 4 * cl sl 2 by omega)]
      simp
  refine ⟨hb, ?_⟩
  unfold slotP
  rw [hb]
  rfl
set_option maxRecDepth 100000 in
set_option maxHeartbeats 4000000 in
theorem slots_any (i th sl : Int) (w : World) : Calls Try.prog 3 #[.int .i64 i, .int .i64 th, .int .i64 sl] w fun e w' => e = .returned (.bool true) ∧ Below w.heap.size w w' := by
  have hyes := slot_yes i th sl
  have hno := slot_no i th sl
  have cc := fun W => count_any th sl W
  have cn := fun W => near_any th 4 W
  have cm := fun W => near_any sl 2 W
  have cs := fun W => slot_any i th sl W
  obtain ⟨n0, n4⟩ := cl_of th 4 (by omega)
  obtain ⟨m0, m2⟩ := cl_of sl 2 (by omega)
  obtain ⟨a0, a8⟩ := all_of th sl
  generalize cl th 4 = n at *
  generalize cl sl 2 = m at *
  generalize slotB i th sl = b at *
  generalize slotP i th sl = P at *
  have HY := Lib.hid (And.intro hyes hno)
  clear hyes hno
  have cs : ∀ W, Calls Try.prog 7 #[.int .i64 i, .int .i64 th, .int .i64 sl] W fun e w' => e = .returned (.tuple #[.agg #[.int .i64 P.k, .int .i64 P.i, .int .i64 P.j], .bool b]) ∧ Below W.heap.size W w' := cs
  have t1 : (-9223372036854775808 : Int) ≤ n * m := by omega
  have t2 : n * m ≤ 9223372036854775807 := by omega
  go_enter Try.func3, Try.ntmps3
  go_wp2_with fail
  refine (alive_any w).mono ?_
  rintro e w1 ⟨rfl, hb1⟩
  go_wp2_with fail
  refine (cn _).mono ?_
  rintro e w' ⟨rfl, rfl⟩
  go_wp2_with fail
  refine (cm _).mono ?_
  rintro e w' ⟨rfl, rfl⟩
  go_wp2_with fail
  refine (cs _).mono ?_
  rintro e w2 ⟨rfl, hb2⟩
  obtain ⟨w3, ew3⟩ : ∃ W, w2.alloc (.cells #[.int .i64 P.k, .int .i64 P.i, .int .i64 P.j] 25) = W := ⟨_, rfl⟩
  have hb3 : Below w.heap.size w w3 := by
    rw [← ew3]
    have h2 := hb1.trans (hb2.mono hb1.size)
    exact h2.alloc h2.size _
  have hx3 : Blk w3 w2.heap.size 25 #[.int .i64 P.k, .int .i64 P.i, .int .i64 P.j] := by rw [← ew3]; exact heap_alloc_new w2 _
  have HB := Lib.hid hb3
  clear hb1 hb2 hb3 cn cm cs
  go_wp2_with fail
  clear ew3
  generalize w2.heap.size = z at hx3 ⊢
  have e1 := hx3.cell 0
  have e2 := hx3.cell 1
  have e3 := hx3.cell 2
  have c0 : w3.cell? ⟨z, 0, none⟩ = some (.int .i64 P.k) := e1
  have c1 : w3.cell? ⟨z, 1, none⟩ = some (.int .i64 P.i) := e2
  have c2 : w3.cell? ⟨z, 2, none⟩ = some (.int .i64 P.j) := e3
  clear e1 e2 e3 hx3
  have cc3 := cc w3
  go_loopw [11, 12] (fun u t wr => wr = w3 ∧ ∃ a v : Int, u = .int .i64 v ∧ t = .int .i64 a ∧ 0 ≤ a ∧ a ≤ n ∧ v = a * m ∧ (i < 0 ∨ v ≤ i)) (fun _ t _ => (n - intOf t).toNat)
  case atStart => exact ⟨rfl, 0, 0, rfl, rfl, by omega, n0, by simp, by omega⟩
  case round =>
    obtain ⟨rfl, a, v, rfl, rfl, ha0, han, hv, hi⟩ := hrel
    by_cases hlt : a < n
    · have h1 : 0 ≤ a * m := Int.mul_nonneg ha0 m0
      have h2 : (a + 1) * m ≤ n * m := Int.mul_le_mul_of_nonneg_right (by omega) m0
      rw [Int.add_mul, Int.one_mul] at h2
      have t0 : decide (a < n) = true := decide_eq_true hlt
      have hv0 : 0 ≤ v := by omega
      have hv8 : v + m ≤ 8 := by omega
      have HV := Lib.hid hv
      have HI := Lib.hid hi
      clear hv hi h1 h2
      go_wp2_with fail
      go_loopw [11, 13] (fun u t ws => ws = wr ∧ ∃ k v' : Int, u = .int .i64 v' ∧ t = .int .i64 k ∧ 0 ≤ k ∧ k ≤ m ∧ v' = v + k ∧ (i < 0 ∨ v' ≤ i)) (fun _ t _ => (m - intOf t).toNat)
      case atStart => exact ⟨rfl, 0, v, rfl, rfl, by omega, m0, by simp, HI.out⟩
      case round =>
        obtain ⟨rfl, k, v', rfl, rfl, hk0, hkm, hv', hi'⟩ := hrel
        by_cases hkl : k < m
        · have t3 : decide (k < m) = true := decide_eq_true hkl
          have hb0 : 0 ≤ v' := by omega
          have hb8 : v' ≤ 8 := by omega
          by_cases he : v' = i
          · obtain ⟨eb, eP⟩ := HY.out.1 a k ha0 hlt hk0 hkl (by rw [← HV.out]; omega)
            subst eb
            subst eP
            have t4 : (v' == i) = true := by simpa using he
            have c0 : wr.cell? ⟨z, 0, none⟩ = some (.int .i64 5) := c0
            have c1 : wr.cell? ⟨z, 1, none⟩ = some (.int .i64 a) := c1
            have c2 : wr.cell? ⟨z, 2, none⟩ = some (.int .i64 k) := c2
            have heq : ∀ W, (binOp BinOp.eql 25 (.agg #[.int .i64 5, .int .i64 a, .int .i64 k]) (.agg #[.int .i64 5, .int .i64 a, .int .i64 k])).run Try.prog W = .ok (.bool true) W := fun W => by
              have := eq25 ⟨5, a, k⟩ ⟨5, a, k⟩ W
              rw [decide_eq_true rfl] at this
              exact this
            subst he
            clear hv' hi'
            go_wp2_with (go_at_call 8; refine cc3.mono ?_; rintro e w' ⟨rfl, rfl⟩)
            go_ret
            exact ⟨rfl, HB.out⟩
          · have t4 : (v' == i) = false := by simpa using he
            have HI2 := Lib.hid (show i < 0 ∨ v' + 1 ≤ i by omega)
            have HV2 := Lib.hid hv'
            clear hv' hi'
            go_wp2_with fail
            go_roundw
            case rel => exact ⟨trivial, k + 1, v' + 1, rfl, rfl, by omega, by omega, by have := HV2.out; omega, HI2.out⟩
            case measure => simp [intOf]; omega
        · have hkm' : k = m := by omega
          have t3 : decide (k < m) = false := decide_eq_false hkl
          have HV2 := Lib.hid (show v' = (a + 1) * m by rw [Int.add_mul, Int.one_mul, ← HV.out]; omega)
          have HI2 := Lib.hid hi'
          clear hv' hi' hkm'
          go_wp2_with fail
          go_roundw
          case rel => exact ⟨trivial, a + 1, v', rfl, rfl, by omega, by omega, HV2.out, HI2.out⟩
          case measure => simp [intOf]; omega
    · have hae : a = n := by omega
      have t0 : decide (a < n) = false := decide_eq_false hlt
      obtain ⟨eb, eP⟩ := HY.out.2 (by rw [← hae, ← hv]; exact hi)
      subst eb
      subst eP
      have heq : ∀ W, (binOp BinOp.eql 25 (.agg #[.int .i64 0, .int .i64 0, .int .i64 0]) (.agg #[.int .i64 0, .int .i64 0, .int .i64 0])).run Try.prog W = .ok (.bool true) W := fun W => eq25 noP noP W
      have c0 : wr.cell? ⟨z, 0, none⟩ = some (.int .i64 0) := c0
      have c1 : wr.cell? ⟨z, 1, none⟩ = some (.int .i64 0) := c1
      have c2 : wr.cell? ⟨z, 2, none⟩ = some (.int .i64 0) := c2
      clear hv hi hae
      go_wp2_with (go_at_call 8; refine cc3.mono ?_; rintro e w' ⟨rfl, rfl⟩)
      go_ret
      exact ⟨rfl, HB.out⟩
end Go.Proofs.Ytfpocghjdhhkpaa
