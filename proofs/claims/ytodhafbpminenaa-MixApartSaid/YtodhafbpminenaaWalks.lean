/- The walks of the three laws of layer 3. Conditions: those that each row names. -/
import Derived.Test.YtodhafbpminenaaSums
namespace Go.Proofs.Ytodhafbpminenaa
open Go.RowKit

theorem tells_walk (a b : Int) (w : World) : Calls Try.prog 3 #[.int .u64 a, .int .u64 b] w fun e w' => e = .returned (.bool true) ∧ w = w' := by
  go_enter Try.func3, Try.ntmps3
  go_wp2_with (first
    | (go_at_call 6; refine (alive_any _).mono ?_; rintro e w' ⟨rfl, rfl⟩)
    | (go_at_call 7; refine (mix_any _ _ _).mono ?_; rintro e w' ⟨rfl, rfl⟩)
    | (go_at_call 8; refine (step_any _ _ _).mono ?_; rintro e w' ⟨rfl, rfl⟩))
  go_ret
  exact ⟨by simp, rfl⟩
theorem apart_walk (a b c : Int) (hb : (Lit.int .u64 b).wf = true) (hc : (Lit.int .u64 c).wf = true) (w : World) : Calls Try.prog 5 #[.int .u64 a, .int .u64 b, .int .u64 c] w fun e w' => e = .returned (.bool true) ∧ w = w' := by
  have H := Lib.hid (mixd_inj a b c (in_u64 hb) (in_u64 hc))
  go_enter Try.func5, Try.ntmps5
  go_wp2_with (first
    | (go_at_call 6; refine (alive_any _).mono ?_; rintro e w' ⟨rfl, rfl⟩)
    | (go_at_call 7; refine (mix_any _ _ _).mono ?_; rintro e w' ⟨rfl, rfl⟩))
  go_ret
  refine ⟨?_, rfl⟩
  by_cases e : b = c
  · subst e
    simp
  · have e2 : mixd a b ≠ mixd a c := fun h => e (H.out h)
    have e3 : (mixd a b == mixd a c) = (b == c) := by rw [beq_eq_false_iff_ne.2 e2, beq_eq_false_iff_ne.2 e]
    simp [e3]

theorem under26 : Try.prog.underlying 26 = some (.slice (Try.prog.elem 26)) := by kernel_rfl
theorem size26 (w : World) : (sizeOf (Try.prog.elem 26)).run Try.prog w = .ok 1 w := by kernel_rfl
/-- A slice of octets that came in. -/
theorem oct_in {w : World} {a : Option Addr} {len cap : Nat} {zs : List Int} (h : (a = none ∧ len = 0 ∧ cap = 0 ∧ zs = []) ∨
    ∃ x, a = some x ∧ len ≤ cap ∧ cap ≤ maxLen ∧ zs.length = cap ∧ (∀ i, i < zs.length → w.cell? (x.add i) = some (.int .u8 (zs.getD i 0))) ∧ ∀ n ∈ zs, (Lit.int .u8 n).wf = true) :
    Oct w w.heap.size a len cap (zs.take len) := by
  rcases h with ⟨rfl, rfl, rfl, rfl⟩ | ⟨x, rfl, hl, hm, hz, hc, hw⟩
  · exact Oct.nil _ _
  · refine ⟨by rw [List.length_take]; omega, hl, hm, fun h => (by cases h), ?_, fun ad ha i hi => ?_⟩
    · intro n hn
      have := (Lit.wf_int_iff .u8 n).1 (hw n (List.mem_of_mem_take hn))
      exact ⟨this.1, this.2⟩
    · injection ha with ha
      subst ha
      have hci := hc i (by omega)
      refine ⟨by have := World.block_lt_of_cell? w _ hci; rwa [add_block] at this, ?_⟩
      rw [hci]
      simp [List.getD, hi]

/-- 'b[:k]', k not 0. -/
theorem cut_front (A : Option Addr) (n cap k : Nat) (h1 : 1 ≤ k) (hc : k ≤ cap) (w : World) :
    (Instr.slice 26 (.slice A n cap) none (some (.int .i64 (k : Int))) none).run Try.prog w = .ok (.slice A k cap) w := by
  rw [run_slice_h w 26 A n cap under26 .i64 _ (by omega) (by omega), size26]
  have e3 : ¬ cap = 0 := by omega
  simp only [Result.andThen, sliced, Int.toNat_natCast, if_neg e3, Nat.sub_zero, Nat.zero_mul]
  rcases A with _ | ad
  · rfl
  · simp [Addr.add]

theorem sums_short (s : Int) (A : Option Addr) (n cap : Nat) (xs : List Int) (w : World) (h : Oct w w.heap.size A n cap xs) (hn : n ≤ 2000) :
    Calls Try.prog 4 #[.int .u64 s, .slice A n cap] w fun e w' => e = .returned (.bool true) ∧ w = w' := by
  have hl := h.len
  have HL := Lib.hid hl
  clear hl
  have t1 : decide ((2000 : Int) < (n : Int)) = false := by simp; omega
  go_enter Try.func4, Try.ntmps4
  go_wp2_with (first
    | (go_at_call 6; refine (alive_any _).mono ?_; rintro e w' ⟨rfl, rfl⟩)
    | (go_at_call 8; refine (step_any _ _ _).mono ?_; rintro e w' ⟨rfl, rfl⟩))
  go_loop [5, 6] (fun x i => ∃ k : Nat, k ≤ n ∧ i = .int .i64 k ∧ x = .int .u64 (goes (mixd s n) (xs.take k))) (fun _ i => n - (intOf i).toNat)
  case atStart => exact ⟨0, Nat.zero_le _, rfl, rfl⟩
  case round =>
    obtain ⟨k, hk, rfl, rfl⟩ := hrel
    by_cases hlt : k < n
    · obtain ⟨ad, rfl⟩ : ∃ ad, A = some ad := by
        cases A with
        | none => have := h.zero.1; omega
        | some ad => exact ⟨ad, rfl⟩
      have hcy := (h.cell ad rfl k hlt).2
      have hb := h.small.at_ k
      obtain ⟨hb0, hb1⟩ := hb
      have HV := Lib.hid (goes_succ (mixd s n) xs k (by rw [HL.out]; exact hlt))
      go_wp2_with (first
        | (go_at_call 8; refine (step_any _ _ _).mono ?_; rintro e w' ⟨rfl, rfl⟩))
      go_round
      case rel => exact ⟨k + 1, by omega, by go_num, by rw [HV.out]⟩
      case measure => simp [intOf]; omega
    · go_wp2_with (first
        | (go_at_call 9; refine (sum_any _ _ _ _ _ _ _ h).mono ?_; rintro e w' ⟨rfl, rfl⟩))
      go_ret
      have ek : k = n := by omega
      subst ek
      refine ⟨?_, rfl⟩
      have et : xs.take k = xs := List.take_of_length_le (by rw [HL.out]; omega)
      simp [et]
theorem cut_2000 (A : Option Addr) (n cap : Nat) (hc : 2000 ≤ cap) : ∃ m : Nat, m = 2000 ∧ ∀ w, (Instr.slice 26 (.slice A n cap) none (some (.int .i64 2000)) none).run Try.prog w = .ok (.slice A m cap) w :=
  ⟨2000, rfl, fun w => cut_front A n cap 2000 (by omega) hc w⟩
theorem sums_long (s : Int) (A : Option Addr) (n cap : Nat) (xs : List Int) (w : World) (h : Oct w w.heap.size A n cap xs) (hn : 2000 < n) :
    Calls Try.prog 4 #[.int .u64 s, .slice A n cap] w fun e w' => e = .returned (.bool true) ∧ w = w' := by
  have t1 : decide ((2000 : Int) < (n : Int)) = true := by simp; omega
  have hr := h.room
  have hmx := h.most
  unfold maxLen at hmx
  obtain ⟨m, hm, hc⟩ := cut_2000 A n cap (by omega)
  have hf := h.front (k := m) (by omega)
  generalize xs.take m = ys at *
  have HL := Lib.hid hf.len
  have HM := Lib.hid hm
  have hm1 : m ≤ 2000 := by omega
  have hm2 : (m : Int) ≤ 2000 := by omega
  clear hm
  go_enter Try.func4, Try.ntmps4
  go_wp2_with (first
    | (go_at_call 6; refine (alive_any _).mono ?_; rintro e w' ⟨rfl, rfl⟩)
    | (go_at_call 8; refine (step_any _ _ _).mono ?_; rintro e w' ⟨rfl, rfl⟩))
  go_loop [5, 6] (fun x i => ∃ k : Nat, k ≤ m ∧ i = .int .i64 k ∧ x = .int .u64 (goes (mixd s m) (ys.take k))) (fun _ i => m - (intOf i).toNat)
  case atStart => exact ⟨0, Nat.zero_le _, rfl, rfl⟩
  case round =>
    obtain ⟨k, hk, rfl, rfl⟩ := hrel
    by_cases hlt : k < m
    · obtain ⟨ad, rfl⟩ : ∃ ad, A = some ad := by
        cases A with
        | none => have := hf.zero.1; omega
        | some ad => exact ⟨ad, rfl⟩
      have hcy := (hf.cell ad rfl k hlt).2
      have hb := hf.small.at_ k
      obtain ⟨hb0, hb1⟩ := hb
      have HV := Lib.hid (goes_succ (mixd s m) ys k (by rw [HL.out]; exact hlt))
      go_wp2_with (first
        | (go_at_call 8; refine (step_any _ _ _).mono ?_; rintro e w' ⟨rfl, rfl⟩))
      go_round
      case rel => exact ⟨k + 1, by omega, by go_num, by rw [HV.out]⟩
      case measure => simp [intOf]; omega
    · go_wp2_with (first
        | (go_at_call 9; refine (sum_any _ _ _ _ _ _ _ hf).mono ?_; rintro e w' ⟨rfl, rfl⟩))
      go_ret
      have ek : k = m := by omega
      subst ek
      refine ⟨?_, rfl⟩
      have et : ys.take k = ys := List.take_of_length_le (by rw [HL.out]; omega)
      simp [et]
theorem sums_walk (s : Int) (A : Option Addr) (n cap : Nat) (xs : List Int) (w : World) (h : Oct w w.heap.size A n cap xs) :
    Calls Try.prog 4 #[.int .u64 s, .slice A n cap] w fun e w' => e = .returned (.bool true) ∧ w = w' := by
  rcases Nat.lt_or_ge 2000 n with hn | hn
  · exact sums_long s A n cap xs w h hn
  · exact sums_short s A n cap xs w h hn
end Go.Proofs.Ytodhafbpminenaa
