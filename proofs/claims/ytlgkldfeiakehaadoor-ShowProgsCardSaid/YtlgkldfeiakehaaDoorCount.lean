/- What show's Count answers, the statements' own trial, and the walk of ShowInstrs. Conditions: the variables lie as they are laid; at most 1000 lines, for Count. -/
import Derived.Test.YtlgkldfeiakehaaDoorRefI
namespace Go.Proofs.YtlgkldfeiakehaaDoor
open Go.RowKit Nine
set_option linter.unusedSimpArgs false

/-- How many lines threads' code has. -/
def cntM : List (List Ins) → Nat
  | [] => 0
  | xs :: t => 1 + xs.length + cntM t
theorem cntM_app : ∀ (a b : List (List Ins)), cntM (a ++ b) = cntM a + cntM b
  | [], b => by simp [cntM]
  | x :: a, b => by
    have := cntM_app a b
    simp only [List.cons_append, cntM, this]
    omega
theorem cntM_take (l : List (List Ins)) (k : Nat) : cntM (l.take k) ≤ cntM l := by
  have h := congrArg cntM (List.take_append_drop k l)
  rw [cntM_app] at h
  omega
theorem cntM_le (m : Nat) : ∀ (l : List (List Ins)), (∀ xs ∈ l, xs.length ≤ m) → cntM l ≤ (1 + m) * l.length
  | [], _ => by simp [cntM]
  | x :: l, h => by
    have h1 := h x (by simp)
    have h2 := cntM_le m l fun y hy => h y (List.mem_cons_of_mem _ hy)
    rw [cntM, List.length_cons, Nat.mul_add]
    omega

set_option maxRecDepth 100000 in
set_option maxHeartbeats 1000000 in
theorem count_any {w : World} {S : Nat → Prop} {A : Option Addr} {n cap : Nat} {xss : List (List Ins)} (h : Mat w S A n cap xss) (hS : ∀ g, S g → g < w.heap.size) (r c s : Int) (hsz : cntM xss ≤ 1000) (zz : Nat) (hzz : 1 + cntM xss = zz) :
    Calls Tryd.prog 13 #[.agg #[.int .i64 r, .int .i64 c, .int .i64 s, .slice A n cap]] w fun e w' => e = .returned (.int .i64 (zz : Int)) ∧ Below w.heap.size w w' := by
  have hm := len_i64 h.room h.most
  have hlen := Lib.hid h.len
  have HS := Lib.hid hsz
  have HZZ := Lib.hid hzz
  clear hsz hzz
  obtain ⟨W0, eW0⟩ : ∃ W0, W0 = w.alloc (.cells #[.int .i64 r, .int .i64 c, .int .i64 s, .slice A n cap] 33) := ⟨_, rfl⟩
  have b0 : Below w.heap.size w W0 := by rw [eW0]; exact (Below.refl _ w).alloc (Nat.le_refl _) _
  have p0 : Blk W0 w.heap.size 33 #[.int .i64 r, .int .i64 c, .int .i64 s, .slice A n cap] := by rw [eW0]; exact heap_alloc_new w _
  have z3 := p0.cell 3
  replace h := h.below b0 hS
  go_enter Tryd.func13, Tryd.ntmps13
  go_wp2_with fail
  rw [← eW0]
  clear eW0
  go_wp2_with fail
  go_loop [3, 5, 9] (fun v _ i => ∃ k : Nat, i = .int .i64 k ∧ k ≤ n ∧ v = .int .i64 ((1 + cntM (xss.take k) : Nat) : Int)) (fun _ _ i => n - (intOf i).toNat)
  case atStart => exact ⟨0, rfl, Nat.zero_le _, rfl⟩
  case round =>
    obtain ⟨k, rfl, hk, rfl⟩ := hrel
    by_cases hlt : k < n
    · obtain ⟨g, off, A1, n1, c1, xs, rfl, hg, hx, h0, hl⟩ := h.at_ k hlt
      have t0 : decide ((k : Int) < (n : Int)) = true := decide_eq_true (by omega)
      have i0 : (0 : Int) ≤ (k : Int) := by omega
      have i1 : (k : Int) < (n : Int) := by omega
      have hE : cntM (xss.take (k + 1)) = cntM (xss.take k) + (1 + n1) := by
        rw [take_snoc hx, cntM_app, cntM, cntM, hl.len]
        omega
      have h1 := cntM_take xss (k + 1)
      have h2 := HS.out
      rw [hE] at h1
      have HE := Lib.hid hE
      obtain ⟨z, ez⟩ : ∃ z, cntM (xss.take k) = z := ⟨_, rfl⟩
      have HZ := Lib.hid ez
      rw [ez] at h1
      rw [ez]
      have h3 : z + (1 + n1) ≤ 1000 := by omega
      clear hE ez h1 h2 hx hl
      go_wp2
      go_round
      case rel => exact ⟨k + 1, by go_num, by omega, by rw [HE.out, HZ.out]; go_num⟩
      case measure => simp [intOf]; omega
    · have t0 : decide ((k : Int) < (n : Int)) = false := decide_eq_false (by omega)
      obtain rfl : k = n := by omega
      have e : xss.take k = xss := List.take_of_length_le (by rw [hlen.out]; exact Nat.le_refl _)
      rw [e, HZZ.out]
      clear e
      go_wp2
      go_ret
      exact ⟨rfl, b0⟩

/-! ### the trial -/
theorem wide_0 : Wide 0 := by unfold Wide; omega
theorem wide_1 : Wide 1 := by unfold Wide; omega
theorem itoa_1 : Lib.itoa 1 = [49] := by
  rw [itoa_pos 1 (by omega), show (1 : Int).natAbs = 1 from rfl, decD_step 1 (by omega)]
  rfl
theorem line_load : lineZ 14 0 1 0 0 = [108, 111, 97, 100, 32, 48, 32, 49, 32, 48] := by
  have e : lineZ 14 0 1 0 0 = joinL ([108, 111, 97, 100] :: [Lib.itoa 0, Lib.itoa 1, Lib.itoa 0]) := rfl
  rw [e, itoa_zero, itoa_1]
  rfl
theorem alive_line (w : World) (hL : Laid w) : Calls Tryd.prog 6 #[.agg #[.int .i64 14, .int .i64 0, .int .i64 1, .int .i64 0, .int .i64 0]] w fun e w' => e = .returned (.tuple #[.string ⟨#[108, 111, 97, 100, 32, 48, 32, 49, 32, 48]⟩, .int .i64 0]) ∧ Below w.heap.size w w' := by
  have h := show_some 14 0 1 0 0 wide_0 wide_1 wide_0 wide_0 w hL rfl
  rw [line_load] at h
  exact h
theorem alive_mat (w : World) : Mat ((w.alloc (.cells #[] 23)).alloc (.cells #[.slice (some ⟨w.heap.size, 0, none⟩) 0 0] 42)) (fun g => g < w.heap.size + 2) (some ⟨w.heap.size + 1, 0, none⟩) 1 1 [[]] := by
  have p : Blk ((w.alloc (.cells #[] 23)).alloc (.cells #[.slice (some ⟨w.heap.size, 0, none⟩) 0 0] 42)) (w.heap.size + 1) 42 #[.slice (some ⟨w.heap.size, 0, none⟩) 0 0] := heap_alloc2_new w _ _
  refine ⟨rfl, Nat.le_refl _, by unfold maxLen; omega, fun h => (by cases h), fun ad ha i xs hx => ?_⟩
  injection ha with ha
  subst ha
  obtain rfl : i = 0 := by have := (List.getElem?_eq_some_iff.1 hx).1; simp at this; omega
  obtain rfl : xs = [] := by simpa using hx.symm
  exact ⟨_, 0, _, 0, 0, rfl, by omega, p.cell 0, rfl, Nat.le_refl _, by unfold maxLen; omega, fun h => (by cases h), fun ad _ i x hx => by simp at hx⟩
theorem alive_count (w : World) : Calls Tryd.prog 13 #[.agg #[.int .i64 0, .int .i64 0, .int .i64 0, .slice (some ⟨w.heap.size + 1, 0, none⟩) 1 1]] ((w.alloc (.cells #[] 23)).alloc (.cells #[.slice (some ⟨w.heap.size, 0, none⟩) 0 0] 42))
    fun e w' => e = .returned (.int .i64 2) ∧ Below w.heap.size w w' := by
  refine (count_any (alive_mat w) (fun g hg => by simp; omega) 0 0 0 (by decide) 2 rfl).mono ?_
  rintro e w' ⟨rfl, hb⟩
  exact ⟨rfl, (((Below.refl _ w).alloc (Nat.le_refl _) _).alloc (by simp) _).trans (hb.mono (by simp; omega))⟩
set_option maxRecDepth 100000 in
theorem alive_any (w : World) (hL : Laid w) : Calls Tryd.prog 5 #[] w fun e w' => e = .returned (.bool true) ∧ Below w.heap.size w w' := by
  have hA := alive_line w hL
  have te : ((⟨#[108, 111, 97, 100, 32, 48, 32, 49, 32, 48]⟩ : ByteArray).toList == (⟨#[108, 111, 97, 100, 32, 48, 32, 49, 32, 48]⟩ : ByteArray).toList) = true := by simp
  go_enter Tryd.func5, Tryd.ntmps5
  go_wp2_with fail
  refine hA.mono ?_
  rintro e w1 ⟨rfl, hb1⟩
  have hC := alive_count w1
  go_wp2_with fail
  refine hC.mono ?_
  rintro e w2 ⟨rfl, hb2⟩
  go_wp2
  go_ret
  exact ⟨by simp, hb1.trans (hb2.mono hb1.size)⟩
end Go.Proofs.YtlgkldfeiakehaaDoor
