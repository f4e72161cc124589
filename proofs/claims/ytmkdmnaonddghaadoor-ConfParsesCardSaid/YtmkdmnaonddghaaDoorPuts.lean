/- What conf's Put and the reference's Put answer: ten octets. Conditions: conf's spans lie as they are laid, for conf's. -/
import Derived.Test.YtmkdmnaonddghaaDoorBoth
import Derived.Test.YtmkdmnaonddghaaDoorRefPut
import Derived.Test.YtmkdmnaonddghaaDoorRead
namespace Go.Proofs.YtmkdmnaonddghaaDoor
open Go.RowKit

def numsL (c : Cfg) (a : Ask) : List Int := [c.s, c.o, c.t, c.f, c.d, a.m, a.b]
def octK (c : Cfg) (a : Ask) : Nat → List Int
  | 0 => []
  | k + 1 => put (octK c a k) ((numsL c a).getD k 0) (octsAt k)
def octC (c : Cfg) (a : Ask) : List Int := [c.s % 256, c.o % 256, c.t % 256, c.f % 256, c.d % 256, a.m % 256] ++ digs a.b 3 ++ [flagI a.st]
theorem octK_len (c : Cfg) (a : Ask) (k : Nat) (hk : k ≤ 7) : (octK c a k).length ≤ 9 := by
  rcases (by omega : k = 0 ∨ k = 1 ∨ k = 2 ∨ k = 3 ∨ k = 4 ∨ k = 5 ∨ k = 6 ∨ k = 7) with rfl | rfl | rfl | rfl | rfl | rfl | rfl | rfl <;> simp [octK, put, octsAt, spanT, digs]
theorem octK_all (c : Cfg) (a : Ask) : put (octK c a 7) (flagI a.st) 1 = octC c a := by
  unfold octC
  cases a.st <;> simp [octK, put, octsAt, spanT, digs, dig, numsL, flagI]
theorem octC_len (c : Cfg) (a : Ask) : (octC c a).length = 10 := by simp [octC, digs]
set_option maxRecDepth 100000 in
theorem idx_any (c : Cfg) (a : Ask) (k : Nat) (hk : k < 7) (W : World) : (Instr.index 55 (.agg #[.int .i64 c.s, .int .i64 c.o, .int .i64 c.t, .int .i64 c.f, .int .i64 c.d, .int .i64 a.m, .int .i64 a.b]) (.int .i64 (k : Int))).run Tryd.prog W = .ok (.int .i64 ((numsL c a).getD k 0)) W := by
  rcases (by omega : k = 0 ∨ k = 1 ∨ k = 2 ∨ k = 3 ∨ k = 4 ∨ k = 5 ∨ k = 6) with rfl | rfl | rfl | rfl | rfl | rfl | rfl <;> kernel_rfl
set_option maxRecDepth 100000 in
set_option maxHeartbeats 1000000 in
theorem confput_good (c : Cfg) (a : Ask) (w : World) (hL : Laid w) (hg : chkB c a = 0) :
    Calls Tryd.prog 9 #[.agg #[.int .i64 c.s, .int .i64 c.o, .int .i64 c.t, .int .i64 c.f, .int .i64 c.d], .agg #[.int .i64 a.m, .int .i64 a.b, .bool a.st]] w fun e w' => ∃ A n cap, e = .returned (.tuple #[.slice A n cap, .int .i64 0]) ∧ Oct w' w'.heap.size A n cap (octC c a) ∧ Below w.heap.size w w' := by
  have hC := fun W hW => both_any c a W hW
  rw [hg] at hC
  have hI := fun k hk W => idx_any c a k hk W
  have hN := octK_all c a
  have hM := fun k hk => octK_len c a k hk
  have hS : ∀ k, put (octK c a k) ((numsL c a).getD k 0) (octsAt k) = octK c a (k + 1) := fun k => rfl
  have h0 : octK c a 0 = [] := rfl
  obtain ⟨W, eW⟩ : ∃ W, W = (w.alloc (.cells #[.int .i64 c.s, .int .i64 c.o, .int .i64 c.t, .int .i64 c.f, .int .i64 c.d] 23)).alloc (.cells #[.int .i64 a.m, .int .i64 a.b, .bool a.st] 25) := ⟨_, rfl⟩
  have hb : Below w.heap.size w W := by rw [eW]; exact ((Below.refl _ w).alloc (Nat.le_refl _) _).alloc (by simp) _
  have hB0 : Blk W w.heap.size 23 #[.int .i64 c.s, .int .i64 c.o, .int .i64 c.t, .int .i64 c.f, .int .i64 c.d] := by rw [eW]; exact Blk.below (heap_alloc_new w _) ((Below.refl _ _).alloc (Nat.le_refl _) _) (by simp)
  have hB1 : Blk W (w.heap.size + 1) 25 #[.int .i64 a.m, .int .i64 a.b, .bool a.st] := by rw [eW]; exact heap_alloc2_new w _ _
  generalize octK c a = K at *
  generalize numsL c a = NL at *
  generalize octC c a = OC at *
  obtain ⟨s, o, t, f, d⟩ := c
  obtain ⟨m, b, st⟩ := a
  simp only at hC hI hN hB0 hB1 eW
  go_enter Tryd.func9, Tryd.ntmps9
  go_wp2_with fail
  rw [← eW]
  clear eW
  refine (hC W (hL.on hb)).mono ?_
  rintro e w1 ⟨rfl, hb1⟩
  have B0 := hB0.below hb1 hB0.lt
  have B1 := hB1.below hb1 hB1.lt
  have c0 := B0.cell 0
  have c1 := B0.cell 1
  have c2 := B0.cell 2
  have c3 := B0.cell 3
  have c4 := B0.cell 4
  have d0 := B1.cell 0
  have d1 := B1.cell 1
  have d2 := B1.cell 2
  have hb2 := hb.trans (hb1.mono hb.size)
  have hL1 := hL.on hb2
  go_wp2_with fail
  go_loopw [7, 8, 9, 31] (fun v _ _ i wr => ∃ (k : Nat) (A : Option Addr) (n cap : Nat), k ≤ 7 ∧ i = .int .i64 k ∧ v = .slice A n cap ∧ Oct wr wr.heap.size A n cap (K k) ∧ Below w1.heap.size w1 wr) (fun _ _ _ i _ => 7 - (intOf i).toNat)
  case atStart => exact ⟨0, none, 0, 0, by omega, rfl, rfl, by rw [h0]; exact Oct.nil _ _, Below.refl _ _⟩
  case round =>
    obtain ⟨k, A, n, cap, hk, rfl, rfl, ho, hbk⟩ := hrel
    have hlen := hM k hk
    have hn := ho.len
    have HN := Lib.hid hn
    have hn9 : n ≤ 9 := by omega
    clear hn hlen
    by_cases hlt : k < 7
    · have hIk := hI k hlt
      obtain ⟨s0, s1, s2⟩ := (hL1.on hbk).span k hlt
      have hP := fun W (hW : Oct W W.heap.size A n cap (K k)) => put_any (K k) A n cap (NL.getD k 0) (octsAt k) W hW (by omega)
      rw [hS k] at hP
      have t0 : decide ((k : Int) < 7) = true := decide_eq_true (by omega)
      have j0 : (0 : Int) ≤ (k : Int) := by omega
      have j1 : (k : Int) < 7 := by omega
      go_wp2_with fail
      refine (hP _ ho).mono ?_
      rintro e w2 ⟨A2, n2, cap2, rfl, ho2, hb3, -⟩
      go_wp2
      go_roundw
      case rel => exact ⟨k + 1, A2, n2, cap2, by omega, by go_num, rfl, ho2, hbk.trans (hb3.mono hbk.size)⟩
      case measure => simp [intOf]; omega
    · obtain rfl : k = 7 := by omega
      have e2 : wr.cell? ⟨w.heap.size + 1, 2, none⟩ = some (.bool st) := (hbk.cell B1.lt).trans d2
      have hf := fun w => flag_any st w
      have hP := fun W (hW : Oct W W.heap.size A n cap (K 7)) => put_any (K 7) A n cap (flagI st) 1 W hW (by omega)
      rw [hN] at hP
      clear d2
      go_wp2_with fail
      refine (hf _).mono ?_
      rintro e w2 ⟨rfl, rfl⟩
      go_wp2_with fail
      refine (hP _ ho).mono ?_
      rintro e w2 ⟨A2, n2, cap2, rfl, ho2, hb3, -⟩
      go_wp2
      go_ret2
      exact ⟨A2, n2, cap2, rfl, ho2, hb2.trans ((hbk.trans (hb3.mono hbk.size)).mono hb2.size)⟩
set_option maxRecDepth 100000 in
theorem confput_bad (c : Cfg) (a : Ask) (w : World) (hL : Laid w) (hg : chkB c a = 3) :
    Calls Tryd.prog 9 #[.agg #[.int .i64 c.s, .int .i64 c.o, .int .i64 c.t, .int .i64 c.f, .int .i64 c.d], .agg #[.int .i64 a.m, .int .i64 a.b, .bool a.st]] w fun e w' => e = .returned (.tuple #[.slice none 0 0, .int .i64 3]) ∧ Below w.heap.size w w' := by
  have hC := fun W hW => both_any c a W hW
  rw [hg] at hC
  obtain ⟨W, eW⟩ : ∃ W, W = (w.alloc (.cells #[.int .i64 c.s, .int .i64 c.o, .int .i64 c.t, .int .i64 c.f, .int .i64 c.d] 23)).alloc (.cells #[.int .i64 a.m, .int .i64 a.b, .bool a.st] 25) := ⟨_, rfl⟩
  have hb : Below w.heap.size w W := by rw [eW]; exact ((Below.refl _ w).alloc (Nat.le_refl _) _).alloc (by simp) _
  obtain ⟨s, o, t, f, d⟩ := c
  obtain ⟨m, b, st⟩ := a
  simp only at hC eW
  go_enter Tryd.func9, Tryd.ntmps9
  go_wp2_with fail
  rw [← eW]
  clear eW
  refine (hC W (hL.on hb)).mono ?_
  rintro e w1 ⟨rfl, hb1⟩
  go_wp2
  go_ret2
  exact ⟨rfl, hb.trans (hb1.mono hb.size)⟩
theorem six_own (w : World) (x0 x1 x2 x3 x4 x5 : Int) : (w.alloc (.cells #[.int .u8 x0, .int .u8 x1, .int .u8 x2, .int .u8 x3, .int .u8 x4, .int .u8 x5] 5)).ownsRow w.heap.size 5 1 (.slice (some ⟨w.heap.size, 0, none⟩) 6 6) 6 (nums [x0, x1, x2, x3, x4, x5]) := by
  refine ⟨rfl, .inr ⟨w.heap.size, 6, _, rfl, Nat.le_refl _, heap_alloc_new w _, by omega, by unfold maxLen; omega, rfl, ?_⟩⟩
  rfl
set_option maxRecDepth 100000 in
set_option maxHeartbeats 1000000 in
theorem refput14 (c : Cfg) (a : Ask) (w : World) :
    Calls Tryd.prog 13 #[.agg #[.int .i64 c.s, .int .i64 c.o, .int .i64 c.t, .int .i64 c.f, .int .i64 c.d], .agg #[.int .i64 a.m, .int .i64 a.b, .bool a.st]] w fun e w' => ∃ A n cap, e = .returned (.slice A n cap) ∧ Oct w' w'.heap.size A n cap (octC c a) ∧ Below w.heap.size w w' := by
  obtain ⟨i0, hi0, hz0, hz1, hz2⟩ := info_parts info5
  have Z0 := Lib.hid hz0
  have Z1 := Lib.hid hz1
  have Z2 := Lib.hid hz2
  have I0 := Lib.hid hi0
  clear hz0 hz1 hz2 hi0
  obtain ⟨s, o, t, f, d⟩ := c
  obtain ⟨m, b, st⟩ := a
  obtain ⟨W0, eW0⟩ : ∃ W, W = (w.alloc (.cells #[.int .i64 s, .int .i64 o, .int .i64 t, .int .i64 f, .int .i64 d] 23)).alloc (.cells #[.int .i64 m, .int .i64 b, .bool st] 25) := ⟨_, rfl⟩
  obtain ⟨W, eW⟩ : ∃ W, W = W0.alloc (.cells #[.int .u8 (s % 256), .int .u8 (o % 256), .int .u8 (t % 256), .int .u8 (f % 256), .int .u8 (d % 256), .int .u8 (m % 256)] 5) := ⟨_, rfl⟩
  have hb : Below w.heap.size w W0 := by rw [eW0]; exact ((Below.refl _ w).alloc (Nat.le_refl _) _).alloc (by simp) _
  have hB0 : Blk W0 w.heap.size 23 #[.int .i64 s, .int .i64 o, .int .i64 t, .int .i64 f, .int .i64 d] := by rw [eW0]; exact Blk.below (heap_alloc_new w _) ((Below.refl _ _).alloc (Nat.le_refl _) _) (by simp)
  have hB1 : Blk W0 (w.heap.size + 1) 25 #[.int .i64 m, .int .i64 b, .bool st] := by rw [eW0]; exact heap_alloc2_new w _ _
  have hb1 : Below W0.heap.size W0 W := by rw [eW]; exact (Below.refl _ W0).alloc (Nat.le_refl _) _
  have hown := six_own W0 (s % 256) (o % 256) (t % 256) (f % 256) (d % 256) (m % 256)
  rw [← eW] at hown
  have hsm : Small [s % 256, o % 256, t % 256, f % 256, d % 256, m % 256] := by
    intro x hx
    simp at hx
    omega
  obtain ⟨A0, cap0, hA0, ho0⟩ := Oct.own hown hsm
  have hP := ref_loop _ A0 6 cap0 b 3 W ho0 (by omega) (by omega) (by omega)
  rw [← hA0] at hP
  have hD1 : digs b 3 = digs b 3 := rfl
  have HOC : Hid (octC ⟨s, o, t, f, d⟩ ⟨m, b, st⟩ = [s % 256, o % 256, t % 256, f % 256, d % 256, m % 256] ++ digs b 3 ++ [flagI st]) := Lib.hid rfl
  have hs9 : ([s % 256, o % 256, t % 256, f % 256, d % 256, m % 256] ++ digs b 3).length = 9 := by simp [digs]
  have hsm9 := hsm.app (digs_small b 3)
  generalize [s % 256, o % 256, t % 256, f % 256, d % 256, m % 256] ++ digs b 3 = X at *
  have hs0 : W0.heap.size = w.heap.size + 1 + 1 := by rw [eW0]; simp
  have hs1 : W.heap.size = w.heap.size + 1 + 1 + 1 := by rw [eW]; simp [hs0]
  clear hown hA0 ho0 hsm hD1
  rw [hs0] at hP
  have B1 := hB1.below hb1 hB1.lt
  have hb2 := hb.trans (hb1.mono hb.size)
  have EW : Hid (W = ((w.alloc (.cells #[.int .i64 s, .int .i64 o, .int .i64 t, .int .i64 f, .int .i64 d] 23)).alloc (.cells #[.int .i64 m, .int .i64 b, .bool st] 25)).alloc (.cells #[.int .u8 (s % 256), .int .u8 (o % 256), .int .u8 (t % 256), .int .u8 (f % 256), .int .u8 (d % 256), .int .u8 (m % 256)] 5)) := Lib.hid (by rw [eW, eW0])
  clear eW eW0
  go_enter Tryd.func13, Tryd.ntmps13
  go_wp2_with fail
  rw [← EW.out]
  refine hP.mono ?_
  rintro e w1 ⟨A1, n1, cap1, rfl, ho1, hb3, hown1⟩
  have d2 : w1.cell? ⟨w.heap.size + 1, 2, none⟩ = some (.bool st) := (B1.below hb3 B1.lt).cell 2
  have hln := ho1.len
  have hn9 : n1 = 9 := by omega
  subst hn9
  have hsz := hb3.size
  have hb4 := hb2.trans (hb3.mono hb2.size)
  clear hP hB0 hB1 EW hln
  cases st
  all_goals go_wp2_with (first
    | (at_builtin; refine wpList_append_own _ rfl (.tmp 31) (.tmp 32) 29 rfl W.heap.size 5 i0 (.int .u8 0) 1 1 Tryd.underlying29 I0.out Z0.out Z1.out Z2.out rfl (by decide) _ _ _ rfl (hown1.alloc _) ⟨w1.heap.size, 0, none⟩ 1 1 [.int .u8 1] rfl rfl (cell_one_new _ _ _) (by simp [Value.oneCell']) (by unfold maxLen; omega) (by omega) (by simp; omega) ?_; intro v' w2 hown2 hg2 _)
    | (at_builtin; refine wpList_append_own _ rfl (.tmp 34) (.tmp 35) 29 rfl W.heap.size 5 i0 (.int .u8 0) 1 1 Tryd.underlying29 I0.out Z0.out Z1.out Z2.out rfl (by decide) _ _ _ rfl (hown1.alloc _) ⟨w1.heap.size, 0, none⟩ 1 1 [.int .u8 0] rfl rfl (cell_one_new _ _ _) (by simp [Value.oneCell']) (by unfold maxLen; omega) (by omega) (by simp; omega) ?_; intro v' w2 hown2 hg2 _))
  all_goals go_ret
  all_goals
    have hb5 : Below w.heap.size w w2 := (hb4.alloc hb4.size _).grown hg2 (by have := hb4.size; simp; omega) (fun g hv => by have := (hown1.lt g hv).1; omega)
    rw [HOC.out]
  · obtain ⟨A', cap', he, ho⟩ := Oct.own (xs := X ++ [0]) (by simpa [nums] using hown2) (hsm9.app (by intro x hx; simp at hx; omega))
    exact ⟨A', _, cap', by rw [← he]; rfl, ho, hb5⟩
  · obtain ⟨A', cap', he, ho⟩ := Oct.own (xs := X ++ [1]) (by simpa [nums] using hown2) (hsm9.app (by intro x hx; simp at hx; omega))
    exact ⟨A', _, cap', by rw [← he]; rfl, ho, hb5⟩
end Go.Proofs.YtmkdmnaonddghaaDoor
