/- The contract of a source's thread: the next thread, or the panic that tells where, and what, is wrong. Conditions: at most 2000 octets; the variable 'rows' lies as it is laid. -/
import Derived.Test.YtcbekkbhhepeaaaDoorThr
namespace Go.Proofs.YtcbekkbhhepeaaaDoor
open Go.RowKit

def Thrs (xs : List Int) (g a : Nat) (w : World) (p : Except (Int × Nat) (List Ins)) (e : Ending) (w' : World) : Prop :=
  match p with
  | .ok l => ∃ A cap, e = .returned (.slice A l.length cap) ∧ w'.ownsRow w.heap.size 45 5 (.slice A l.length cap) l.length (flat5 l) ∧ Rd w' g xs (a + 1 + 12 * l.length) true ∧ w.grownBy w' (some g)
  | .error err => Fails err g w e w'

set_option maxRecDepth 100000 in
set_option maxHeartbeats 2000000 in
theorem thread_any {w : World} {g : Nat} {xs : List Int} {a : Nat} (h : Rd w g xs a true) (hg : 1 ≤ g) (hL : Laid w) (r c s : Int) (B : Option Addr) (l m : Nat) :
    Calls Tryd.prog 43 #[.agg #[.pointer (some ⟨g, 0, none⟩)], .agg #[.int .i64 r, .int .i64 c, .int .i64 s, .slice B l m]] w (Thrs xs g a w (thrP xs a r s)) := by
  obtain ⟨i0, hi0, hz0, hz1, hz2⟩ := info_parts info45
  have Z0 := Lib.hid hz0
  have Z1 := Lib.hid hz1
  have Z2 := Lib.hid hz2
  have I0 := Lib.hid hi0
  clear hz0 hz1 hz2 hi0
  have hlt := h.lt
  obtain ⟨W0, eW0⟩ : ∃ W0, W0 = (w.alloc (.cells #[.pointer (some ⟨g, 0, none⟩)] 57)).alloc (.cells #[.int .i64 r, .int .i64 c, .int .i64 s, .slice B l m] 24) := ⟨_, rfl⟩
  have b0 : Below w.heap.size w W0 := by rw [eW0]; exact ((Below.refl _ w).alloc (Nat.le_refl _) _).alloc (by simp) _
  have s0 : W0.heap.size = w.heap.size + 2 := by rw [eW0]; simp
  have q1 : Blk W0 w.heap.size 57 #[.pointer (some ⟨g, 0, none⟩)] := by
    rw [eW0]
    exact Blk.below (heap_alloc_new w _) ((Below.refl _ _).alloc (Nat.le_refl _) _) (by simp)
  have q2 : Blk W0 (w.heap.size + 1) 24 #[.int .i64 r, .int .i64 c, .int .i64 s, .slice B l m] := by
    rw [eW0]
    exact heap_alloc2_new w _ _
  have hR := h.below b0 h.lt
  have hN := number_any 0 16 4 hR
  have c0 := q1.cell 0
  have HS0 := Lib.hid s0
  clear s0
  cases hnum : num1 xs a 0 16 4 with
  | error err =>
    have HE : Hid (thrP xs a r s = .error err) := Lib.hid (by unfold thrP; rw [hnum])
    rw [hnum] at hN
    have hbg := below_grown b0 (some g)
    clear hnum
    go_enter Tryd.func43, Tryd.ntmps43
    go_wp2_with fail
    rw [← eW0]
    clear eW0
    go_wp2_with fail
    refine hN.mono ?_
    rintro e w1 ⟨rfl, hg1⟩
    have HQ := Lib.hid (grown_trans hbg hg1)
    clear hbg hg1 hN c0
    go_wp2
    refine ⟨rfl, ?_⟩
    rw [HE.out]
    exact ⟨rfl, HQ.out⟩
  | ok k =>
    have hk : 0 ≤ k ∧ k ≤ 16 := by
      unfold num1 at hnum
      split at hnum
      · cases hnum
      · split at hnum
        · injection hnum with hnum
          subst hnum
          assumption
        · cases hnum
    obtain ⟨n, rfl⟩ : ∃ n : Nat, k = n := ⟨k.toNat, by omega⟩
    have HE : Hid (thrP xs a r s = andL [] (thrI xs r s n n (a + 1 + 12 * 0))) := Lib.hid (by unfold thrP; rw [hnum, andL_nil]; rfl)
    rw [hnum] at hN
    have hn16 : n ≤ 16 := by omega
    have n0 : (0 : Int) ≤ (n : Int) := by omega
    have n1 : (n : Int) ≤ 16 := by omega
    clear hnum hk
    go_enter Tryd.func43, Tryd.ntmps43
    go_wp2_with fail
    rw [← eW0]
    clear eW0
    go_wp2_with fail
    refine hN.mono ?_
    rintro e w1 ⟨rfl, hr1, hg1⟩
    go_wp2_with (first
      | (at_make; refine wpList_make_full _ rfl _ _ 46 rfl w1.heap.size 45 i0 (.agg #[.int .i64 0, .int .i64 0, .int .i64 0, .int .i64 0, .int .i64 0]) 5 Tryd.underlying46 I0.out Z0.out Z1.out .i64 .i64 _ _ n rfl rfl rfl rfl (by rw [Z2.out]; omega) (by unfold maxLen; omega) (Nat.le_refl _) ?_; intro W2 hown2 hg2))
    obtain ⟨H, eH⟩ : ∃ H, w1.heap.size = H := ⟨_, rfl⟩
    rw [eH] at hown2 ⊢
    have hH : w.heap.size + 2 ≤ H := by rw [← eH, ← HS0.out]; exact hg1.size
    have hH2 : H < W2.heap.size := (hown2.lt H rfl).2
    have HH := Lib.hid (And.intro hH hH2)
    have k1 : ∀ {b : Nat} {t : TypeId} {cs : Array Value}, Blk W0 b t cs → b ≠ g → Blk W2 b t cs := fun hb hne => (hg2.block _ (Nat.lt_of_lt_of_le hb.lt hg1.size) (by simp)).trans ((hg1.block _ hb.lt (by intro e; injection e with e; exact hne e)).trans hb)
    have Q1 := k1 q1 (by omega)
    have Q2 := k1 q2 (by omega)
    have g02 : w.grownBy W2 (some g) := grown_trans (below_grown b0 _) ⟨hg2.os.trans hg1.os, hg2.tape.trans hg1.tape, hg2.output.trans hg1.output, Nat.le_trans hg1.size hg2.size, fun i hi hne => (hg2.block i (Nat.lt_of_lt_of_le hi hg1.size) (by simp)).trans (hg1.block i hi hne)⟩
    have hL2 := hL.grown g02 hg
    have HR2 : Hid (Rd W2 g xs (a + 1 + 12 * 0) true ∧ W2.ownsRow H 45 5 (.slice (some ⟨H, 0, none⟩) n n) n (flat5 ([] ++ List.replicate (n - 0) ins0))) := Lib.hid ⟨by
      exact hr1.far fun b hb => hg2.block b (by have := hr1.lt; omega) (by simp), by
      rw [List.nil_append, Nat.sub_zero, ← made_zero]
      exact hown2⟩
    clear hown2 hg2 k1 q1 q2 hR c0 hH hH2 eH HS0 b0 hN hr1 hg1
    go_wp2_with fail
    go_loopw [12] (fun i wr => ∃ (j : Nat) (pre : List Ins), i = .int .i64 j ∧ j ≤ n ∧ pre.length = j ∧ Rd wr g xs (a + 1 + 12 * j) true ∧ Two W2 wr g H ∧ wr.ownsRow H 45 5 (.slice (some ⟨H, 0, none⟩) n n) n (flat5 (pre ++ List.replicate (n - j) ins0)) ∧ thrP xs a r s = andL pre (thrI xs r s n (n - j) (a + 1 + 12 * j))) (fun i _ => n - (intOf i).toNat)
    case atStart => exact ⟨0, [], rfl, Nat.zero_le _, rfl, HR2.out.1, Two.refl _ _ _, HR2.out.2, HE.out⟩
    case round =>
      obtain ⟨j, pre, rfl, hj, hpre, hr, hT, hown, hE⟩ := hrel
      clear HR2 HE
      generalize wr = w4 at *
      obtain ⟨hH, hH2⟩ := HH.out
      have R1 := Two.blk Q1 hT (by omega) (by omega)
      have R2 := Two.blk Q2 hT (by omega) (by omega)
      have hb := Two.back g02 hT (by omega)
      clear hH hH2
      have HP := Lib.hid hpre
      have HE := Lib.hid hE
      clear hE hpre
      by_cases hlt : j < n
      · have t0 : decide ((j : Int) < (n : Int)) = true := decide_eq_true (by omega)
        have j0 : (0 : Int) ≤ (j : Int) := by omega
        have j1 : (j : Int) < (n : Int) := by omega
        have c0 := R1.cell 0
        have z0 := R2.cell 0
        have z1 := R2.cell 1
        have z2 := R2.cell 2
        have z3 := R2.cell 3
        have hI := instr_any hr hg (hL.grown hb hg) r c s n B l m
        obtain ⟨q, hq⟩ : ∃ q, n - j = q + 1 := ⟨n - j - 1, by omega⟩
        have hq2 : n - (j + 1) = q := by omega
        have HQ2 := Lib.hid (And.intro hq hq2)
        clear hq hq2
        cases hins : insP xs (a + 1 + 12 * j) r s n with
        | error err =>
          rw [hins] at hI
          have HX : Hid (thrP xs a r s = .error err) := Lib.hid (by rw [HE.out, HQ2.out.1, thrI_stop hins])
          clear hins hr hT hown R1 R2
          go_wp2_with fail
          refine hI.mono ?_
          rintro e w5 ⟨rfl, hg5⟩
          have HQ := Lib.hid (grown_trans hb hg5)
          clear hb hg5 hI c0 z0 z1 z2 z3
          go_wp2
          refine ⟨rfl, ?_⟩
          rw [HX.out]
          exact ⟨rfl, HQ.out⟩
        | ok x =>
          rw [hins] at hI
          have HX : Hid (thrP xs a r s = andL (pre ++ [x]) (thrI xs r s n (n - (j + 1)) (a + 1 + 12 * (j + 1)))) := Lib.hid (by
            rw [HE.out, HQ2.out.1, thrI_step hins, HQ2.out.2]
            rfl)
          clear hins hr R1 R2
          go_wp2_with fail
          refine hI.mono ?_
          rintro e w5 ⟨rfl, hr5, hg5⟩
          clear c0 z0 z1 z2 z3 hI
          obtain ⟨hH, hH2⟩ := HH.out
          have hHg : H ≠ g := by omega
          have own5 := hown.kept hg5 (.inr (by show some H ≠ some g; intro e; injection e with e; exact hHg e))
          have ht := own_there own5 hlt
          have hjl : j < (pre ++ List.replicate (n - j) ins0).length := by rw [List.length_append, HP.out, List.length_replicate]; omega
          have own6 := own_set5 (x := x) own5 hjl
          have hset : (pre ++ List.replicate (n - j) ins0).set j x = (pre ++ [x]) ++ List.replicate (n - (j + 1)) ins0 := by
            rw [HQ2.out.1, HQ2.out.2, List.set_append_right _ _ (by rw [HP.out]; exact Nat.le_refl _), HP.out, Nat.sub_self, List.replicate_succ, List.set_cons_zero, List.append_assoc]
            rfl
          rw [hset] at own6
          have hr6 : Rd (w5.setCells H (j * 5) (five5 x)) g xs (a + 1 + 12 * (j + 1)) true := hr5.far fun b hb => heap_cells w5 H b (by omega) _ _
          have hT6 := (hT.grown hg5).cells (i := j * 5) (five5 x)
          have HQ := Lib.hid (And.intro hr6 (And.intro hT6 own6))
          clear hr6 hT6 own6 own5 hown hT hr5 hg5 hH hH2 hHg hset hjl hb
          obtain ⟨u0, e0⟩ := Option.isSome_iff_exists.1 (ht 0 (by omega)).1
          obtain ⟨u1, e1⟩ := Option.isSome_iff_exists.1 (ht 1 (by omega)).1
          obtain ⟨u2, e2⟩ := Option.isSome_iff_exists.1 (ht 2 (by omega)).1
          obtain ⟨u3, e3⟩ := Option.isSome_iff_exists.1 (ht 3 (by omega)).1
          obtain ⟨u4, e4⟩ := Option.isSome_iff_exists.1 (ht 4 (by omega)).1
          have f0 := (ht 0 (by omega)).2
          have f1 := (ht 1 (by omega)).2
          have f2 := (ht 2 (by omega)).2
          have f3 := (ht 3 (by omega)).2
          have f4 := (ht 4 (by omega)).2
          rw [Nat.add_zero] at e0 f0
          clear ht
          go_wp2
          go_roundw
          case rel => exact ⟨j + 1, pre ++ [x], by go_num, by omega, by rw [List.length_append, HP.out]; rfl, HQ.out.1, HQ.out.2.1, HQ.out.2.2, HX.out⟩
          case measure => simp [intOf]; omega
      · obtain rfl : j = n := by omega
        have HX : Hid (thrP xs a r s = .ok pre) := Lib.hid (by rw [HE.out, Nat.sub_self, thrI, andL, List.append_nil])
        rw [Nat.sub_self, List.replicate_zero, List.append_nil] at hown
        obtain ⟨hH, hH2⟩ := HH.out
        have HQ := Lib.hid (And.intro (own_mono hown (show w.heap.size ≤ H by omega)) (And.intro hr hb))
        clear hown hr hb R1 R2 hT hH hH2
        go_wp2
        go_ret
        rw [HX.out]
        have e1 := HP.out
        subst e1
        exact ⟨_, _, rfl, HQ.out.1, HQ.out.2.1, HQ.out.2.2⟩
end Go.Proofs.YtcbekkbhhepeaaaDoor
