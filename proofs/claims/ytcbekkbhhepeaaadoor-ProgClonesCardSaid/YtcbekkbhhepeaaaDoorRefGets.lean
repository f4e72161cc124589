/- The contract of the plain parser: a whole program's octets. Conditions: at most 2000 octets. -/
import Derived.Test.YtcbekkbhhepeaaaDoorRefThrWalk
namespace Go.Proofs.YtcbekkbhhepeaaaDoor
open Go.RowKit
set_option linter.unusedSimpArgs false

theorem num1_nz {xs : List Int} {i : Nat} {lo hi why : Int} {err : Int × Nat} (hw : why ≠ 0) (h : num1 xs i lo hi why = .error err) : err.1 ≠ 0 := by
  rcases num1_err h with ⟨rfl, _⟩ | ⟨_, _, _, rfl⟩
  · show (1 : Int) ≠ 0
    decide
  · exact hw
theorem headP_nz {xs : List Int} {err : Int × Nat} (h : headP xs = .error err) : err.1 ≠ 0 := by
  cases h0 : num1 xs 0 83 83 1 with
  | error e => rw [headP_0 h0] at h; injection h with h; exact h ▸ num1_nz (by decide) h0
  | ok v0 =>
  cases h1 : num1 xs 1 0 4 3 with
  | error e => rw [headP_1 h0 h1] at h; injection h with h; exact h ▸ num1_nz (by decide) h1
  | ok v1 =>
  cases h2 : num1 xs 2 0 6 3 with
  | error e => rw [headP_2 h0 h1 h2] at h; injection h with h; exact h ▸ num1_nz (by decide) h2
  | ok v2 =>
  cases h3 : num1 xs 3 0 2 3 with
  | error e => rw [headP_3 h0 h1 h2 h3] at h; injection h with h; exact h ▸ num1_nz (by decide) h3
  | ok v3 =>
  cases h4 : num1 xs 4 1 4 4 with
  | error e => rw [headP_4 h0 h1 h2 h3 h4] at h; injection h with h; exact h ▸ num1_nz (by decide) h4
  | ok v4 => rw [headP_5 h0 h1 h2 h3 h4] at h; cases h
theorem insP_nz {xs : List Int} {a : Nat} {r s k : Int} {err : Int × Nat} (h : insP xs a r s k = .error err) : err.1 ≠ 0 := by
  unfold insP at h
  split at h
  · injection h with h; rw [← h]; show (1 : Int) ≠ 0; decide
  · split at h
    · cases h
    · rename_i hz
      injection h with h
      rw [← h]
      exact hz
theorem insP_le {xs : List Int} {a : Nat} {r s k : Int} {x : Ins} (h : insP xs a r s k = .ok x) : a + 12 ≤ xs.length := by
  unfold insP at h
  split at h
  · cases h
  · omega
theorem thrI_nz {xs : List Int} {r s k : Int} {err : Int × Nat} : ∀ {j a : Nat}, thrI xs r s k j a = .error err → err.1 ≠ 0
  | 0, a, h => by rw [thrI] at h; cases h
  | j + 1, a, h => by
    rw [thrI] at h
    split at h
    · rename_i e he
      injection h with h
      exact h ▸ insP_nz he
    · split at h
      · rename_i e he
        injection h with h
        exact h ▸ thrI_nz he
      · cases h
theorem thrI_le {xs : List Int} {r s k : Int} : ∀ {j a : Nat} {l : List Ins}, a ≤ xs.length → thrI xs r s k j a = .ok l → a + 12 * l.length ≤ xs.length
  | 0, a, l, ha, h => by
    rw [thrI] at h
    injection h with h
    subst h
    simpa using ha
  | j + 1, a, l, ha, h => by
    rw [thrI] at h
    split at h
    · cases h
    · rename_i x hx
      split at h
      · cases h
      · rename_i l' hl
        injection h with h
        subst h
        have := thrI_le (insP_le hx) hl
        rw [List.length_cons]
        omega
theorem thrP_nz {xs : List Int} {a : Nat} {r s : Int} {err : Int × Nat} (h : thrP xs a r s = .error err) : err.1 ≠ 0 := by
  unfold thrP at h
  split at h
  · rename_i e he
    injection h with h
    exact h ▸ num1_nz (by decide) he
  · exact thrI_nz h
theorem thrP_le {xs : List Int} {a : Nat} {r s : Int} {l : List Ins} (h : thrP xs a r s = .ok l) : a + (1 + 12 * l.length) ≤ xs.length := by
  unfold thrP at h
  split at h
  · cases h
  · rename_i k hk
    have hx := (num1_in hk).2.2
    have := (List.getElem?_eq_some_iff.1 hx).1
    have := thrI_le (by omega) h
    omega
theorem headP_ok {xs : List Int} {r c s n : Int} (h : headP xs = .ok (r, c, s, n)) : num1 xs 4 1 4 4 = .ok n ∧ getP xs = bodyP xs r c s n ∧ (0 ≤ r ∧ r ≤ 4) ∧ (0 ≤ s ∧ s ≤ 2) := by
  cases h0 : num1 xs 0 83 83 1 with
  | error e => rw [headP_0 h0] at h; cases h
  | ok v0 =>
  cases h1 : num1 xs 1 0 4 3 with
  | error e => rw [headP_1 h0 h1] at h; cases h
  | ok v1 =>
  cases h2 : num1 xs 2 0 6 3 with
  | error e => rw [headP_2 h0 h1 h2] at h; cases h
  | ok v2 =>
  cases h3 : num1 xs 3 0 2 3 with
  | error e => rw [headP_3 h0 h1 h2 h3] at h; cases h
  | ok v3 =>
  cases h4 : num1 xs 4 1 4 4 with
  | error e => rw [headP_4 h0 h1 h2 h3 h4] at h; cases h
  | ok v4 =>
    rw [headP_5 h0 h1 h2 h3 h4] at h
    injection h with h
    injection h with e1 h
    injection h with e2 h
    injection h with e3 e4
    subst e1 e2 e3 e4
    have a1 := num1_in h1
    have a3 := num1_in h3
    exact ⟨rfl, getP_5 h0 h1 h2 h3 h4, ⟨a1.1, a1.2.1⟩, ⟨a3.1, a3.2.1⟩⟩
theorem headP_fail {xs : List Int} {err : Int × Nat} (h : headP xs = .error err) : getP xs = .error err := by
  cases h0 : num1 xs 0 83 83 1 with
  | error e => rw [headP_0 h0] at h; rw [getP_0 h0]; injection h with h; rw [h]
  | ok v0 =>
  cases h1 : num1 xs 1 0 4 3 with
  | error e => rw [headP_1 h0 h1] at h; rw [getP_1 h0 h1]; injection h with h; rw [h]
  | ok v1 =>
  cases h2 : num1 xs 2 0 6 3 with
  | error e => rw [headP_2 h0 h1 h2] at h; rw [getP_2 h0 h1 h2]; injection h with h; rw [h]
  | ok v2 =>
  cases h3 : num1 xs 3 0 2 3 with
  | error e => rw [headP_3 h0 h1 h2 h3] at h; rw [getP_3 h0 h1 h2 h3]; injection h with h; rw [h]
  | ok v3 =>
  cases h4 : num1 xs 4 1 4 4 with
  | error e => rw [headP_4 h0 h1 h2 h3 h4] at h; rw [getP_4 h0 h1 h2 h3 h4]; injection h with h; rw [h]
  | ok v4 => rw [headP_5 h0 h1 h2 h3 h4] at h; cases h
theorem bodyP_err {xs : List Int} {r c s n : Int} {err : Int × Nat} (h : thrs xs r s n.toNat 5 = .error err) : bodyP xs r c s n = .error err := by
  unfold bodyP
  rw [h]
theorem bodyP_far {xs : List Int} {r c s n : Int} {m : List (List Ins)} (h : thrs xs r s n.toNat 5 = .ok m) (hl : 5 + sizeM m < xs.length) : bodyP xs r c s n = .error (1, 5 + sizeM m) := by
  unfold bodyP
  rw [h]
  exact if_pos hl
theorem bodyP_ok {xs : List Int} {r c s n : Int} {m : List (List Ins)} (h : thrs xs r s n.toNat 5 = .ok m) (hl : ¬ 5 + sizeM m < xs.length) : bodyP xs r c s n = .ok ⟨r, c, s, m⟩ := by
  unfold bodyP
  rw [h]
  exact if_neg hl
def RGets (xs : List Int) (w : World) (p : Except (Int × Nat) Pr) (e : Ending) (w' : World) : Prop :=
  match p with
  | .error err => e = .returned (.agg (got 0 0 0 none 0 0 (err.2 : Int) err.1)) ∧ Below w.heap.size w w'
  | .ok p => ∃ A n cap, e = .returned (.agg (got p.r p.c p.s A n cap (xs.length : Int) 0)) ∧ Mat w' (From w' w.heap.size) A n cap p.m ∧ Below w.heap.size w w'

set_option maxRecDepth 100000 in
set_option maxHeartbeats 4000000 in
theorem refgets_any {w : World} {A : Option Addr} {n cap : Nat} {xs : List Int} (h : Oct w w.heap.size A n cap xs) (hn2 : n ≤ 2000) :
    Calls Tryd.prog 15 #[.slice A n cap] w (RGets xs w (getP xs)) := by
  have hlen := Lib.hid h.len
  have hm := len_i64 h.room h.most
  have hsm := Lib.hid h.small
  obtain ⟨W0, eW0⟩ : ∃ W0, W0 = w.alloc (.cells #[.int .i64 0, .int .i64 0, .int .i64 0, .slice none 0 0, .int .i64 0, .int .i64 0] 38) := ⟨_, rfl⟩
  have b0 : Below w.heap.size w W0 := by rw [eW0]; exact (Below.refl _ w).alloc (Nat.le_refl _) _
  have q0 : Blk W0 w.heap.size 38 (got 0 0 0 none 0 0 0 0) := by rw [eW0]; exact heap_alloc_new w _
  have hO := h.below b0
  have hH := head_any (hO.more b0.size)
  go_enter Tryd.func15, Tryd.ntmps15
  go_wp2_with fail
  rw [← eW0]
  clear eW0 h
  go_wp2_with fail
  refine hH.mono ?_
  clear hH
  intro e w1 hE
  cases hp : headP xs with
  | error err =>
    rw [hp] at hE
    obtain ⟨rfl, hb1⟩ := hE
    have HE := Lib.hid (headP_fail hp)
    obtain ⟨e1, e2⟩ := err
    have g0 : (e1 != (0 : Int)) = true := by have := headP_nz hp; simpa using this
    have hb2 := b0.trans (hb1.mono b0.size)
    have q1 : Blk (w1.alloc (.cells (got 0 0 0 none 0 0 (e2 : Int) e1) 38)) w.heap.size 38 (got 0 0 0 none 0 0 0 0) :=
      (q0.below hb1 q0.lt).below ((Below.refl _ _).alloc (Nat.le_refl _) _) (Nat.lt_of_lt_of_le q0.lt hb1.size)
    have HF : Hid (Below w.heap.size w ((w1.alloc (.cells (got 0 0 0 none 0 0 (e2 : Int) e1) 38)).setRow w.heap.size (got 0 0 0 none 0 0 (e2 : Int) e1))) := Lib.hid (below_setRow (hb2.alloc hb2.size _) (Nat.le_refl _) _)
    clear hb1 hb2 q0 b0 hO hp
    unfold got
    go_wp2_with (refine wpList_store_row rfl 38 (.tmp 2) (.tmp 10) rfl w.heap.size (got 0 0 0 none 0 0 (e2 : Int) e1) rfl rfl 38 (got 0 0 0 none 0 0 0 0) q1 info38 rfl (got_one 0 0 0 none 0 0 (e2 : Int) e1) ?_)
    refine bodyPost_ret (results_cell_row (cs := got 0 0 0 none 0 0 (e2 : Int) e1) rfl _ _ w.heap.size 38 (0, 0) _ rfl (setRow_heap _ _ _ _ _ _ q1) Tryd.underlying38 rfl info38) rfl ?_
    rw [HE.out]
    exact ⟨rfl, HF.out⟩
  | ok q =>
    obtain ⟨r, c, s, k⟩ := q
    rw [hp] at hE
    obtain ⟨rfl, hb1⟩ := hE
    obtain ⟨h4, hG, hr, hs⟩ := headP_ok hp
    obtain ⟨k1, k4, hx4⟩ := num1_in h4
    obtain ⟨t, rfl⟩ : ∃ t : Nat, k = t := ⟨k.toNat, by omega⟩
    have hn5 : 5 ≤ n := by have := (List.getElem?_eq_some_iff.1 hx4).1; have := hlen.out; omega
    obtain ⟨ad, rfl⟩ : ∃ ad, A = some ad := by cases A with | none => (have := hO.zero.1; omega) | some ad => exact ⟨ad, rfl⟩
    obtain ⟨Z, eZ⟩ : ∃ Z, w1.heap.size = Z := ⟨_, rfl⟩
    obtain ⟨W2, eW2⟩ : ∃ W2, W2 = w1.alloc (.cells #[.int .i64 r, .int .i64 c, .int .i64 s, .slice none 0 0, .int .i64 5, .int .i64 0] 38) := ⟨_, rfl⟩
    have a2 : Below w1.heap.size w1 W2 := by rw [eW2]; exact (Below.refl _ _).alloc (Nat.le_refl _) _
    have hb2 : Below w.heap.size w W2 := (b0.trans (hb1.mono b0.size)).trans (a2.mono (Nat.le_trans b0.size hb1.size))
    have q2 : Blk W2 w.heap.size 38 (got 0 0 0 none 0 0 0 0) := (q0.below hb1 q0.lt).below a2 (Nat.lt_of_lt_of_le q0.lt hb1.size)
    have z2 : Blk W2 Z 38 (got r c s none 0 0 5 0) := by rw [eW2, ← eZ]; exact heap_alloc_new w1 _
    have s2 : W2.heap.size = Z + 1 := by rw [eW2, size_alloc, eZ]
    have hZ : w.heap.size < Z := by rw [← eZ]; exact Nat.lt_of_lt_of_le q0.lt hb1.size
    have hO2 := hO.below ((hb1.trans (a2.mono hb1.size)).mono b0.size)
    have c4 := (hO2.cell ad rfl 4 (by omega)).2
    rw [List.getD_eq_getElem?_getD, hx4, Option.getD_some] at c4
    have t4 : (4 : Int) < (n : Int) := by omega
    have HG := Lib.hid hG
    have HRS := Lib.hid (And.intro hr hs)
    have HX := Lib.hid hx4
    have hO0 := Lib.hid hO2
    clear hb1 q0 b0 hO hp hG h4 hr hs a2 hx4 hO2
    unfold got
    go_wp2_with fail
    rw [← eW2]
    clear eW2
    go_wp2_with fail
    go_loopw [4] (fun i wr => ∃ (j a : Nat) (pre : List (List Ins)) (A3 : Option Addr) (cap3 : Nat), i = .int .i64 j ∧ j ≤ t ∧ a = 5 + sizeM pre ∧ a ≤ n ∧ Blk wr Z 38 (got r c s A3 j cap3 (a : Int) 0) ∧ OwnR wr (Z + 1) (.slice A3 j cap3) j pre ∧ Below w.heap.size w wr ∧ Z + 1 ≤ wr.heap.size ∧ Blk wr w.heap.size 38 (got 0 0 0 none 0 0 0 0) ∧ Oct wr w.heap.size (some ad) n cap xs ∧ thrs xs r s t 5 = andL pre (thrs xs r s (t - j) a)) (fun i _ => t - (intOf i).toNat)
    case atStart => exact ⟨0, 5, [], none, 0, rfl, Nat.zero_le _, rfl, hn5, z2, OwnR.nil _ _, hb2, by omega, q2, hO0.out, by rw [andL_nil]; rfl⟩
    case round =>
      obtain ⟨j, a, pre, A3, cap3, rfl, hj, ha, han, hz, hown, hb, hsz, hq, hO, hE⟩ := hrel
      generalize wr = w4 at *
      have hE2 := hE
      have c4' := (hO.cell ad rfl 4 (by omega)).2
      rw [List.getD_eq_getElem?_getD, HX.out, Option.getD_some] at c4'
      change w4.cell? ⟨ad.block, ad.off + 4, none⟩ = _ at c4'
      clear c4 z2 q2 hb2 hE
      have z0 : w4.cell? ⟨Z, 0, none⟩ = some (.int .i64 r) := hz.cell 0
      have z1 : w4.cell? ⟨Z, 1, none⟩ = some (.int .i64 c) := hz.cell 1
      have z2 : w4.cell? ⟨Z, 2, none⟩ = some (.int .i64 s) := hz.cell 2
      have z3 : w4.cell? ⟨Z, 3, none⟩ = some (.slice A3 j cap3) := hz.cell 3
      have z4 : w4.cell? ⟨Z, 4, none⟩ = some (.int .i64 (a : Int)) := hz.cell 4
      have z5 : w4.cell? ⟨Z, 5, none⟩ = some (.int .i64 0) := hz.cell 5
      have HA := Lib.hid ha
      have HE := Lib.hid hE2
      clear ha hE2
      by_cases hjt : j < t
      · have u0 : decide ((j : Int) < (t : Int)) = true := decide_eq_true (by omega)
        have hC := refthread_any (hO.more hb.size) hn2 r c s HRS.out.1 HRS.out.2 hown hsz (by omega) a (by omega)
        go_wp2_with fail
        refine hC.mono ?_
        clear hC
        intro e w5 hR
        obtain ⟨y, hy1, hy2⟩ : ∃ y, t - j = y + 1 ∧ t - (j + 1) = y := ⟨t - j - 1, by omega, by omega⟩
        have HY := Lib.hid (And.intro hy1 hy2)
        clear hy1 hy2
        cases hth : thrP xs a r s with
        | error err =>
          rw [hth] at hR
          obtain ⟨rfl, hb5⟩ := hR
          obtain ⟨e1, e2⟩ := err
          have g0 : (e1 != (0 : Int)) = true := by have := thrP_nz hth; simpa using this
          have HW : Hid (getP xs = .error (e1, e2)) := Lib.hid (by rw [HG.out]; exact bodyP_err (by rw [Int.toNat_natCast, HE.out, HY.out.1]; exact thrs_stop hth))
          have Z5 : Blk w5 Z 38 (got r c s A3 j cap3 (a : Int) 0) := (hb5.block Z (by omega)).trans hz
          have Q5 : Blk w5 w.heap.size 38 (got 0 0 0 none 0 0 0 0) := (hb5.block w.heap.size (by omega)).trans hq
          obtain ⟨v, ev⟩ : ∃ v, v = w5.setRow Z (got 0 0 0 none 0 0 (e2 : Int) e1) := ⟨_, rfl⟩
          have ZV : Blk v Z 38 (got 0 0 0 none 0 0 (e2 : Int) e1) := by rw [ev]; exact setRow_heap _ _ _ _ _ _ Z5
          have QV : Blk v w.heap.size 38 (got 0 0 0 none 0 0 0 0) := by rw [ev]; exact (setRow_other _ _ _ _ (by omega)).trans Q5
          have HF : Hid (Below w.heap.size w (v.setRow w.heap.size (got 0 0 0 none 0 0 (e2 : Int) e1))) := Lib.hid (below_setRow (by rw [ev]; exact below_setRow (hb.trans (hb5.mono (by omega))) (by omega) _) (Nat.le_refl _) _)
          have y0 : v.cell? ⟨Z, 0, none⟩ = some (.int .i64 0) := ZV.cell 0
          have y1 : v.cell? ⟨Z, 1, none⟩ = some (.int .i64 0) := ZV.cell 1
          have y2 : v.cell? ⟨Z, 2, none⟩ = some (.int .i64 0) := ZV.cell 2
          have y3 : v.cell? ⟨Z, 3, none⟩ = some (.slice none 0 0) := ZV.cell 3
          have y4 : v.cell? ⟨Z, 4, none⟩ = some (.int .i64 (e2 : Int)) := ZV.cell 4
          have y5 : v.cell? ⟨Z, 5, none⟩ = some (.int .i64 e1) := ZV.cell 5
          clear hb5 hown hb hq hO hz hth z0 z1 z2 z3 z4 z5
          subst ev
          go_wp2_with (first
            | (refine wpList_store_row rfl 38 (.tmp 3) (.tmp 21) rfl Z (got 0 0 0 none 0 0 (e2 : Int) e1) rfl rfl 38 (got r c s A3 j cap3 (a : Int) 0) Z5 info38 rfl (got_one 0 0 0 none 0 0 (e2 : Int) e1) ?_)
            | (refine wpList_store_row rfl 38 (.tmp 2) (.tmp 25) rfl w.heap.size (got 0 0 0 none 0 0 (e2 : Int) e1) rfl rfl 38 (got 0 0 0 none 0 0 0 0) QV info38 rfl (got_one 0 0 0 none 0 0 (e2 : Int) e1) ?_))
          refine bodyPost_ret (results_cell_row (cs := got 0 0 0 none 0 0 (e2 : Int) e1) rfl _ _ w.heap.size 38 (0, 0) _ rfl (setRow_heap _ _ _ _ _ _ QV) Tryd.underlying38 rfl info38) rfl ?_
          rw [HW.out]
          exact ⟨rfl, HF.out⟩
        | ok l =>
          rw [hth] at hR
          obtain ⟨A5, n5, cap5, rfl, hown5, hb5⟩ := hR
          have hn : n5 = j + 1 := by
            have h1 := hown5.len
            have h2 := hown.len
            rw [List.length_append] at h1
            simp at h1
            omega
          subst hn
          have hale := thrP_le hth
          rw [hlen.out] at hale
          have HW : Hid (thrs xs r s t 5 = andL (pre ++ [l]) (thrs xs r s (t - (j + 1)) (a + (1 + 12 * l.length)))) := Lib.hid (by rw [HE.out, HY.out.1, thrs_step hth, HY.out.2])
          have Z5 : Blk w5 Z 38 (got r c s A3 j cap3 (a : Int) 0) := (hb5.block Z (by omega)).trans hz
          have Q5 : Blk w5 w.heap.size 38 (got 0 0 0 none 0 0 0 0) := (hb5.block w.heap.size (by omega)).trans hq
          obtain ⟨a', ea'⟩ : ∃ a', a + (1 + 12 * l.length) = a' := ⟨_, rfl⟩
          rw [ea'] at hale HW ⊢
          obtain ⟨v, ev⟩ : ∃ v, v = w5.setRow Z (got r c s A5 (j + 1) cap5 (a' : Int) 0) := ⟨_, rfl⟩
          have ZV : Blk v Z 38 (got r c s A5 (j + 1) cap5 (a' : Int) 0) := by rw [ev]; exact setRow_heap _ _ _ _ _ _ Z5
          have QV : Blk v w.heap.size 38 (got 0 0 0 none 0 0 0 0) := by rw [ev]; exact (setRow_other _ _ _ _ (by omega)).trans Q5
          have BV : Below w.heap.size w v := by rw [ev]; exact below_setRow (hb.trans (hb5.mono (by omega))) (by omega) _
          have B4 : Below (Z + 1) w4 w5 := hb5
          have OV : OwnR v (Z + 1) (.slice A5 (j + 1) cap5) (j + 1) (pre ++ [l]) := by rw [ev]; exact hown5.setRow Z5 (by decide) (by decide)
          have SV : Z + 1 ≤ v.heap.size := by rw [ev, size_setRow]; exact Nat.le_trans hsz hb5.size
          have XV : Oct v w.heap.size (some ad) n cap xs := by
            have b5 : Below w.heap.size w4 v := by rw [ev]; exact below_setRow (hb5.mono (by omega)) (by omega) _
            exact hO.below b5
          have HQ := Lib.hid (And.intro ZV (And.intro QV (And.intro BV (And.intro OV (And.intro SV XV)))))
          have HL : Hid (a' = 5 + sizeM (pre ++ [l])) := Lib.hid (by rw [sizeM_snoc, ← ea', HA.out]; omega)
          have y5 : v.cell? ⟨Z, 5, none⟩ = some (.int .i64 0) := ZV.cell 5
          clear QV BV OV SV XV B4 hb5 hown5 hown hb hq hO hz hth z0 z1 z2 z3 z4 z5 ea'
          subst ev
          go_wp2_with (first
            | (refine wpList_store_row rfl 38 (.tmp 3) (.tmp 21) rfl Z (got r c s A5 (j + 1) cap5 (a' : Int) 0) rfl rfl 38 (got r c s A3 j cap3 (a : Int) 0) Z5 info38 rfl (got_one r c s A5 (j + 1) cap5 (a' : Int) 0) ?_))
          go_roundw
          case rel => exact ⟨j + 1, a', pre ++ [l], A5, cap5, by go_num, by omega, HL.out, by omega, HQ.out.1, HQ.out.2.2.2.1, HQ.out.2.2.1, HQ.out.2.2.2.2.1, HQ.out.2.1, HQ.out.2.2.2.2.2, HW.out⟩
          case measure => simp [intOf]; omega
      · obtain rfl : j = t := by omega
        have u0 : decide ((j : Int) < (j : Int)) = false := decide_eq_false (by omega)
        have HT : Hid (thrs xs r s (j : Int).toNat 5 = .ok pre) := Lib.hid (by rw [Int.toNat_natCast, HE.out, Nat.sub_self, thrs, andL, List.append_nil])
        by_cases hfar : a < n
        · have u1 : decide ((a : Int) < (n : Int)) = true := decide_eq_true (by omega)
          have HW : Hid (getP xs = .error (1, a)) := Lib.hid (by rw [HG.out, HA.out]; exact bodyP_far HT.out (by rw [← HA.out, hlen.out]; exact hfar))
          have HF : Hid (Below w.heap.size w (w4.setRow w.heap.size (got 0 0 0 none 0 0 (a : Int) 1))) := Lib.hid (below_setRow hb (Nat.le_refl _) _)
          clear hown hb hO hz
          go_wp2_with (refine wpList_store_row rfl 38 (.tmp 2) (.tmp 33) rfl w.heap.size (got 0 0 0 none 0 0 (a : Int) 1) rfl rfl 38 (got 0 0 0 none 0 0 0 0) hq info38 rfl (got_one 0 0 0 none 0 0 (a : Int) 1) ?_)
          refine bodyPost_ret (results_cell_row (cs := got 0 0 0 none 0 0 (a : Int) 1) rfl _ _ w.heap.size 38 (0, 0) _ rfl (setRow_heap _ _ _ _ _ _ hq) Tryd.underlying38 rfl info38) rfl ?_
          rw [HW.out]
          exact ⟨rfl, HF.out⟩
        · obtain rfl : a = n := by omega
          have u1 : decide ((a : Int) < (a : Int)) = false := decide_eq_false (by omega)
          have HW : Hid (getP xs = .ok ⟨r, c, s, pre⟩) := Lib.hid (by rw [HG.out]; exact bodyP_ok HT.out (by rw [← HA.out, hlen.out]; exact hfar))
          obtain ⟨A9, cap9, e9, hM⟩ := (hown.setRow (ds := got r c s A3 j cap3 (a : Int) 0) hq (by decide) (by decide)).mat
          injection e9 with e1 e2 e3
          subst e1 e3
          have HF : Hid (Below w.heap.size w (w4.setRow w.heap.size (got r c s A3 j cap3 (a : Int) 0)) ∧ Mat (w4.setRow w.heap.size (got r c s A3 j cap3 (a : Int) 0)) (From (w4.setRow w.heap.size (got r c s A3 j cap3 (a : Int) 0)) w.heap.size) A3 j cap3 pre) := Lib.hid ⟨below_setRow hb (Nat.le_refl _) _, hM.more fun g hg => ⟨by have := hg.1; omega, hg.2⟩⟩
          clear hown hb hO hz hM e2
          go_wp2_with (refine wpList_store_row rfl 38 (.tmp 2) (.tmp 34) rfl w.heap.size (got r c s A3 j cap3 (a : Int) 0) rfl rfl 38 (got 0 0 0 none 0 0 0 0) hq info38 rfl (got_one r c s A3 j cap3 (a : Int) 0) ?_)
          refine bodyPost_ret (results_cell_row (cs := got r c s A3 j cap3 (a : Int) 0) rfl _ _ w.heap.size 38 (0, 0) _ rfl (setRow_heap _ _ _ _ _ _ hq) Tryd.underlying38 rfl info38) rfl ?_
          rw [HW.out]
          exact ⟨A3, j, cap3, by rw [hlen.out], HF.out.2, HF.out.1⟩
end Go.Proofs.YtcbekkbhhepeaaaDoor
