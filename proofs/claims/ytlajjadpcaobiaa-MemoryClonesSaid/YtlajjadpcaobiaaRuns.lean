/- The law of runs: any Puts. Conditions: none. -/
import Derived.Test.YtlajjadpcaobiaaAlive
namespace Go.Proofs.Ytlajjadpcaobiaa
open Go.RowKit Go.ChangeShapes Go.WideShapes

theorem range_x {W : World} {g o : Nat} {e : Ch} (h : W.rangeAt g o e.cs) : W.rangeAt g o e.x.cs := fun j v hv => h j v (by
  have hj := (List.getElem?_eq_some_iff.1 hv).1
  rw [Pl.len] at hj
  rw [← hv]
  obtain rfl | rfl | rfl : j = 0 ∨ j = 1 ∨ j = 2 := by omega
  all_goals rfl)
theorem nextL_len (p : Pg) (L : List Ch) (x : Ch) : (nextL p L x).length ≤ L.length + 1 := by
  unfold nextL
  split
  · simp
  · omega
set_option maxRecDepth 100000 in
set_option maxHeartbeats 8000000 in
theorem runs_walk {w : World} (p : Pg) (hp : p.Ok) (hA : p.A = none → p.cap = 0) {A : Option Addr} {n cap : Nat} {l : List Ch} (hS : SeesC w A n cap l) (hw : ∀ e ∈ l, e.x.Wide) (x : Pl) (hx0 : x.Wide) : Calls Try.prog 3 #[.agg p.cs.toArray, .slice A n cap, .agg x.cs.toArray] w fun e w' => e = .returned (.bool true) ∧ Below w.heap.size w w' := by
  obtain ⟨p1, f1⟩ : ∃ p, w.heap.size = p := ⟨_, rfl⟩
  obtain ⟨W1, ea1⟩ : ∃ W, w.alloc (.cells p.cs.toArray 24) = W := ⟨_, rfl⟩
  have ka1 : Below w.heap.size w W1 := by rw [← ea1]; exact (Below.refl _ w).alloc (Nat.le_refl _) _
  have b1 : Blk W1 p1 24 p.cs.toArray := by rw [← ea1]; exact blk_new w _ 24 _ f1
  have kk : Below w.heap.size w W1 := ka1
  have hp1 : w.heap.size ≤ p1 := Nat.le_of_eq f1
  clear ka1
  obtain ⟨p2, f2⟩ : ∃ p, W1.heap.size = p := ⟨_, rfl⟩
  obtain ⟨W2, ea2⟩ : ∃ W, W1.alloc (.cells x.cs.toArray 27) = W := ⟨_, rfl⟩
  have ka2 : Below W1.heap.size W1 W2 := by rw [← ea2]; exact (Below.refl _ W1).alloc (Nat.le_refl _) _
  have b2 : Blk W2 p2 27 x.cs.toArray := by rw [← ea2]; exact blk_new W1 _ 27 _ f2
  have q1_2 : p1 < p2 := by rw [← f2]; exact b1.lt
  replace b1 := b1.on ka2
  have kk0 := kk
  replace kk := kk.trans (ka2.mono kk.size)
  have hp2 : w.heap.size ≤ p2 := by rw [← f2]; exact kk0.size
  clear ka2 kk0
  have c0 := alive_any
  have cf := few_any p hp hA
  have cn := new_any (fewP p) (fewP_ok hp)
  have hq := fewP_ok hp
  generalize hPP : fewP p = P0 at *
  clear hPP
  have lb1 := b1
  go_enter Try.func3, Try.ntmps3
  go_wp2_with fail
  refine (c0 _).mono ?_
  rintro e W3 ⟨rfl, k0⟩
  replace b1 := b1.on k0
  replace b2 := b2.on k0
  replace kk := kk.trans (k0.mono kk.size)
  clear k0
  clear lb1
  have lb1 := b1
  go_wp2_with (((with_reducible refine at_load 24 (.tmp 3) ?_); refine wpList_load_row rfl 24 (.tmp 3) rfl p1 rfl 24 p.cs.toArray (0, 0) _ lb1 Try.underlying24 rfl size24 ?_))
  refine (cf _).mono ?_
  rintro e W4 ⟨rfl, k4⟩
  replace b1 := b1.on k4
  replace b2 := b2.on k4
  replace kk := kk.trans (k4.mono kk.size)
  clear k4
  obtain ⟨W5, es5⟩ : ∃ W, W4.setRow p1 P0.cs.toArray = W := ⟨_, rfl⟩
  have bo1 := b1
  replace b2 := row_far b2 es5 (by omega)
  replace b1 : Blk W5 p1 24 P0.cs.toArray := row_named b1 es5
  replace kk := kk.trans (row_below es5 hp1 kk.size)
  clear lb1
  have lb1 := b1
  go_wp2_with (first | ((with_reducible refine at_store 24 (.tmp 3) (.tmp 15) ?_); refine wpList_store_row rfl 24 (.tmp 3) (.tmp 15) rfl p1 P0.cs.toArray rfl rfl 24 p.cs.toArray bo1 size24 rfl (Pg.onea _) ?_; rw [es5]) | ((with_reducible refine at_load 24 (.tmp 3) ?_); refine wpList_load_row rfl 24 (.tmp 3) rfl p1 rfl 24 P0.cs.toArray (0, 0) _ lb1 Try.underlying24 rfl size24 ?_))
  have hle6 := kk.size
  refine (cn _).mono ?_
  rintro e W6 ⟨m, h, b, sp, rfl, q, hfar, k6⟩
  replace b1 := b1.on k6
  replace b2 := b2.on k6
  replace kk := kk.trans (k6.mono kk.size)
  clear k6
  clear lb1 c0 cf cn
  have run : Run w W6 m h b sp ⟨none, 0, 0⟩ P0 none 0 0 [] := ⟨q, Own.nil 37 _ 0, fun g hg => Nat.le_trans hle6 (hfar g hg), fun g e => (by cases e), kk⟩
  clear q hfar kk
  go_wp2_with fail
  have hn63 : (n : Int) ≤ 9223372036854775807 := len_i64 hS.room hS.most
  have HB := Lib.hid (And.intro hS hw)
  skip
  go_loopw [8, 9] (fun f i wr => ∃ k : Nat, k ≤ n ∧ k ≤ 40 ∧ i = .int .i64 (k : Int) ∧ ∃ A' n' c' sq L, f = .slice A' n' c' ∧ Run w wr m h b sp sq P0 A' n' c' L ∧ L.length ≤ k ∧ Blk wr p1 24 P0.cs.toArray ∧ Blk wr p2 27 x.cs.toArray) (fun _ i _ => 40 - (intOf i).toNat)
  case atStart => exact ⟨0, Nat.zero_le _, by omega, rfl, none, 0, 0, ⟨none, 0, 0⟩, [], rfl, run, Nat.le_refl _, b1, b2⟩
  case round =>
    clear run b1 b2
    obtain ⟨k, hk, hk40, rfl, A1, n1, c1, sq, L, rfl, run, hL, b1, b2⟩ := hrel
    have hln : L.length = n1 := run.lst.sees.len
    by_cases hlt : k < n
    · by_cases h40 : k < 40
      · have t0 : decide ((k : Int) < (n : Int)) = true := decide_eq_true (by omega)
        have t1 : decide ((k : Int) < 40) = true := decide_eq_true (by omega)
        obtain ⟨e, hx⟩ : ∃ e, l[k]? = some e := ⟨_, List.getElem?_eq_getElem (by have := hS.len; omega)⟩
        have hxe : e.x.Wide := hw e (List.mem_of_getElem? hx)
        obtain ⟨g, o, eA, hr0⟩ := hS.at_ hx
        subst eA
        have hrE : ∀ W, Below w.heap.size w W → W.rangeAt g (o + k * 6) e.cs := fun W hb => by
          obtain ⟨g3, o3, e3, hr3⟩ := (hS.on hb).at_ hx
          injection e3 with e3
          injection e3 with e3 e4
          subst e3 e4
          exact hr3
        clear hr0 hx
        have hkI : (k : Int) < (n : Int) := by omega
        have hk0 : (0 : Int) ≤ (k : Int) := by omega
        go_wp2_with fail
        obtain ⟨wd, ed⟩ : ∃ W, wr.drew = W := ⟨_, rfl⟩
        have hd : Below wr.heap.size wr wd := by rw [← ed]; exact (Below.refl _ _).drew
        replace run := run.on hd
        replace b1 := b1.on hd
        replace b2 := b2.on hd
        clear hd
        have kS : Below w.heap.size w wd ∧ Blk wd p1 24 P0.cs.toArray ∧ Blk wd p2 27 x.cs.toArray := ⟨run.below, b1, b2⟩
        refine wp_region_noPanic ?_
        refine wp_region_held_drew (S := (fun W => Below w.heap.size w W ∧ Blk W p1 24 P0.cs.toArray ∧ Blk W p2 27 x.cs.toArray)) (by kernel_rfl) (by rw [ed]; exact kS) (fun hHeld => ?_)
        rw [ed] at hHeld ⊢
        refine wpAnyH_take (i := 0) (oi := ⟨some 29, _, _, _, _, _⟩) (v := ?_) rfl (by kernel_rfl) (by kernel_rfl) (by kernel_rfl) (fun _ _ _ h => h) (Or.inl ⟨by rfl, ?_⟩) (by assumption) ?_
        rotate_left 1
        · (intro W hSw; go_simp <;> with_reducible rfl)
        try simp only [Act.put, List.setIfInBounds_toArray, List.set_cons_zero, List.set_cons_succ]
        refine wpAnyH_take (i := 1) (oi := ⟨some 30, _, _, _, _, _⟩) (v := .agg (List.toArray (P0.cs))) rfl (by kernel_rfl) (by kernel_rfl) (by kernel_rfl) (fun _ _ _ h => h) (yieldsIf_load_mid (by rfl) 24 (.tmp 3) rfl p1 (0) rfl (P0.cs) _ (fun W hW => range_part hW.2.1 0 P0.cs rfl) Try.underlying24 rfl size24) (by assumption) ?_
        try simp only [Act.put, List.setIfInBounds_toArray, List.set_cons_zero, List.set_cons_succ]
        refine wpAnyH_take (i := 2) (oi := ⟨some 31, _, _, _, _, _⟩) (v := ?_) rfl (by kernel_rfl) (by kernel_rfl) (by kernel_rfl) (fun _ _ _ h => h) (Or.inl ⟨by rfl, ?_⟩) (by assumption) ?_
        rotate_left 1
        · (intro W hSw; go_simp <;> with_reducible rfl)
        try simp only [Act.put, List.setIfInBounds_toArray, List.set_cons_zero, List.set_cons_succ]
        refine wpAnyH_take (i := 3) (oi := ⟨some 32, _, _, _, _, _⟩) (v := ?_) rfl (by kernel_rfl) (by kernel_rfl) (by kernel_rfl) (fun _ _ _ h => h) (Or.inl ⟨by rfl, ?_⟩) (by assumption) ?_
        rotate_left 1
        · (intro W hSw; go_simp <;> with_reducible rfl)
        try simp only [Act.put, List.setIfInBounds_toArray, List.set_cons_zero, List.set_cons_succ]
        refine wpAnyH_take (i := 4) (oi := ⟨some 33, _, _, _, _, _⟩) (v := ?_) rfl (by kernel_rfl) (by kernel_rfl) (by kernel_rfl) (fun _ _ _ h => h) (Or.inl ⟨by rfl, ?_⟩) (by assumption) ?_
        rotate_left 1
        · (intro W hSw; go_simp <;> with_reducible rfl)
        try simp only [Act.put, List.setIfInBounds_toArray, List.set_cons_zero, List.set_cons_succ]
        refine wpAnyH_take (i := 5) (oi := ⟨some 34, _, _, _, _, _⟩) (v := ?_) rfl (by kernel_rfl) (by kernel_rfl) (by kernel_rfl) (fun _ _ _ h => h) (Or.inl ⟨by rfl, ?_⟩) (by assumption) ?_
        rotate_left 1
        · (intro W hSw; go_simp <;> with_reducible rfl)
        try simp only [Act.put, List.setIfInBounds_toArray, List.set_cons_zero, List.set_cons_succ]
        refine wpAnyH_take (i := 6) (oi := ⟨some 35, _, _, _, _, _⟩) (v := .agg (List.toArray (e.cs))) rfl (by kernel_rfl) (by kernel_rfl) (by kernel_rfl) (fun _ _ _ h => h) (yieldsIf_load_mid (by rfl) 37 (.tmp 34) rfl g (o + k * 6) rfl (e.cs) _ (fun W hW => hrE W hW.1) Try.underlying37 rfl size37) (by assumption) ?_
        try simp only [Act.put, List.setIfInBounds_toArray, List.set_cons_zero, List.set_cons_succ]
        refine wpAnyH_ready (rs := [7]) (by kernel_rfl) (by simp) ?_
        refine AllReadyH.cons (o := ⟨some 36, _, _, _, _, _⟩) rfl (fun K hK => ?_) AllReadyH.nil
        go_simp
        refine (lput_any run.mem hq run.lst (by omega) e hxe).mono ?_
        rintro _ w1 ⟨sq', A', n', cap', rfl, bo⟩
        have run1 := run.put bo
        have b1_1 := bo.blk run.mem run.lst b1 (by decide) (by decide)
        have b2_1 := bo.blk run.mem run.lst b2 (by decide) (by decide)
        have S1 : (fun W => Below w.heap.size w W ∧ Blk W p1 24 P0.cs.toArray ∧ Blk W p2 27 x.cs.toArray) w1 := ⟨run1.below, b1_1, b2_1⟩
        refine hK.out _ _ S1 (fun h1 => ?_)
        clear hHeld hK K
        try simp only [Act.put, List.setIfInBounds_toArray, List.set_cons_zero, List.set_cons_succ]
        refine wpAnyH_take (i := 8) (oi := ⟨some 28, _, _, _, _, _⟩) (v := ?_) rfl (by kernel_rfl) (by kernel_rfl) (by kernel_rfl) (fun _ _ _ h => h) (Or.inl ⟨by rfl, ?_⟩) (by assumption) ?_
        rotate_left 1
        · (intro W hSw; go_simp <;> with_reducible rfl)
        try simp only [Act.put, List.setIfInBounds_toArray, List.set_cons_zero, List.set_cons_succ]
        refine wpAnyH_take (i := 9) (oi := ⟨some 37, _, _, _, _, _⟩) (v := ?_) rfl (by kernel_rfl) (by kernel_rfl) (by kernel_rfl) (fun _ _ _ h => h) (Or.inl ⟨by rfl, ?_⟩) (by assumption) ?_
        rotate_left 1
        · (intro W hSw; go_simp <;> with_reducible rfl)
        try simp only [Act.put, List.setIfInBounds_toArray, List.set_cons_zero, List.set_cons_succ]
        refine wpAnyH_take (i := 10) (oi := ⟨some 38, _, _, _, _, _⟩) (v := ?_) rfl (by kernel_rfl) (by kernel_rfl) (by kernel_rfl) (fun _ _ _ h => h) (Or.inl ⟨by rfl, ?_⟩) (by assumption) ?_
        rotate_left 1
        · (intro W hSw; go_simp <;> with_reducible rfl)
        try simp only [Act.put, List.setIfInBounds_toArray, List.set_cons_zero, List.set_cons_succ]
        refine wpAnyH_take (i := 11) (oi := ⟨some 10, _, _, _, _, _⟩) (v := ?_) rfl (by kernel_rfl) (by kernel_rfl) (by kernel_rfl) (fun _ _ _ h => h) (Or.inl ⟨by rfl, ?_⟩) (by assumption) ?_
        rotate_left 1
        · (intro W hSw; go_simp <;> with_reducible rfl)
        try simp only [Act.put, List.setIfInBounds_toArray, List.set_cons_zero, List.set_cons_succ]
        refine wpAnyH_take (i := 12) (oi := ⟨some 11, _, _, _, _, _⟩) (v := ?_) rfl (by kernel_rfl) (by kernel_rfl) (by kernel_rfl) (fun _ _ _ h => h) (Or.inl ⟨by rfl, ?_⟩) (by assumption) ?_
        rotate_left 1
        · (intro W hSw; go_simp <;> with_reducible rfl)
        try simp only [Act.put, List.setIfInBounds_toArray, List.set_cons_zero, List.set_cons_succ]
        refine wpAnyH_done (by kernel_rfl) ?_ _
        refine NoPanic.normal ?_
        replace run := run1
        replace b1 := b1_1
        replace b2 := b2_1
        clear h1 kS S1 run1 b1_1 b2_1 bo
        have hL2 := nextL_len P0 L e
        generalize nextL P0 L e = L2 at *
        have hln2 : L2.length = n' := run.lst.sees.len
        go_wp2_with fail
        obtain ⟨wd2, ed2⟩ : ∃ W, w1.drew = W := ⟨_, rfl⟩
        have hd : Below w1.heap.size w1 wd2 := by rw [← ed2]; exact (Below.refl _ _).drew
        replace run := run.on hd
        replace b1 := b1.on hd
        replace b2 := b2.on hd
        clear hd
        have kS2 : Below w.heap.size w wd2 ∧ Blk wd2 p1 24 P0.cs.toArray ∧ Blk wd2 p2 27 x.cs.toArray := ⟨run.below, b1, b2⟩
        refine wp_region_noPanic ?_
        refine wp_region_held_drew (S := (fun W => Below w.heap.size w W ∧ Blk W p1 24 P0.cs.toArray ∧ Blk W p2 27 x.cs.toArray)) (by kernel_rfl) (by rw [ed2]; exact kS2) (fun hHeld => ?_)
        rw [ed2] at hHeld ⊢
        refine wpAnyH_take (i := 0) (oi := ⟨some 40, _, _, _, _, _⟩) (v := ?_) rfl (by kernel_rfl) (by kernel_rfl) (by kernel_rfl) (fun _ _ _ h => h) (Or.inl ⟨by rfl, ?_⟩) (by assumption) ?_
        rotate_left 1
        · (intro W hSw; go_simp <;> with_reducible rfl)
        try simp only [Act.put, List.setIfInBounds_toArray, List.set_cons_zero, List.set_cons_succ]
        refine wpAnyH_take (i := 1) (oi := ⟨some 41, _, _, _, _, _⟩) (v := ?_) rfl (by kernel_rfl) (by kernel_rfl) (by kernel_rfl) (fun _ _ _ h => h) (Or.inl ⟨by rfl, ?_⟩) (by assumption) ?_
        rotate_left 1
        · (intro W hSw; go_simp <;> with_reducible rfl)
        try simp only [Act.put, List.setIfInBounds_toArray, List.set_cons_zero, List.set_cons_succ]
        refine wpAnyH_take (i := 2) (oi := ⟨some 42, _, _, _, _, _⟩) (v := ?_) rfl (by kernel_rfl) (by kernel_rfl) (by kernel_rfl) (fun _ _ _ h => h) (Or.inl ⟨by rfl, ?_⟩) (by assumption) ?_
        rotate_left 1
        · (intro W hSw; go_simp <;> with_reducible rfl)
        try simp only [Act.put, List.setIfInBounds_toArray, List.set_cons_zero, List.set_cons_succ]
        refine wpAnyH_take (i := 3) (oi := ⟨some 43, _, _, _, _, _⟩) (v := ?_) rfl (by kernel_rfl) (by kernel_rfl) (by kernel_rfl) (fun _ _ _ h => h) (Or.inl ⟨by rfl, ?_⟩) (by assumption) ?_
        rotate_left 1
        · (intro W hSw; go_simp <;> with_reducible rfl)
        try simp only [Act.put, List.setIfInBounds_toArray, List.set_cons_zero, List.set_cons_succ]
        refine wpAnyH_take (i := 4) (oi := ⟨some 44, _, _, _, _, _⟩) (v := .agg (List.toArray (P0.cs))) rfl (by kernel_rfl) (by kernel_rfl) (by kernel_rfl) (fun _ _ _ h => h) (yieldsIf_load_mid (by rfl) 24 (.tmp 3) rfl p1 (0) rfl (P0.cs) _ (fun W hW => range_part hW.2.1 0 P0.cs rfl) Try.underlying24 rfl size24) (by assumption) ?_
        try simp only [Act.put, List.setIfInBounds_toArray, List.set_cons_zero, List.set_cons_succ]
        refine wpAnyH_take (i := 5) (oi := ⟨some 45, _, _, _, _, _⟩) (v := ?_) rfl (by kernel_rfl) (by kernel_rfl) (by kernel_rfl) (fun _ _ _ h => h) (Or.inl ⟨by rfl, ?_⟩) (by assumption) ?_
        rotate_left 1
        · (intro W hSw; go_simp <;> with_reducible rfl)
        try simp only [Act.put, List.setIfInBounds_toArray, List.set_cons_zero, List.set_cons_succ]
        refine wpAnyH_take (i := 6) (oi := ⟨some 46, _, _, _, _, _⟩) (v := ?_) rfl (by kernel_rfl) (by kernel_rfl) (by kernel_rfl) (fun _ _ _ h => h) (Or.inl ⟨by rfl, ?_⟩) (by assumption) ?_
        rotate_left 1
        · (intro W hSw; go_simp <;> with_reducible rfl)
        try simp only [Act.put, List.setIfInBounds_toArray, List.set_cons_zero, List.set_cons_succ]
        refine wpAnyH_take (i := 7) (oi := ⟨some 47, _, _, _, _, _⟩) (v := ?_) rfl (by kernel_rfl) (by kernel_rfl) (by kernel_rfl) (fun _ _ _ h => h) (Or.inl ⟨by rfl, ?_⟩) (by assumption) ?_
        rotate_left 1
        · (intro W hSw; go_simp <;> with_reducible rfl)
        try simp only [Act.put, List.setIfInBounds_toArray, List.set_cons_zero, List.set_cons_succ]
        refine wpAnyH_take (i := 8) (oi := ⟨some 48, _, _, _, _, _⟩) (v := ?_) rfl (by kernel_rfl) (by kernel_rfl) (by kernel_rfl) (fun _ _ _ h => h) (Or.inl ⟨by rfl, ?_⟩) (by assumption) ?_
        rotate_left 1
        · (intro W hSw; go_simp <;> with_reducible rfl)
        try simp only [Act.put, List.setIfInBounds_toArray, List.set_cons_zero, List.set_cons_succ]
        refine wpAnyH_take (i := 9) (oi := ⟨some 49, _, _, _, _, _⟩) (v := ?_) rfl (by kernel_rfl) (by kernel_rfl) (by kernel_rfl) (fun _ _ _ h => h) (Or.inl ⟨by rfl, ?_⟩) (by assumption) ?_
        rotate_left 1
        · (intro W hSw; go_simp <;> with_reducible rfl)
        try simp only [Act.put, List.setIfInBounds_toArray, List.set_cons_zero, List.set_cons_succ]
        refine wpAnyH_take (i := 10) (oi := ⟨some 50, _, _, _, _, _⟩) (v := .agg (List.toArray (e.x.cs))) rfl (by kernel_rfl) (by kernel_rfl) (by kernel_rfl) (fun _ _ _ h => h) (yieldsIf_load_mid (by rfl) 27 (.tmp 49) rfl g (o + k * 6) rfl (e.x.cs) _ (fun W hW => range_x (hrE W hW.1)) Try.underlying27 rfl size27) (by assumption) ?_
        try simp only [Act.put, List.setIfInBounds_toArray, List.set_cons_zero, List.set_cons_succ]
        refine wpAnyH_ready (rs := [11]) (by kernel_rfl) (by simp) ?_
        refine AllReadyH.cons (o := ⟨some 51, _, _, _, _, _⟩) rfl (fun K hK => ?_) AllReadyH.nil
        go_simp
        refine (told_any run.mem hq run.lst.sees (by omega) e.x hxe).mono ?_
        rintro e w1 ⟨rfl, hb1⟩
        have run_1 := run.on hb1
        have b1_1 := b1.on hb1
        have b2_1 := b2.on hb1
        have S1 : (fun W => Below w.heap.size w W ∧ Blk W p1 24 P0.cs.toArray ∧ Blk W p2 27 x.cs.toArray) w1 := ⟨kS2.1.trans (hb1.mono kS2.1.size), kS2.2.1.on hb1, kS2.2.2.on hb1⟩
        refine hK.out _ _ S1 (fun h1 => ?_)
        clear hHeld hK K
        try simp only [Act.put, List.setIfInBounds_toArray, List.set_cons_zero, List.set_cons_succ]
        refine wpAnyH_take (i := 12) (oi := ⟨some 52, _, _, _, _, _⟩) (v := ?_) rfl (by kernel_rfl) (by kernel_rfl) (by kernel_rfl) (fun _ _ _ h => h) (Or.inl ⟨by rfl, ?_⟩) (by assumption) ?_
        rotate_left 1
        · (intro W hSw; go_simp <;> with_reducible rfl)
        try simp only [Act.put, List.setIfInBounds_toArray, List.set_cons_zero, List.set_cons_succ]
        refine wpAnyH_take (i := 13) (oi := ⟨some 53, _, _, _, _, _⟩) (v := ?_) rfl (by kernel_rfl) (by kernel_rfl) (by kernel_rfl) (fun _ _ _ h => h) (Or.inl ⟨by rfl, ?_⟩) (by assumption) ?_
        rotate_left 1
        · (intro W hSw; go_simp <;> with_reducible rfl)
        try simp only [Act.put, List.setIfInBounds_toArray, List.set_cons_zero, List.set_cons_succ]
        refine wpAnyH_done (by kernel_rfl) ?_ _
        refine NoPanic.normal ?_
        replace run := run_1
        replace b1 := b1_1
        replace b2 := b2_1
        clear h1 kS2
        go_wp2
        go_roundw
        case rel => exact ⟨k + 1, by omega, by omega, by go_num, A', n', cap', sq', L2, rfl, run, by omega, b1, b2⟩
        case measure => simp [intOf]; omega
      · have t0 : decide ((k : Int) < (n : Int)) = true := decide_eq_true (by omega)
        have t1 : decide ((k : Int) < 40) = false := decide_eq_false (by omega)
        have ct := told_any run.mem hq run.lst.sees (by omega) x hx0
        have hbw := run.below
        clear run
        go_wp2_with (first | ((with_reducible refine at_load 24 (.tmp 3) ?_); refine wpList_load_row rfl 24 (.tmp 3) rfl p1 rfl 24 P0.cs.toArray (0, 0) _ b1 Try.underlying24 rfl size24 ?_) | ((with_reducible refine at_load 27 (.tmp 5) ?_); refine wpList_load_row rfl 27 (.tmp 5) rfl p2 rfl 27 x.cs.toArray (0, 0) _ b2 Try.underlying27 rfl size27 ?_))
        refine ct.mono ?_
        rintro _ wz ⟨rfl, kz⟩
        go_wp2
        go_ret
        exact ⟨rfl, hbw.trans (kz.mono hbw.size)⟩
    · have t0 : decide ((k : Int) < (n : Int)) = false := decide_eq_false (by omega)
      have ct := told_any run.mem hq run.lst.sees (by omega) x hx0
      have hbw := run.below
      clear run
      go_wp2_with (first | ((with_reducible refine at_load 24 (.tmp 3) ?_); refine wpList_load_row rfl 24 (.tmp 3) rfl p1 rfl 24 P0.cs.toArray (0, 0) _ b1 Try.underlying24 rfl size24 ?_) | ((with_reducible refine at_load 27 (.tmp 5) ?_); refine wpList_load_row rfl 27 (.tmp 5) rfl p2 rfl 27 x.cs.toArray (0, 0) _ b2 Try.underlying27 rfl size27 ?_))
      refine ct.mono ?_
      rintro _ wz ⟨rfl, kz⟩
      go_wp2
      go_ret
      exact ⟨rfl, hbw.trans (kz.mono hbw.size)⟩
end Go.Proofs.Ytlajjadpcaobiaa
