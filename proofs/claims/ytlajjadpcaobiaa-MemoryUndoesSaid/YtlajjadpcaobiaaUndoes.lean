/- The law of what is undone. Conditions: none. -/
import Derived.Test.YtlajjadpcaobiaaRuns
namespace Go.Proofs.Ytlajjadpcaobiaa
open Go.RowKit Go.ChangeShapes Go.WideShapes

theorem under25 : Try.prog.underlying 25 = some (.slice (Try.prog.elem 25)) := by kernel_rfl
theorem sizeE25 (w : World) : (sizeOf (Try.prog.elem 25)).run Try.prog w = .ok 6 w := by kernel_rfl
theorem upto25 (A : Option Addr) (n cap k : Nat) (hk : k ≤ cap) (hA : A = none → cap = 0) (w : World) :
    (Instr.slice 25 (.slice A n cap) none (some (.int .i64 (k : Int))) none).run Try.prog w = .ok (.slice A k cap) w := by
  rw [run_slice_h w 25 _ n cap under25 .i64 _ (by omega) (by omega), sizeE25]
  simp only [Result.andThen, sliced, Int.toNat_natCast, Nat.sub_zero, Nat.zero_mul]
  rcases A with _ | ad
  · have := hA rfl
    subst this
    obtain rfl : k = 0 := by omega
    rfl
  · split <;> simp [Addr.add]
theorem Own.on {T B n cap : Nat} {w w' : World} {A : Option Addr} {xs : List Ch} (h : Own T w B A n cap xs) (hb : Below w.heap.size w w') : Own T w' B A n cap xs := h.below hb
set_option maxRecDepth 100000 in
set_option maxHeartbeats 16000000 in
theorem undoes_walk {w : World} (p : Pg) (hp : p.Ok) (hA : p.A = none → p.cap = 0) {A : Option Addr} {n cap : Nat} {l : List Ch} (hS : SeesC w A n cap l) (hw : ∀ e ∈ l, e.x.Wide) {A2 : Option Addr} {n2 cap2 : Nat} {l2 : List Ch} (hS2 : SeesC w A2 n2 cap2 l2) (hw2 : ∀ e ∈ l2, e.x.Wide) (mark : Int) (x : Pl) (hx0 : x.Wide) : Calls Try.prog 4 #[.agg p.cs.toArray, .slice A n cap, .slice A2 n2 cap2, .int .i64 mark, .agg x.cs.toArray] w fun e w' => e = .returned (.bool true) ∧ Below w.heap.size w w' := by
  obtain ⟨p1, f1⟩ : ∃ p, w.heap.size = p := ⟨_, rfl⟩
  obtain ⟨W1, ea1⟩ : ∃ W, w.alloc (.cells p.cs.toArray 24) = W := ⟨_, rfl⟩
  have ka1 : Below w.heap.size w W1 := by rw [← ea1]; exact (Below.refl _ w).alloc (Nat.le_refl _) _
  have b1 : Blk W1 p1 24 p.cs.toArray := by rw [← ea1]; exact blk_new w _ 24 _ f1
  have kk : Below w.heap.size w W1 := ka1
  have hp1 : w.heap.size ≤ p1 := Nat.le_of_eq f1
  clear ka1
  obtain ⟨p2, f2⟩ : ∃ p, W1.heap.size = p := ⟨_, rfl⟩
  obtain ⟨W2, ea2⟩ : ∃ W, W1.alloc (.cells x.cs.toArray 27) = W := ⟨_, rfl⟩
  have ka2 : Below W1.heap.size W1 W2 := by rw [← ea2]; exact (Below.refl _ W1).alloc (Nat.le_refl _) _
  have b2 : Blk W2 p2 27 x.cs.toArray := by rw [← ea2]; exact blk_new W1 _ 27 _ f2
  have q1_2 : p1 < p2 := by rw [← f2]; exact b1.lt
  replace b1 := b1.on ka2
  have kk0 := kk
  replace kk := kk.trans (ka2.mono kk.size)
  have hp2 : w.heap.size ≤ p2 := by rw [← f2]; exact kk0.size
  clear ka2 kk0
  have c0 := alive_any
  have cf := few_any p hp hA
  have cn := new_any (fewP p) (fewP_ok hp)
  have hq := fewP_ok hp
  generalize hPP : fewP p = P0 at *
  clear hPP
  have lb1 := b1
  go_enter Try.func4, Try.ntmps4
  go_wp2_with fail
  refine (c0 _).mono ?_
  rintro e W3 ⟨rfl, k0⟩
  replace b1 := b1.on k0
  replace b2 := b2.on k0
  replace kk := kk.trans (k0.mono kk.size)
  clear k0
  clear lb1
  have lb1 := b1
  go_wp2_with (((with_reducible refine at_load 24 (.tmp 5) ?_); refine wpList_load_row rfl 24 (.tmp 5) rfl p1 rfl 24 p.cs.toArray (0, 0) _ lb1 Try.underlying24 rfl size24 ?_))
  refine (cf _).mono ?_
  rintro e W4 ⟨rfl, k4⟩
  replace b1 := b1.on k4
  replace b2 := b2.on k4
  replace kk := kk.trans (k4.mono kk.size)
  clear k4
  obtain ⟨W5, es5⟩ : ∃ W, W4.setRow p1 P0.cs.toArray = W := ⟨_, rfl⟩
  have bo1 := b1
  replace b2 := row_far b2 es5 (by omega)
  replace b1 : Blk W5 p1 24 P0.cs.toArray := row_named b1 es5
  replace kk := kk.trans (row_below es5 hp1 kk.size)
  clear lb1
  have lb1 := b1
  go_wp2_with (first | ((with_reducible refine at_store 24 (.tmp 5) (.tmp 21) ?_); refine wpList_store_row rfl 24 (.tmp 5) (.tmp 21) rfl p1 P0.cs.toArray rfl rfl 24 p.cs.toArray bo1 size24 rfl (Pg.onea _) ?_; rw [es5]) | ((with_reducible refine at_load 24 (.tmp 5) ?_); refine wpList_load_row rfl 24 (.tmp 5) rfl p1 rfl 24 P0.cs.toArray (0, 0) _ lb1 Try.underlying24 rfl size24 ?_))
  have hle6 := kk.size
  refine (cn _).mono ?_
  rintro e W6 ⟨m, h, b, sp, rfl, q, hfar, k6⟩
  replace b1 := b1.on k6
  replace b2 := b2.on k6
  replace kk := kk.trans (k6.mono kk.size)
  clear k6
  clear lb1 c0 cf cn
  have run : Run w W6 m h b sp ⟨none, 0, 0⟩ P0 none 0 0 [] := ⟨q, Own.nil 37 _ 0, fun g hg => Nat.le_trans hle6 (hfar g hg), fun g e => (by cases e), kk⟩
  clear q hfar kk
  go_wp2_with fail
  have hn63 : (n : Int) ≤ 9223372036854775807 := len_i64 hS.room hS.most
  have hm63 : (n2 : Int) ≤ 9223372036854775807 := len_i64 hS2.room hS2.most
  go_loopw [12, 13] (fun f i wr => ∃ k : Nat, k ≤ n ∧ k ≤ 40 ∧ i = .int .i64 (k : Int) ∧ ∃ A' n' c' sq L, f = .slice A' n' c' ∧ Run w wr m h b sp sq P0 A' n' c' L ∧ L.length ≤ k ∧ Blk wr p1 24 P0.cs.toArray ∧ Blk wr p2 27 x.cs.toArray) (fun _ i _ => 40 - (intOf i).toNat)
  case atStart => exact ⟨0, Nat.zero_le _, by omega, rfl, none, 0, 0, ⟨none, 0, 0⟩, [], rfl, run, Nat.le_refl _, b1, b2⟩
  case round =>
    clear run b1 b2
    obtain ⟨k, hk, hkl, rfl, A1, n1, c1, sq, L, rfl, run, hL, b1, b2⟩ := hrel
    have hln : L.length = n1 := run.lst.sees.len
    by_cases hlt : k < n
    · by_cases hll : k < 40
      · have t0 : decide ((k : Int) < (n : Int)) = true := decide_eq_true (by omega)
        have t1 : decide ((k : Int) < 40) = true := decide_eq_true (by omega)
        obtain ⟨e, hx⟩ : ∃ e, l[k]? = some e := ⟨_, List.getElem?_eq_getElem (by have := hS.len; omega)⟩
        have hxe : e.x.Wide := hw e (List.mem_of_getElem? hx)
        obtain ⟨g, o, eA, hr0⟩ := hS.at_ hx
        subst eA
        have hrE : ∀ W, Below w.heap.size w W → W.rangeAt g (o + k * 6) e.cs := fun W hb => by
          obtain ⟨g3, o3, e3, hr3⟩ := (hS.on hb).at_ hx
          injection e3 with e3
          injection e3 with e3 e4
          subst e3 e4
          exact hr3
        clear hr0 hx
        have hkI : (k : Int) < (n : Int) := by omega
        have hk0 : (0 : Int) ≤ (k : Int) := by omega
        go_wp2_with fail
        obtain ⟨wd, ed⟩ : ∃ W, wr.drew = W := ⟨_, rfl⟩
        have hd : Below wr.heap.size wr wd := by rw [← ed]; exact (Below.refl _ _).drew
        replace run := run.on hd
        replace b1 := b1.on hd
        replace b2 := b2.on hd
        clear hd
        have kS : Below w.heap.size w wd ∧ Blk wd p1 24 P0.cs.toArray ∧ Blk wd p2 27 x.cs.toArray := ⟨run.below, b1, b2⟩
        refine wp_region_noPanic ?_
        refine wp_region_held_drew (S := (fun W => Below w.heap.size w W ∧ Blk W p1 24 P0.cs.toArray ∧ Blk W p2 27 x.cs.toArray)) (by kernel_rfl) (by rw [ed]; exact kS) (fun hHeld => ?_)
        rw [ed] at hHeld ⊢
        refine wpAnyH_take (i := 0) (oi := ⟨some 35, _, _, _, _, _⟩) (v := ?_) rfl (by kernel_rfl) (by kernel_rfl) (by kernel_rfl) (fun _ _ _ h => h) (Or.inl ⟨by rfl, ?_⟩) (by assumption) ?_
        rotate_left 1
        · (intro W hSw; go_simp <;> with_reducible rfl)
        try simp only [Act.put, List.setIfInBounds_toArray, List.set_cons_zero, List.set_cons_succ]
        refine wpAnyH_take (i := 1) (oi := ⟨some 36, _, _, _, _, _⟩) (v := .agg (List.toArray (P0.cs))) rfl (by kernel_rfl) (by kernel_rfl) (by kernel_rfl) (fun _ _ _ h => h) (yieldsIf_load_mid (by rfl) 24 (.tmp 5) rfl p1 (0) rfl (P0.cs) _ (fun W hW => range_part hW.2.1 0 P0.cs rfl) Try.underlying24 rfl size24) (by assumption) ?_
        try simp only [Act.put, List.setIfInBounds_toArray, List.set_cons_zero, List.set_cons_succ]
        refine wpAnyH_take (i := 2) (oi := ⟨some 37, _, _, _, _, _⟩) (v := ?_) rfl (by kernel_rfl) (by kernel_rfl) (by kernel_rfl) (fun _ _ _ h => h) (Or.inl ⟨by rfl, ?_⟩) (by assumption) ?_
        rotate_left 1
        · (intro W hSw; go_simp <;> with_reducible rfl)
        try simp only [Act.put, List.setIfInBounds_toArray, List.set_cons_zero, List.set_cons_succ]
        refine wpAnyH_take (i := 3) (oi := ⟨some 38, _, _, _, _, _⟩) (v := ?_) rfl (by kernel_rfl) (by kernel_rfl) (by kernel_rfl) (fun _ _ _ h => h) (Or.inl ⟨by rfl, ?_⟩) (by assumption) ?_
        rotate_left 1
        · (intro W hSw; go_simp <;> with_reducible rfl)
        try simp only [Act.put, List.setIfInBounds_toArray, List.set_cons_zero, List.set_cons_succ]
        refine wpAnyH_take (i := 4) (oi := ⟨some 39, _, _, _, _, _⟩) (v := ?_) rfl (by kernel_rfl) (by kernel_rfl) (by kernel_rfl) (fun _ _ _ h => h) (Or.inl ⟨by rfl, ?_⟩) (by assumption) ?_
        rotate_left 1
        · (intro W hSw; go_simp <;> with_reducible rfl)
        try simp only [Act.put, List.setIfInBounds_toArray, List.set_cons_zero, List.set_cons_succ]
        refine wpAnyH_take (i := 5) (oi := ⟨some 40, _, _, _, _, _⟩) (v := ?_) rfl (by kernel_rfl) (by kernel_rfl) (by kernel_rfl) (fun _ _ _ h => h) (Or.inl ⟨by rfl, ?_⟩) (by assumption) ?_
        rotate_left 1
        · (intro W hSw; go_simp <;> with_reducible rfl)
        try simp only [Act.put, List.setIfInBounds_toArray, List.set_cons_zero, List.set_cons_succ]
        refine wpAnyH_take (i := 6) (oi := ⟨some 41, _, _, _, _, _⟩) (v := .agg (List.toArray (e.cs))) rfl (by kernel_rfl) (by kernel_rfl) (by kernel_rfl) (fun _ _ _ h => h) (yieldsIf_load_mid (by rfl) 37 (.tmp 40) rfl g (o + k * 6) rfl (e.cs) _ (fun W hW => hrE W hW.1) Try.underlying37 rfl size37) (by assumption) ?_
        try simp only [Act.put, List.setIfInBounds_toArray, List.set_cons_zero, List.set_cons_succ]
        refine wpAnyH_ready (rs := [7]) (by kernel_rfl) (by simp) ?_
        refine AllReadyH.cons (o := ⟨some 42, _, _, _, _, _⟩) rfl (fun K hK => ?_) AllReadyH.nil
        go_simp
        refine (lput_any run.mem hq run.lst (by omega) e hxe).mono ?_
        rintro _ w1 ⟨sq', A', n', cap', rfl, bo⟩
        have run1 := run.put bo
        have b1_1 := bo.blk run.mem run.lst b1 (by decide) (by decide)
        have b2_1 := bo.blk run.mem run.lst b2 (by decide) (by decide)
        have S1 : (fun W => Below w.heap.size w W ∧ Blk W p1 24 P0.cs.toArray ∧ Blk W p2 27 x.cs.toArray) w1 := ⟨run1.below, b1_1, b2_1⟩
        refine hK.out _ _ S1 (fun h1 => ?_)
        clear hHeld hK K
        try simp only [Act.put, List.setIfInBounds_toArray, List.set_cons_zero, List.set_cons_succ]
        refine wpAnyH_take (i := 8) (oi := ⟨some 34, _, _, _, _, _⟩) (v := ?_) rfl (by kernel_rfl) (by kernel_rfl) (by kernel_rfl) (fun _ _ _ h => h) (Or.inl ⟨by rfl, ?_⟩) (by assumption) ?_
        rotate_left 1
        · (intro W hSw; go_simp <;> with_reducible rfl)
        try simp only [Act.put, List.setIfInBounds_toArray, List.set_cons_zero, List.set_cons_succ]
        refine wpAnyH_take (i := 9) (oi := ⟨some 43, _, _, _, _, _⟩) (v := ?_) rfl (by kernel_rfl) (by kernel_rfl) (by kernel_rfl) (fun _ _ _ h => h) (Or.inl ⟨by rfl, ?_⟩) (by assumption) ?_
        rotate_left 1
        · (intro W hSw; go_simp <;> with_reducible rfl)
        try simp only [Act.put, List.setIfInBounds_toArray, List.set_cons_zero, List.set_cons_succ]
        refine wpAnyH_take (i := 10) (oi := ⟨some 44, _, _, _, _, _⟩) (v := ?_) rfl (by kernel_rfl) (by kernel_rfl) (by kernel_rfl) (fun _ _ _ h => h) (Or.inl ⟨by rfl, ?_⟩) (by assumption) ?_
        rotate_left 1
        · (intro W hSw; go_simp <;> with_reducible rfl)
        try simp only [Act.put, List.setIfInBounds_toArray, List.set_cons_zero, List.set_cons_succ]
        refine wpAnyH_take (i := 11) (oi := ⟨some 12, _, _, _, _, _⟩) (v := ?_) rfl (by kernel_rfl) (by kernel_rfl) (by kernel_rfl) (fun _ _ _ h => h) (Or.inl ⟨by rfl, ?_⟩) (by assumption) ?_
        rotate_left 1
        · (intro W hSw; go_simp <;> with_reducible rfl)
        try simp only [Act.put, List.setIfInBounds_toArray, List.set_cons_zero, List.set_cons_succ]
        refine wpAnyH_done (by kernel_rfl) ?_ _
        refine NoPanic.normal ?_
        replace run := run1
        replace b1 := b1_1
        replace b2 := b2_1
        clear h1 kS S1 run1 b1_1 b2_1 bo
        have hL2 := nextL_len P0 L e
        generalize nextL P0 L e = L2 at *
        go_wp2
        go_roundw
        case rel => exact ⟨k + 1, by omega, by omega, by go_num, A', n', cap', sq', L2, rfl, run, by omega, b1, b2⟩
        case measure => simp [intOf]; omega
      · have t0 : decide ((k : Int) < (n : Int)) = true := decide_eq_true (by omega)
        have t1 : decide ((k : Int) < 40) = false := decide_eq_false (by omega)
        have hn1 : (n1 : Int) ≤ 40 := by omega
        by_cases hmk : 0 ≤ mark ∧ mark ≤ (n1 : Int)
        · obtain ⟨mk, rfl⟩ : ∃ mk : Nat, mark = (mk : Int) := ⟨mark.toNat, by omega⟩
          have hmk2 : mk ≤ n1 := by omega
          have t2 : decide ((mk : Int) < 0) = false := decide_eq_false (by omega)
          have t3 : decide ((n1 : Int) < (mk : Int)) = false := decide_eq_false (by omega)
          have hmk0 : (0 : Int) ≤ (mk : Int) := by omega
          have hmk3 : (mk : Int) ≤ (n1 : Int) := by omega
          have hu := upto25 A1 n1 c1 mk (by have := Sees.room run.lst.sees; omega) (Sees.none_ run.lst.sees)
          go_wp2_with fail
          obtain ⟨wd, ed⟩ : ∃ W, wr.drew = W := ⟨_, rfl⟩
          have hd : Below wr.heap.size wr wd := by rw [← ed]; exact (Below.refl _ _).drew
          replace run := run.on hd
          replace b1 := b1.on hd
          replace b2 := b2.on hd
          clear hd
          have kS : Below w.heap.size w wd ∧ Blk wd p1 24 P0.cs.toArray ∧ Blk wd p2 27 x.cs.toArray := ⟨run.below, b1, b2⟩
          refine wp_region_noPanic ?_
          refine wp_region_held_drew (S := (fun W => Below w.heap.size w W ∧ Blk W p1 24 P0.cs.toArray ∧ Blk W p2 27 x.cs.toArray)) (by kernel_rfl) (by rw [ed]; exact kS) (fun hHeld => ?_)
          rw [ed] at hHeld ⊢
          refine wpAnyH_take (i := 0) (oi := ⟨some 64, _, _, _, _, _⟩) (v := ?_) rfl (by kernel_rfl) (by kernel_rfl) (by kernel_rfl) (fun _ _ _ h => h) (Or.inl ⟨by rfl, ?_⟩) (by assumption) ?_
          rotate_left 1
          · (intro W hSw; go_simp <;> with_reducible rfl)
          try simp only [Act.put, List.setIfInBounds_toArray, List.set_cons_zero, List.set_cons_succ]
          refine wpAnyH_take (i := 1) (oi := ⟨some 65, _, _, _, _, _⟩) (v := ?_) rfl (by kernel_rfl) (by kernel_rfl) (by kernel_rfl) (fun _ _ _ h => h) (Or.inl ⟨by rfl, ?_⟩) (by assumption) ?_
          rotate_left 1
          · (intro W hSw; go_simp <;> with_reducible rfl)
          try simp only [Act.put, List.setIfInBounds_toArray, List.set_cons_zero, List.set_cons_succ]
          refine wpAnyH_ready (rs := [2]) (by kernel_rfl) (by simp) ?_
          refine AllReadyH.cons (o := ⟨some 66, _, _, _, _, _⟩) rfl (fun K hK => ?_) AllReadyH.nil
          go_simp
          refine (undo_yes run.mem mk (by omega) (by omega)).mono ?_
          rintro _ w1 ⟨rfl, qm1, km⟩
          have b1_1 := b1.kept km (run.mem.noturned b1 (by decide))
          have b2_1 := b2.kept km (run.mem.noturned b2 (by decide))
          have ho1 := run.lst.turned run.mem km
          have hb1 : Below w.heap.size w w1 := run.below.trans (km.under _ run.below.size (fun g e => run.far g (turned_foot e)))
          have S1 : (fun W => Below w.heap.size w W ∧ Blk W p1 24 P0.cs.toArray ∧ Blk W p2 27 x.cs.toArray) w1 := ⟨hb1, b1_1, b2_1⟩
          refine hK.out _ _ S1 (fun h1 => ?_)
          clear hHeld hK K
          try simp only [Act.put, List.setIfInBounds_toArray, List.set_cons_zero, List.set_cons_succ]
          refine wpAnyH_take (i := 3) (oi := ⟨some 67, _, _, _, _, _⟩) (v := ?_) rfl (by kernel_rfl) (by kernel_rfl) (by kernel_rfl) (fun _ _ _ h => h) (Or.inl ⟨by rfl, ?_⟩) (by assumption) ?_
          rotate_left 1
          · (intro W hSw; go_simp <;> with_reducible rfl)
          try simp only [Act.put, List.setIfInBounds_toArray, List.set_cons_zero, List.set_cons_succ]
          refine wpAnyH_take (i := 4) (oi := ⟨some 68, _, _, _, _, _⟩) (v := ?_) rfl (by kernel_rfl) (by kernel_rfl) (by kernel_rfl) (fun _ _ _ h => h) (Or.inl ⟨by rfl, ?_⟩) (by assumption) ?_
          rotate_left 1
          · (intro W hSw; go_simp <;> with_reducible rfl)
          try simp only [Act.put, List.setIfInBounds_toArray, List.set_cons_zero, List.set_cons_succ]
          refine wpAnyH_take (i := 5) (oi := ⟨some 69, _, _, _, _, _⟩) (v := ?_) rfl (by kernel_rfl) (by kernel_rfl) (by kernel_rfl) (fun _ _ _ h => h) (Or.inl ⟨by rfl, ?_⟩) (by assumption) ?_
          rotate_left 1
          · (intro W hSw; go_simp <;> with_reducible rfl)
          try simp only [Act.put, List.setIfInBounds_toArray, List.set_cons_zero, List.set_cons_succ]
          refine wpAnyH_take (i := 6) (oi := ⟨some 70, _, _, _, _, _⟩) (v := .agg (List.toArray (P0.cs))) rfl (by kernel_rfl) (by kernel_rfl) (by kernel_rfl) (fun _ _ _ h => h) (yieldsIf_load_mid (by rfl) 24 (.tmp 5) rfl p1 (0) rfl (P0.cs) _ (fun W hW => range_part hW.2.1 0 P0.cs rfl) Try.underlying24 rfl size24) (by assumption) ?_
          try simp only [Act.put, List.setIfInBounds_toArray, List.set_cons_zero, List.set_cons_succ]
          refine wpAnyH_take (i := 7) (oi := ⟨some 71, _, _, _, _, _⟩) (v := ?_) rfl (by kernel_rfl) (by kernel_rfl) (by kernel_rfl) (fun _ _ _ h => h) (Or.inl ⟨by rfl, ?_⟩) (by assumption) ?_
          rotate_left 1
          · (intro W hSw; go_simp <;> with_reducible rfl)
          try simp only [Act.put, List.setIfInBounds_toArray, List.set_cons_zero, List.set_cons_succ]
          refine wpAnyH_take (i := 8) (oi := ⟨some 72, _, _, _, _, _⟩) (v := ?_) rfl (by kernel_rfl) (by kernel_rfl) (by kernel_rfl) (fun _ _ _ h => h) (Or.inl ⟨by rfl, ?_⟩) (by assumption) ?_
          rotate_left 1
          · (intro W hSw; go_simp <;> with_reducible rfl)
          try simp only [Act.put, List.setIfInBounds_toArray, List.set_cons_zero, List.set_cons_succ]
          refine wpAnyH_take (i := 9) (oi := ⟨some 73, _, _, _, _, _⟩) (v := ?_) rfl (by kernel_rfl) (by kernel_rfl) (by kernel_rfl) (fun _ _ _ h => h) (Or.inl ⟨by rfl, ?_⟩) (by assumption) ?_
          rotate_left 1
          · (intro W hSw; go_simp <;> with_reducible rfl)
          try simp only [Act.put, List.setIfInBounds_toArray, List.set_cons_zero, List.set_cons_succ]
          refine wpAnyH_take (i := 10) (oi := ⟨some 74, _, _, _, _, _⟩) (v := .agg (List.toArray (x.cs))) rfl (by kernel_rfl) (by kernel_rfl) (by kernel_rfl) (fun _ _ _ h => h) (yieldsIf_load_mid (by rfl) 27 (.tmp 9) rfl p2 (0) rfl (x.cs) _ (fun W hW => range_part hW.2.2 0 x.cs rfl) Try.underlying27 rfl size27) (by assumption) ?_
          try simp only [Act.put, List.setIfInBounds_toArray, List.set_cons_zero, List.set_cons_succ]
          refine wpAnyH_ready (rs := [11]) (by kernel_rfl) (by simp) ?_
          refine AllReadyH.cons (o := ⟨some 75, _, _, _, _, _⟩) rfl (fun K hK => ?_) AllReadyH.nil
          go_simp
          refine (told_any qm1 hq (ho1.front (m := mk) hmk2).sees (by omega) x hx0).mono ?_
          rintro e w2 ⟨rfl, hb2⟩
          have qm_2 := qm1.on hb2
          have ho_2 := ho1.on hb2
          have b1_2 := b1_1.on hb2
          have b2_2 := b2_1.on hb2
          have S2 : (fun W => Below w.heap.size w W ∧ Blk W p1 24 P0.cs.toArray ∧ Blk W p2 27 x.cs.toArray) w2 := ⟨S1.1.trans (hb2.mono S1.1.size), S1.2.1.on hb2, S1.2.2.on hb2⟩
          refine hK.out _ _ S2 (fun h2 => ?_)
          clear h1 hK K
          try simp only [Act.put, List.setIfInBounds_toArray, List.set_cons_zero, List.set_cons_succ]
          refine wpAnyH_take (i := 12) (oi := ⟨some 76, _, _, _, _, _⟩) (v := ?_) rfl (by kernel_rfl) (by kernel_rfl) (by kernel_rfl) (fun _ _ _ h => h) (Or.inl ⟨by rfl, ?_⟩) (by assumption) ?_
          rotate_left 1
          · (intro W hSw; go_simp <;> with_reducible rfl)
          try simp only [Act.put, List.setIfInBounds_toArray, List.set_cons_zero, List.set_cons_succ]
          refine wpAnyH_take (i := 13) (oi := ⟨some 77, _, _, _, _, _⟩) (v := ?_) rfl (by kernel_rfl) (by kernel_rfl) (by kernel_rfl) (fun _ _ _ h => h) (Or.inl ⟨by rfl, ?_⟩) (by assumption) ?_
          rotate_left 1
          · (intro W hSw; go_simp <;> with_reducible rfl)
          try simp only [Act.put, List.setIfInBounds_toArray, List.set_cons_zero, List.set_cons_succ]
          refine wpAnyH_done (by kernel_rfl) ?_ _
          refine NoPanic.normal ?_
          have qm := qm_2
          have ho := ho_2
          replace b1 := b1_2
          replace b2 := b2_2
          have kk := S2.1
          have hfar := run.far
          clear h2 kS
          obtain ⟨LM, eLM⟩ : ∃ LM, L.take mk = LM := ⟨_, rfl⟩
          have hfr := (ho.front (m := mk) hmk2).sees
          rw [eLM] at qm hfr
          have hLM : LM.length = mk := SeesC.len hfr
          obtain ⟨i0, hi, hz0, hz1, hz2⟩ := info_parts info37
          have hws := kk.size
          go_wp2_with (first | (at_builtin; refine wpList_app rfl _ _ 25 rfl w.heap.size 37 i0 (.agg noC.cs.toArray) 6 48 Try.underlying25 hi hz0 hz1 hz2 rfl (by decide) none 0 0 [] rfl (World.ownsRow_nil _ _ _ _) A1 mk c1 (flatC LM) rfl hfr (flat_one Ch.one LM) (by unfold maxLen; omega) (by omega) hws ?_; intro Av cv wv ov gv _))
          have kv : Below w2.heap.size w2 wv := (kept_grown gv).under _ (Nat.le_refl _) (fun k h => by cases h)
          simp only [Nat.zero_add, List.nil_append] at ov
          replace b1 := b1.on kv
          replace b2 := b2.on kv
          replace qm := qm.on kv
          replace kk := kk.trans (kv.mono kk.size)
          obtain ⟨Ax, cx, ex, ow⟩ := own_of ov
          injection ex with ex _ ex3
          subst ex ex3
          have run2 : Run w wv m h b sp ⟨sq.A, mk, sq.cap⟩ P0 Av mk cv LM := ⟨qm, ow.lower (Nat.zero_le _), hfar, fun g e => (ow.lt e).1, kk⟩
          clear kv gv ov ow qm ho hfr run kk hfar hu hi hz0 hz1 hz2
          go_wp2_with fail
          go_loopw [14, 15] (fun f i wr => ∃ k : Nat, k ≤ n2 ∧ k ≤ 20 ∧ i = .int .i64 (k : Int) ∧ ∃ A' n' c' sq L, f = .slice A' n' c' ∧ Run w wr m h b sp sq P0 A' n' c' L ∧ L.length ≤ 40 + k ∧ Blk wr p1 24 P0.cs.toArray ∧ Blk wr p2 27 x.cs.toArray) (fun _ i _ => 20 - (intOf i).toNat)
          case atStart => exact ⟨0, Nat.zero_le _, by omega, rfl, Av, mk, cv, _, LM, rfl, run2, by omega, b1, b2⟩
          case round =>
            clear run2 b1 b2
            obtain ⟨k, hk, hkl, rfl, A3, n3, c3, sq3, L3, rfl, run, hL3, b1, b2⟩ := hrel
            have hln3 : L3.length = n3 := run.lst.sees.len
            by_cases hlt : k < n2
            · by_cases hll : k < 20
              · have t0 : decide ((k : Int) < (n2 : Int)) = true := decide_eq_true (by omega)
                have t1 : decide ((k : Int) < 20) = true := decide_eq_true (by omega)
                obtain ⟨e, hx⟩ : ∃ e, l2[k]? = some e := ⟨_, List.getElem?_eq_getElem (by have := hS2.len; omega)⟩
                have hxe : e.x.Wide := hw2 e (List.mem_of_getElem? hx)
                obtain ⟨g, o, eA, hr0⟩ := hS2.at_ hx
                subst eA
                have hrE : ∀ W, Below w.heap.size w W → W.rangeAt g (o + k * 6) e.cs := fun W hb => by
                  obtain ⟨g3, o3, e3, hr3⟩ := (hS2.on hb).at_ hx
                  injection e3 with e3
                  injection e3 with e3 e4
                  subst e3 e4
                  exact hr3
                clear hr0 hx
                have hkI : (k : Int) < (n2 : Int) := by omega
                have hk0 : (0 : Int) ≤ (k : Int) := by omega
                go_wp2_with fail
                obtain ⟨wd3, ed3⟩ : ∃ W, wr.drew = W := ⟨_, rfl⟩
                have hd : Below wr.heap.size wr wd3 := by rw [← ed3]; exact (Below.refl _ _).drew
                replace run := run.on hd
                replace b1 := b1.on hd
                replace b2 := b2.on hd
                clear hd
                have kS3 : Below w.heap.size w wd3 ∧ Blk wd3 p1 24 P0.cs.toArray ∧ Blk wd3 p2 27 x.cs.toArray := ⟨run.below, b1, b2⟩
                refine wp_region_noPanic ?_
                refine wp_region_held_drew (S := (fun W => Below w.heap.size w W ∧ Blk W p1 24 P0.cs.toArray ∧ Blk W p2 27 x.cs.toArray)) (by kernel_rfl) (by rw [ed3]; exact kS3) (fun hHeld => ?_)
                rw [ed3] at hHeld ⊢
                refine wpAnyH_take (i := 0) (oi := ⟨some 94, _, _, _, _, _⟩) (v := ?_) rfl (by kernel_rfl) (by kernel_rfl) (by kernel_rfl) (fun _ _ _ h => h) (Or.inl ⟨by rfl, ?_⟩) (by assumption) ?_
                rotate_left 1
                · (intro W hSw; go_simp <;> with_reducible rfl)
                try simp only [Act.put, List.setIfInBounds_toArray, List.set_cons_zero, List.set_cons_succ]
                refine wpAnyH_take (i := 1) (oi := ⟨some 95, _, _, _, _, _⟩) (v := .agg (List.toArray (P0.cs))) rfl (by kernel_rfl) (by kernel_rfl) (by kernel_rfl) (fun _ _ _ h => h) (yieldsIf_load_mid (by rfl) 24 (.tmp 5) rfl p1 (0) rfl (P0.cs) _ (fun W hW => range_part hW.2.1 0 P0.cs rfl) Try.underlying24 rfl size24) (by assumption) ?_
                try simp only [Act.put, List.setIfInBounds_toArray, List.set_cons_zero, List.set_cons_succ]
                refine wpAnyH_take (i := 2) (oi := ⟨some 96, _, _, _, _, _⟩) (v := ?_) rfl (by kernel_rfl) (by kernel_rfl) (by kernel_rfl) (fun _ _ _ h => h) (Or.inl ⟨by rfl, ?_⟩) (by assumption) ?_
                rotate_left 1
                · (intro W hSw; go_simp <;> with_reducible rfl)
                try simp only [Act.put, List.setIfInBounds_toArray, List.set_cons_zero, List.set_cons_succ]
                refine wpAnyH_take (i := 3) (oi := ⟨some 97, _, _, _, _, _⟩) (v := ?_) rfl (by kernel_rfl) (by kernel_rfl) (by kernel_rfl) (fun _ _ _ h => h) (Or.inl ⟨by rfl, ?_⟩) (by assumption) ?_
                rotate_left 1
                · (intro W hSw; go_simp <;> with_reducible rfl)
                try simp only [Act.put, List.setIfInBounds_toArray, List.set_cons_zero, List.set_cons_succ]
                refine wpAnyH_take (i := 4) (oi := ⟨some 98, _, _, _, _, _⟩) (v := ?_) rfl (by kernel_rfl) (by kernel_rfl) (by kernel_rfl) (fun _ _ _ h => h) (Or.inl ⟨by rfl, ?_⟩) (by assumption) ?_
                rotate_left 1
                · (intro W hSw; go_simp <;> with_reducible rfl)
                try simp only [Act.put, List.setIfInBounds_toArray, List.set_cons_zero, List.set_cons_succ]
                refine wpAnyH_take (i := 5) (oi := ⟨some 99, _, _, _, _, _⟩) (v := ?_) rfl (by kernel_rfl) (by kernel_rfl) (by kernel_rfl) (fun _ _ _ h => h) (Or.inl ⟨by rfl, ?_⟩) (by assumption) ?_
                rotate_left 1
                · (intro W hSw; go_simp <;> with_reducible rfl)
                try simp only [Act.put, List.setIfInBounds_toArray, List.set_cons_zero, List.set_cons_succ]
                refine wpAnyH_take (i := 6) (oi := ⟨some 100, _, _, _, _, _⟩) (v := .agg (List.toArray (e.cs))) rfl (by kernel_rfl) (by kernel_rfl) (by kernel_rfl) (fun _ _ _ h => h) (yieldsIf_load_mid (by rfl) 37 (.tmp 99) rfl g (o + k * 6) rfl (e.cs) _ (fun W hW => hrE W hW.1) Try.underlying37 rfl size37) (by assumption) ?_
                try simp only [Act.put, List.setIfInBounds_toArray, List.set_cons_zero, List.set_cons_succ]
                refine wpAnyH_ready (rs := [7]) (by kernel_rfl) (by simp) ?_
                refine AllReadyH.cons (o := ⟨some 101, _, _, _, _, _⟩) rfl (fun K hK => ?_) AllReadyH.nil
                go_simp
                refine (lput_any run.mem hq run.lst (by omega) e hxe).mono ?_
                rintro _ w1 ⟨sq', A', n', cap', rfl, bo⟩
                have run1 := run.put bo
                have b1_1 := bo.blk run.mem run.lst b1 (by decide) (by decide)
                have b2_1 := bo.blk run.mem run.lst b2 (by decide) (by decide)
                have S1 : (fun W => Below w.heap.size w W ∧ Blk W p1 24 P0.cs.toArray ∧ Blk W p2 27 x.cs.toArray) w1 := ⟨run1.below, b1_1, b2_1⟩
                refine hK.out _ _ S1 (fun h1 => ?_)
                clear hHeld hK K
                try simp only [Act.put, List.setIfInBounds_toArray, List.set_cons_zero, List.set_cons_succ]
                refine wpAnyH_take (i := 8) (oi := ⟨some 93, _, _, _, _, _⟩) (v := ?_) rfl (by kernel_rfl) (by kernel_rfl) (by kernel_rfl) (fun _ _ _ h => h) (Or.inl ⟨by rfl, ?_⟩) (by assumption) ?_
                rotate_left 1
                · (intro W hSw; go_simp <;> with_reducible rfl)
                try simp only [Act.put, List.setIfInBounds_toArray, List.set_cons_zero, List.set_cons_succ]
                refine wpAnyH_take (i := 9) (oi := ⟨some 102, _, _, _, _, _⟩) (v := ?_) rfl (by kernel_rfl) (by kernel_rfl) (by kernel_rfl) (fun _ _ _ h => h) (Or.inl ⟨by rfl, ?_⟩) (by assumption) ?_
                rotate_left 1
                · (intro W hSw; go_simp <;> with_reducible rfl)
                try simp only [Act.put, List.setIfInBounds_toArray, List.set_cons_zero, List.set_cons_succ]
                refine wpAnyH_take (i := 10) (oi := ⟨some 103, _, _, _, _, _⟩) (v := ?_) rfl (by kernel_rfl) (by kernel_rfl) (by kernel_rfl) (fun _ _ _ h => h) (Or.inl ⟨by rfl, ?_⟩) (by assumption) ?_
                rotate_left 1
                · (intro W hSw; go_simp <;> with_reducible rfl)
                try simp only [Act.put, List.setIfInBounds_toArray, List.set_cons_zero, List.set_cons_succ]
                refine wpAnyH_take (i := 11) (oi := ⟨some 16, _, _, _, _, _⟩) (v := ?_) rfl (by kernel_rfl) (by kernel_rfl) (by kernel_rfl) (fun _ _ _ h => h) (Or.inl ⟨by rfl, ?_⟩) (by assumption) ?_
                rotate_left 1
                · (intro W hSw; go_simp <;> with_reducible rfl)
                try simp only [Act.put, List.setIfInBounds_toArray, List.set_cons_zero, List.set_cons_succ]
                refine wpAnyH_take (i := 12) (oi := ⟨some 17, _, _, _, _, _⟩) (v := ?_) rfl (by kernel_rfl) (by kernel_rfl) (by kernel_rfl) (fun _ _ _ h => h) (Or.inl ⟨by rfl, ?_⟩) (by assumption) ?_
                rotate_left 1
                · (intro W hSw; go_simp <;> with_reducible rfl)
                try simp only [Act.put, List.setIfInBounds_toArray, List.set_cons_zero, List.set_cons_succ]
                refine wpAnyH_done (by kernel_rfl) ?_ _
                refine NoPanic.normal ?_
                replace run := run1
                replace b1 := b1_1
                replace b2 := b2_1
                clear h1 kS3 S1 run1 b1_1 b2_1 bo
                have hL4 := nextL_len P0 L3 e
                generalize nextL P0 L3 e = L4 at *
                go_wp2
                go_roundw
                case rel => exact ⟨k + 1, by omega, by omega, by go_num, A', n', cap', sq', L4, rfl, run, by omega, b1, b2⟩
                case measure => simp [intOf]; omega
              · have t0 : decide ((k : Int) < (n2 : Int)) = true := decide_eq_true (by omega)
                have t1 : decide ((k : Int) < 20) = false := decide_eq_false (by omega)
                have kk := run.below
                have hfar := run.far
                have q := run.mem
                have hlst := run.lst.sees
                clear run
                go_wp2_with (first | ((with_reducible refine at_load 24 (.tmp 5) ?_); refine wpList_load_row rfl 24 (.tmp 5) rfl p1 rfl 24 P0.cs.toArray (0, 0) _ b1 Try.underlying24 rfl size24 ?_) | ((with_reducible refine at_load 27 (.tmp 9) ?_); refine wpList_load_row rfl 27 (.tmp 9) rfl p2 rfl 27 x.cs.toArray (0, 0) _ b2 Try.underlying27 rfl size27 ?_) | ((with_reducible refine at_load 24 (.tmp 5) ?_); refine wpList_mid (by rfl) 24 (.tmp 5) rfl p1 0 rfl P0.cs _ (range_blk b1) Try.underlying24 rfl size24 ?_) | ((with_reducible refine at_load 27 (.tmp 9) ?_); refine wpList_mid (by rfl) 27 (.tmp 9) rfl p2 0 rfl x.cs _ (range_blk b2) Try.underlying27 rfl size27 ?_))
                refine (told_any q hq hlst (by omega) x hx0).mono ?_
                rintro _ wa ⟨rfl, ka⟩
                replace q := q.on ka
                replace b1 := b1.on ka
                replace b2 := b2.on ka
                replace kk := kk.trans (ka.mono kk.size)
                clear ka hlst
                go_wp2_with fail
                refine (undo_yes q 0 (by omega) (Nat.zero_le _)).mono ?_
                rintro _ wb ⟨rfl, qb, kb⟩
                replace b1 := b1.kept kb (q.noturned b1 (by decide))
                replace b2 := b2.kept kb (q.noturned b2 (by decide))
                replace kk := kk.trans (kb.under _ kk.size (fun g e => hfar g (turned_foot e)))
                clear kb q
                go_wp2_with (first | ((with_reducible refine at_load 24 (.tmp 5) ?_); refine wpList_load_row rfl 24 (.tmp 5) rfl p1 rfl 24 P0.cs.toArray (0, 0) _ b1 Try.underlying24 rfl size24 ?_) | ((with_reducible refine at_load 27 (.tmp 9) ?_); refine wpList_load_row rfl 27 (.tmp 9) rfl p2 rfl 27 x.cs.toArray (0, 0) _ b2 Try.underlying27 rfl size27 ?_) | ((with_reducible refine at_load 24 (.tmp 5) ?_); refine wpList_mid (by rfl) 24 (.tmp 5) rfl p1 0 rfl P0.cs _ (range_blk b1) Try.underlying24 rfl size24 ?_) | ((with_reducible refine at_load 27 (.tmp 9) ?_); refine wpList_mid (by rfl) 27 (.tmp 9) rfl p2 0 rfl x.cs _ (range_blk b2) Try.underlying27 rfl size27 ?_))
                refine (told_any (L := []) qb hq (seesC_nil _) (by omega) x hx0).mono ?_
                rintro _ wc ⟨rfl, kc⟩
                go_wp2
                go_ret
                exact ⟨rfl, kk.trans (kc.mono kk.size)⟩
            · have t0 : decide ((k : Int) < (n2 : Int)) = false := decide_eq_false (by omega)
              have kk := run.below
              have hfar := run.far
              have q := run.mem
              have hlst := run.lst.sees
              clear run
              go_wp2_with (first | ((with_reducible refine at_load 24 (.tmp 5) ?_); refine wpList_load_row rfl 24 (.tmp 5) rfl p1 rfl 24 P0.cs.toArray (0, 0) _ b1 Try.underlying24 rfl size24 ?_) | ((with_reducible refine at_load 27 (.tmp 9) ?_); refine wpList_load_row rfl 27 (.tmp 9) rfl p2 rfl 27 x.cs.toArray (0, 0) _ b2 Try.underlying27 rfl size27 ?_) | ((with_reducible refine at_load 24 (.tmp 5) ?_); refine wpList_mid (by rfl) 24 (.tmp 5) rfl p1 0 rfl P0.cs _ (range_blk b1) Try.underlying24 rfl size24 ?_) | ((with_reducible refine at_load 27 (.tmp 9) ?_); refine wpList_mid (by rfl) 27 (.tmp 9) rfl p2 0 rfl x.cs _ (range_blk b2) Try.underlying27 rfl size27 ?_))
              refine (told_any q hq hlst (by omega) x hx0).mono ?_
              rintro _ wa ⟨rfl, ka⟩
              replace q := q.on ka
              replace b1 := b1.on ka
              replace b2 := b2.on ka
              replace kk := kk.trans (ka.mono kk.size)
              clear ka hlst
              go_wp2_with fail
              refine (undo_yes q 0 (by omega) (Nat.zero_le _)).mono ?_
              rintro _ wb ⟨rfl, qb, kb⟩
              replace b1 := b1.kept kb (q.noturned b1 (by decide))
              replace b2 := b2.kept kb (q.noturned b2 (by decide))
              replace kk := kk.trans (kb.under _ kk.size (fun g e => hfar g (turned_foot e)))
              clear kb q
              go_wp2_with (first | ((with_reducible refine at_load 24 (.tmp 5) ?_); refine wpList_load_row rfl 24 (.tmp 5) rfl p1 rfl 24 P0.cs.toArray (0, 0) _ b1 Try.underlying24 rfl size24 ?_) | ((with_reducible refine at_load 27 (.tmp 9) ?_); refine wpList_load_row rfl 27 (.tmp 9) rfl p2 rfl 27 x.cs.toArray (0, 0) _ b2 Try.underlying27 rfl size27 ?_) | ((with_reducible refine at_load 24 (.tmp 5) ?_); refine wpList_mid (by rfl) 24 (.tmp 5) rfl p1 0 rfl P0.cs _ (range_blk b1) Try.underlying24 rfl size24 ?_) | ((with_reducible refine at_load 27 (.tmp 9) ?_); refine wpList_mid (by rfl) 27 (.tmp 9) rfl p2 0 rfl x.cs _ (range_blk b2) Try.underlying27 rfl size27 ?_))
              refine (told_any (L := []) qb hq (seesC_nil _) (by omega) x hx0).mono ?_
              rintro _ wc ⟨rfl, kc⟩
              go_wp2
              go_ret
              exact ⟨rfl, kk.trans (kc.mono kk.size)⟩
        · by_cases hneg : mark < 0
          · have t2 : decide (mark < 0) = true := decide_eq_true hneg
            have hno : inB mark 0 (L.length : Int) = false := by unfold inB; simp; omega
            have kk := run.below
            have q := run.mem
            have hlst := run.lst.sees
            clear run
            go_wp2_with fail
            refine (undo_no q mark hno).mono ?_
            rintro _ wa ⟨rfl, ka⟩
            replace q := q.on ka
            replace b1 := b1.on ka
            replace b2 := b2.on ka
            replace hlst := Sees.below hlst ka
            replace kk := kk.trans (ka.mono kk.size)
            clear ka
            go_wp2_with (first | ((with_reducible refine at_load 24 (.tmp 5) ?_); refine wpList_load_row rfl 24 (.tmp 5) rfl p1 rfl 24 P0.cs.toArray (0, 0) _ b1 Try.underlying24 rfl size24 ?_) | ((with_reducible refine at_load 27 (.tmp 9) ?_); refine wpList_load_row rfl 27 (.tmp 9) rfl p2 rfl 27 x.cs.toArray (0, 0) _ b2 Try.underlying27 rfl size27 ?_) | ((with_reducible refine at_load 24 (.tmp 5) ?_); refine wpList_mid (by rfl) 24 (.tmp 5) rfl p1 0 rfl P0.cs _ (range_blk b1) Try.underlying24 rfl size24 ?_) | ((with_reducible refine at_load 27 (.tmp 9) ?_); refine wpList_mid (by rfl) 27 (.tmp 9) rfl p2 0 rfl x.cs _ (range_blk b2) Try.underlying27 rfl size27 ?_))
            refine (told_any q hq hlst (by omega) x hx0).mono ?_
            rintro _ wb ⟨rfl, kb⟩
            go_wp2
            go_ret
            exact ⟨rfl, kk.trans (kb.mono kk.size)⟩
          · have t2 : decide (mark < 0) = false := decide_eq_false hneg
            have t3 : decide ((n1 : Int) < mark) = true := decide_eq_true (by omega)
            have hno : inB mark 0 (L.length : Int) = false := by unfold inB; simp; omega
            have kk := run.below
            have q := run.mem
            have hlst := run.lst.sees
            clear run
            go_wp2_with fail
            refine (undo_no q mark hno).mono ?_
            rintro _ wa ⟨rfl, ka⟩
            replace q := q.on ka
            replace b1 := b1.on ka
            replace b2 := b2.on ka
            replace hlst := Sees.below hlst ka
            replace kk := kk.trans (ka.mono kk.size)
            clear ka
            go_wp2_with (first | ((with_reducible refine at_load 24 (.tmp 5) ?_); refine wpList_load_row rfl 24 (.tmp 5) rfl p1 rfl 24 P0.cs.toArray (0, 0) _ b1 Try.underlying24 rfl size24 ?_) | ((with_reducible refine at_load 27 (.tmp 9) ?_); refine wpList_load_row rfl 27 (.tmp 9) rfl p2 rfl 27 x.cs.toArray (0, 0) _ b2 Try.underlying27 rfl size27 ?_) | ((with_reducible refine at_load 24 (.tmp 5) ?_); refine wpList_mid (by rfl) 24 (.tmp 5) rfl p1 0 rfl P0.cs _ (range_blk b1) Try.underlying24 rfl size24 ?_) | ((with_reducible refine at_load 27 (.tmp 9) ?_); refine wpList_mid (by rfl) 27 (.tmp 9) rfl p2 0 rfl x.cs _ (range_blk b2) Try.underlying27 rfl size27 ?_))
            refine (told_any q hq hlst (by omega) x hx0).mono ?_
            rintro _ wb ⟨rfl, kb⟩
            go_wp2
            go_ret
            exact ⟨rfl, kk.trans (kb.mono kk.size)⟩
    · have t0 : decide ((k : Int) < (n : Int)) = false := decide_eq_false (by omega)
      have hn1 : (n1 : Int) ≤ 40 := by omega
      by_cases hmk : 0 ≤ mark ∧ mark ≤ (n1 : Int)
      · obtain ⟨mk, rfl⟩ : ∃ mk : Nat, mark = (mk : Int) := ⟨mark.toNat, by omega⟩
        have hmk2 : mk ≤ n1 := by omega
        have t2 : decide ((mk : Int) < 0) = false := decide_eq_false (by omega)
        have t3 : decide ((n1 : Int) < (mk : Int)) = false := decide_eq_false (by omega)
        have hmk0 : (0 : Int) ≤ (mk : Int) := by omega
        have hmk3 : (mk : Int) ≤ (n1 : Int) := by omega
        have hu := upto25 A1 n1 c1 mk (by have := Sees.room run.lst.sees; omega) (Sees.none_ run.lst.sees)
        go_wp2_with fail
        obtain ⟨wd, ed⟩ : ∃ W, wr.drew = W := ⟨_, rfl⟩
        have hd : Below wr.heap.size wr wd := by rw [← ed]; exact (Below.refl _ _).drew
        replace run := run.on hd
        replace b1 := b1.on hd
        replace b2 := b2.on hd
        clear hd
        have kS : Below w.heap.size w wd ∧ Blk wd p1 24 P0.cs.toArray ∧ Blk wd p2 27 x.cs.toArray := ⟨run.below, b1, b2⟩
        refine wp_region_noPanic ?_
        refine wp_region_held_drew (S := (fun W => Below w.heap.size w W ∧ Blk W p1 24 P0.cs.toArray ∧ Blk W p2 27 x.cs.toArray)) (by kernel_rfl) (by rw [ed]; exact kS) (fun hHeld => ?_)
        rw [ed] at hHeld ⊢
        refine wpAnyH_take (i := 0) (oi := ⟨some 64, _, _, _, _, _⟩) (v := ?_) rfl (by kernel_rfl) (by kernel_rfl) (by kernel_rfl) (fun _ _ _ h => h) (Or.inl ⟨by rfl, ?_⟩) (by assumption) ?_
        rotate_left 1
        · (intro W hSw; go_simp <;> with_reducible rfl)
        try simp only [Act.put, List.setIfInBounds_toArray, List.set_cons_zero, List.set_cons_succ]
        refine wpAnyH_take (i := 1) (oi := ⟨some 65, _, _, _, _, _⟩) (v := ?_) rfl (by kernel_rfl) (by kernel_rfl) (by kernel_rfl) (fun _ _ _ h => h) (Or.inl ⟨by rfl, ?_⟩) (by assumption) ?_
        rotate_left 1
        · (intro W hSw; go_simp <;> with_reducible rfl)
        try simp only [Act.put, List.setIfInBounds_toArray, List.set_cons_zero, List.set_cons_succ]
        refine wpAnyH_ready (rs := [2]) (by kernel_rfl) (by simp) ?_
        refine AllReadyH.cons (o := ⟨some 66, _, _, _, _, _⟩) rfl (fun K hK => ?_) AllReadyH.nil
        go_simp
        refine (undo_yes run.mem mk (by omega) (by omega)).mono ?_
        rintro _ w1 ⟨rfl, qm1, km⟩
        have b1_1 := b1.kept km (run.mem.noturned b1 (by decide))
        have b2_1 := b2.kept km (run.mem.noturned b2 (by decide))
        have ho1 := run.lst.turned run.mem km
        have hb1 : Below w.heap.size w w1 := run.below.trans (km.under _ run.below.size (fun g e => run.far g (turned_foot e)))
        have S1 : (fun W => Below w.heap.size w W ∧ Blk W p1 24 P0.cs.toArray ∧ Blk W p2 27 x.cs.toArray) w1 := ⟨hb1, b1_1, b2_1⟩
        refine hK.out _ _ S1 (fun h1 => ?_)
        clear hHeld hK K
        try simp only [Act.put, List.setIfInBounds_toArray, List.set_cons_zero, List.set_cons_succ]
        refine wpAnyH_take (i := 3) (oi := ⟨some 67, _, _, _, _, _⟩) (v := ?_) rfl (by kernel_rfl) (by kernel_rfl) (by kernel_rfl) (fun _ _ _ h => h) (Or.inl ⟨by rfl, ?_⟩) (by assumption) ?_
        rotate_left 1
        · (intro W hSw; go_simp <;> with_reducible rfl)
        try simp only [Act.put, List.setIfInBounds_toArray, List.set_cons_zero, List.set_cons_succ]
        refine wpAnyH_take (i := 4) (oi := ⟨some 68, _, _, _, _, _⟩) (v := ?_) rfl (by kernel_rfl) (by kernel_rfl) (by kernel_rfl) (fun _ _ _ h => h) (Or.inl ⟨by rfl, ?_⟩) (by assumption) ?_
        rotate_left 1
        · (intro W hSw; go_simp <;> with_reducible rfl)
        try simp only [Act.put, List.setIfInBounds_toArray, List.set_cons_zero, List.set_cons_succ]
        refine wpAnyH_take (i := 5) (oi := ⟨some 69, _, _, _, _, _⟩) (v := ?_) rfl (by kernel_rfl) (by kernel_rfl) (by kernel_rfl) (fun _ _ _ h => h) (Or.inl ⟨by rfl, ?_⟩) (by assumption) ?_
        rotate_left 1
        · (intro W hSw; go_simp <;> with_reducible rfl)
        try simp only [Act.put, List.setIfInBounds_toArray, List.set_cons_zero, List.set_cons_succ]
        refine wpAnyH_take (i := 6) (oi := ⟨some 70, _, _, _, _, _⟩) (v := .agg (List.toArray (P0.cs))) rfl (by kernel_rfl) (by kernel_rfl) (by kernel_rfl) (fun _ _ _ h => h) (yieldsIf_load_mid (by rfl) 24 (.tmp 5) rfl p1 (0) rfl (P0.cs) _ (fun W hW => range_part hW.2.1 0 P0.cs rfl) Try.underlying24 rfl size24) (by assumption) ?_
        try simp only [Act.put, List.setIfInBounds_toArray, List.set_cons_zero, List.set_cons_succ]
        refine wpAnyH_take (i := 7) (oi := ⟨some 71, _, _, _, _, _⟩) (v := ?_) rfl (by kernel_rfl) (by kernel_rfl) (by kernel_rfl) (fun _ _ _ h => h) (Or.inl ⟨by rfl, ?_⟩) (by assumption) ?_
        rotate_left 1
        · (intro W hSw; go_simp <;> with_reducible rfl)
        try simp only [Act.put, List.setIfInBounds_toArray, List.set_cons_zero, List.set_cons_succ]
        refine wpAnyH_take (i := 8) (oi := ⟨some 72, _, _, _, _, _⟩) (v := ?_) rfl (by kernel_rfl) (by kernel_rfl) (by kernel_rfl) (fun _ _ _ h => h) (Or.inl ⟨by rfl, ?_⟩) (by assumption) ?_
        rotate_left 1
        · (intro W hSw; go_simp <;> with_reducible rfl)
        try simp only [Act.put, List.setIfInBounds_toArray, List.set_cons_zero, List.set_cons_succ]
        refine wpAnyH_take (i := 9) (oi := ⟨some 73, _, _, _, _, _⟩) (v := ?_) rfl (by kernel_rfl) (by kernel_rfl) (by kernel_rfl) (fun _ _ _ h => h) (Or.inl ⟨by rfl, ?_⟩) (by assumption) ?_
        rotate_left 1
        · (intro W hSw; go_simp <;> with_reducible rfl)
        try simp only [Act.put, List.setIfInBounds_toArray, List.set_cons_zero, List.set_cons_succ]
        refine wpAnyH_take (i := 10) (oi := ⟨some 74, _, _, _, _, _⟩) (v := .agg (List.toArray (x.cs))) rfl (by kernel_rfl) (by kernel_rfl) (by kernel_rfl) (fun _ _ _ h => h) (yieldsIf_load_mid (by rfl) 27 (.tmp 9) rfl p2 (0) rfl (x.cs) _ (fun W hW => range_part hW.2.2 0 x.cs rfl) Try.underlying27 rfl size27) (by assumption) ?_
        try simp only [Act.put, List.setIfInBounds_toArray, List.set_cons_zero, List.set_cons_succ]
        refine wpAnyH_ready (rs := [11]) (by kernel_rfl) (by simp) ?_
        refine AllReadyH.cons (o := ⟨some 75, _, _, _, _, _⟩) rfl (fun K hK => ?_) AllReadyH.nil
        go_simp
        refine (told_any qm1 hq (ho1.front (m := mk) hmk2).sees (by omega) x hx0).mono ?_
        rintro e w2 ⟨rfl, hb2⟩
        have qm_2 := qm1.on hb2
        have ho_2 := ho1.on hb2
        have b1_2 := b1_1.on hb2
        have b2_2 := b2_1.on hb2
        have S2 : (fun W => Below w.heap.size w W ∧ Blk W p1 24 P0.cs.toArray ∧ Blk W p2 27 x.cs.toArray) w2 := ⟨S1.1.trans (hb2.mono S1.1.size), S1.2.1.on hb2, S1.2.2.on hb2⟩
        refine hK.out _ _ S2 (fun h2 => ?_)
        clear h1 hK K
        try simp only [Act.put, List.setIfInBounds_toArray, List.set_cons_zero, List.set_cons_succ]
        refine wpAnyH_take (i := 12) (oi := ⟨some 76, _, _, _, _, _⟩) (v := ?_) rfl (by kernel_rfl) (by kernel_rfl) (by kernel_rfl) (fun _ _ _ h => h) (Or.inl ⟨by rfl, ?_⟩) (by assumption) ?_
        rotate_left 1
        · (intro W hSw; go_simp <;> with_reducible rfl)
        try simp only [Act.put, List.setIfInBounds_toArray, List.set_cons_zero, List.set_cons_succ]
        refine wpAnyH_take (i := 13) (oi := ⟨some 77, _, _, _, _, _⟩) (v := ?_) rfl (by kernel_rfl) (by kernel_rfl) (by kernel_rfl) (fun _ _ _ h => h) (Or.inl ⟨by rfl, ?_⟩) (by assumption) ?_
        rotate_left 1
        · (intro W hSw; go_simp <;> with_reducible rfl)
        try simp only [Act.put, List.setIfInBounds_toArray, List.set_cons_zero, List.set_cons_succ]
        refine wpAnyH_done (by kernel_rfl) ?_ _
        refine NoPanic.normal ?_
        have qm := qm_2
        have ho := ho_2
        replace b1 := b1_2
        replace b2 := b2_2
        have kk := S2.1
        have hfar := run.far
        clear h2 kS
        obtain ⟨LM, eLM⟩ : ∃ LM, L.take mk = LM := ⟨_, rfl⟩
        have hfr := (ho.front (m := mk) hmk2).sees
        rw [eLM] at qm hfr
        have hLM : LM.length = mk := SeesC.len hfr
        obtain ⟨i0, hi, hz0, hz1, hz2⟩ := info_parts info37
        have hws := kk.size
        go_wp2_with (first | (at_builtin; refine wpList_app rfl _ _ 25 rfl w.heap.size 37 i0 (.agg noC.cs.toArray) 6 48 Try.underlying25 hi hz0 hz1 hz2 rfl (by decide) none 0 0 [] rfl (World.ownsRow_nil _ _ _ _) A1 mk c1 (flatC LM) rfl hfr (flat_one Ch.one LM) (by unfold maxLen; omega) (by omega) hws ?_; intro Av cv wv ov gv _))
        have kv : Below w2.heap.size w2 wv := (kept_grown gv).under _ (Nat.le_refl _) (fun k h => by cases h)
        simp only [Nat.zero_add, List.nil_append] at ov
        replace b1 := b1.on kv
        replace b2 := b2.on kv
        replace qm := qm.on kv
        replace kk := kk.trans (kv.mono kk.size)
        obtain ⟨Ax, cx, ex, ow⟩ := own_of ov
        injection ex with ex _ ex3
        subst ex ex3
        have run2 : Run w wv m h b sp ⟨sq.A, mk, sq.cap⟩ P0 Av mk cv LM := ⟨qm, ow.lower (Nat.zero_le _), hfar, fun g e => (ow.lt e).1, kk⟩
        clear kv gv ov ow qm ho hfr run kk hfar hu hi hz0 hz1 hz2
        go_wp2_with fail
        go_loopw [14, 15] (fun f i wr => ∃ k : Nat, k ≤ n2 ∧ k ≤ 20 ∧ i = .int .i64 (k : Int) ∧ ∃ A' n' c' sq L, f = .slice A' n' c' ∧ Run w wr m h b sp sq P0 A' n' c' L ∧ L.length ≤ 40 + k ∧ Blk wr p1 24 P0.cs.toArray ∧ Blk wr p2 27 x.cs.toArray) (fun _ i _ => 20 - (intOf i).toNat)
        case atStart => exact ⟨0, Nat.zero_le _, by omega, rfl, Av, mk, cv, _, LM, rfl, run2, by omega, b1, b2⟩
        case round =>
          clear run2 b1 b2
          obtain ⟨k, hk, hkl, rfl, A3, n3, c3, sq3, L3, rfl, run, hL3, b1, b2⟩ := hrel
          have hln3 : L3.length = n3 := run.lst.sees.len
          by_cases hlt : k < n2
          · by_cases hll : k < 20
            · have t0 : decide ((k : Int) < (n2 : Int)) = true := decide_eq_true (by omega)
              have t1 : decide ((k : Int) < 20) = true := decide_eq_true (by omega)
              obtain ⟨e, hx⟩ : ∃ e, l2[k]? = some e := ⟨_, List.getElem?_eq_getElem (by have := hS2.len; omega)⟩
              have hxe : e.x.Wide := hw2 e (List.mem_of_getElem? hx)
              obtain ⟨g, o, eA, hr0⟩ := hS2.at_ hx
              subst eA
              have hrE : ∀ W, Below w.heap.size w W → W.rangeAt g (o + k * 6) e.cs := fun W hb => by
                obtain ⟨g3, o3, e3, hr3⟩ := (hS2.on hb).at_ hx
                injection e3 with e3
                injection e3 with e3 e4
                subst e3 e4
                exact hr3
              clear hr0 hx
              have hkI : (k : Int) < (n2 : Int) := by omega
              have hk0 : (0 : Int) ≤ (k : Int) := by omega
              go_wp2_with fail
              obtain ⟨wd3, ed3⟩ : ∃ W, wr.drew = W := ⟨_, rfl⟩
              have hd : Below wr.heap.size wr wd3 := by rw [← ed3]; exact (Below.refl _ _).drew
              replace run := run.on hd
              replace b1 := b1.on hd
              replace b2 := b2.on hd
              clear hd
              have kS3 : Below w.heap.size w wd3 ∧ Blk wd3 p1 24 P0.cs.toArray ∧ Blk wd3 p2 27 x.cs.toArray := ⟨run.below, b1, b2⟩
              refine wp_region_noPanic ?_
              refine wp_region_held_drew (S := (fun W => Below w.heap.size w W ∧ Blk W p1 24 P0.cs.toArray ∧ Blk W p2 27 x.cs.toArray)) (by kernel_rfl) (by rw [ed3]; exact kS3) (fun hHeld => ?_)
              rw [ed3] at hHeld ⊢
              refine wpAnyH_take (i := 0) (oi := ⟨some 94, _, _, _, _, _⟩) (v := ?_) rfl (by kernel_rfl) (by kernel_rfl) (by kernel_rfl) (fun _ _ _ h => h) (Or.inl ⟨by rfl, ?_⟩) (by assumption) ?_
              rotate_left 1
              · (intro W hSw; go_simp <;> with_reducible rfl)
              try simp only [Act.put, List.setIfInBounds_toArray, List.set_cons_zero, List.set_cons_succ]
              refine wpAnyH_take (i := 1) (oi := ⟨some 95, _, _, _, _, _⟩) (v := .agg (List.toArray (P0.cs))) rfl (by kernel_rfl) (by kernel_rfl) (by kernel_rfl) (fun _ _ _ h => h) (yieldsIf_load_mid (by rfl) 24 (.tmp 5) rfl p1 (0) rfl (P0.cs) _ (fun W hW => range_part hW.2.1 0 P0.cs rfl) Try.underlying24 rfl size24) (by assumption) ?_
              try simp only [Act.put, List.setIfInBounds_toArray, List.set_cons_zero, List.set_cons_succ]
              refine wpAnyH_take (i := 2) (oi := ⟨some 96, _, _, _, _, _⟩) (v := ?_) rfl (by kernel_rfl) (by kernel_rfl) (by kernel_rfl) (fun _ _ _ h => h) (Or.inl ⟨by rfl, ?_⟩) (by assumption) ?_
              rotate_left 1
              · (intro W hSw; go_simp <;> with_reducible rfl)
              try simp only [Act.put, List.setIfInBounds_toArray, List.set_cons_zero, List.set_cons_succ]
              refine wpAnyH_take (i := 3) (oi := ⟨some 97, _, _, _, _, _⟩) (v := ?_) rfl (by kernel_rfl) (by kernel_rfl) (by kernel_rfl) (fun _ _ _ h => h) (Or.inl ⟨by rfl, ?_⟩) (by assumption) ?_
              rotate_left 1
              · (intro W hSw; go_simp <;> with_reducible rfl)
              try simp only [Act.put, List.setIfInBounds_toArray, List.set_cons_zero, List.set_cons_succ]
              refine wpAnyH_take (i := 4) (oi := ⟨some 98, _, _, _, _, _⟩) (v := ?_) rfl (by kernel_rfl) (by kernel_rfl) (by kernel_rfl) (fun _ _ _ h => h) (Or.inl ⟨by rfl, ?_⟩) (by assumption) ?_
              rotate_left 1
              · (intro W hSw; go_simp <;> with_reducible rfl)
              try simp only [Act.put, List.setIfInBounds_toArray, List.set_cons_zero, List.set_cons_succ]
              refine wpAnyH_take (i := 5) (oi := ⟨some 99, _, _, _, _, _⟩) (v := ?_) rfl (by kernel_rfl) (by kernel_rfl) (by kernel_rfl) (fun _ _ _ h => h) (Or.inl ⟨by rfl, ?_⟩) (by assumption) ?_
              rotate_left 1
              · (intro W hSw; go_simp <;> with_reducible rfl)
              try simp only [Act.put, List.setIfInBounds_toArray, List.set_cons_zero, List.set_cons_succ]
              refine wpAnyH_take (i := 6) (oi := ⟨some 100, _, _, _, _, _⟩) (v := .agg (List.toArray (e.cs))) rfl (by kernel_rfl) (by kernel_rfl) (by kernel_rfl) (fun _ _ _ h => h) (yieldsIf_load_mid (by rfl) 37 (.tmp 99) rfl g (o + k * 6) rfl (e.cs) _ (fun W hW => hrE W hW.1) Try.underlying37 rfl size37) (by assumption) ?_
              try simp only [Act.put, List.setIfInBounds_toArray, List.set_cons_zero, List.set_cons_succ]
              refine wpAnyH_ready (rs := [7]) (by kernel_rfl) (by simp) ?_
              refine AllReadyH.cons (o := ⟨some 101, _, _, _, _, _⟩) rfl (fun K hK => ?_) AllReadyH.nil
              go_simp
              refine (lput_any run.mem hq run.lst (by omega) e hxe).mono ?_
              rintro _ w1 ⟨sq', A', n', cap', rfl, bo⟩
              have run1 := run.put bo
              have b1_1 := bo.blk run.mem run.lst b1 (by decide) (by decide)
              have b2_1 := bo.blk run.mem run.lst b2 (by decide) (by decide)
              have S1 : (fun W => Below w.heap.size w W ∧ Blk W p1 24 P0.cs.toArray ∧ Blk W p2 27 x.cs.toArray) w1 := ⟨run1.below, b1_1, b2_1⟩
              refine hK.out _ _ S1 (fun h1 => ?_)
              clear hHeld hK K
              try simp only [Act.put, List.setIfInBounds_toArray, List.set_cons_zero, List.set_cons_succ]
              refine wpAnyH_take (i := 8) (oi := ⟨some 93, _, _, _, _, _⟩) (v := ?_) rfl (by kernel_rfl) (by kernel_rfl) (by kernel_rfl) (fun _ _ _ h => h) (Or.inl ⟨by rfl, ?_⟩) (by assumption) ?_
              rotate_left 1
              · (intro W hSw; go_simp <;> with_reducible rfl)
              try simp only [Act.put, List.setIfInBounds_toArray, List.set_cons_zero, List.set_cons_succ]
              refine wpAnyH_take (i := 9) (oi := ⟨some 102, _, _, _, _, _⟩) (v := ?_) rfl (by kernel_rfl) (by kernel_rfl) (by kernel_rfl) (fun _ _ _ h => h) (Or.inl ⟨by rfl, ?_⟩) (by assumption) ?_
              rotate_left 1
              · (intro W hSw; go_simp <;> with_reducible rfl)
              try simp only [Act.put, List.setIfInBounds_toArray, List.set_cons_zero, List.set_cons_succ]
              refine wpAnyH_take (i := 10) (oi := ⟨some 103, _, _, _, _, _⟩) (v := ?_) rfl (by kernel_rfl) (by kernel_rfl) (by kernel_rfl) (fun _ _ _ h => h) (Or.inl ⟨by rfl, ?_⟩) (by assumption) ?_
              rotate_left 1
              · (intro W hSw; go_simp <;> with_reducible rfl)
              try simp only [Act.put, List.setIfInBounds_toArray, List.set_cons_zero, List.set_cons_succ]
              refine wpAnyH_take (i := 11) (oi := ⟨some 16, _, _, _, _, _⟩) (v := ?_) rfl (by kernel_rfl) (by kernel_rfl) (by kernel_rfl) (fun _ _ _ h => h) (Or.inl ⟨by rfl, ?_⟩) (by assumption) ?_
              rotate_left 1
              · (intro W hSw; go_simp <;> with_reducible rfl)
              try simp only [Act.put, List.setIfInBounds_toArray, List.set_cons_zero, List.set_cons_succ]
              refine wpAnyH_take (i := 12) (oi := ⟨some 17, _, _, _, _, _⟩) (v := ?_) rfl (by kernel_rfl) (by kernel_rfl) (by kernel_rfl) (fun _ _ _ h => h) (Or.inl ⟨by rfl, ?_⟩) (by assumption) ?_
              rotate_left 1
              · (intro W hSw; go_simp <;> with_reducible rfl)
              try simp only [Act.put, List.setIfInBounds_toArray, List.set_cons_zero, List.set_cons_succ]
              refine wpAnyH_done (by kernel_rfl) ?_ _
              refine NoPanic.normal ?_
              replace run := run1
              replace b1 := b1_1
              replace b2 := b2_1
              clear h1 kS3 S1 run1 b1_1 b2_1 bo
              have hL4 := nextL_len P0 L3 e
              generalize nextL P0 L3 e = L4 at *
              go_wp2
              go_roundw
              case rel => exact ⟨k + 1, by omega, by omega, by go_num, A', n', cap', sq', L4, rfl, run, by omega, b1, b2⟩
              case measure => simp [intOf]; omega
            · have t0 : decide ((k : Int) < (n2 : Int)) = true := decide_eq_true (by omega)
              have t1 : decide ((k : Int) < 20) = false := decide_eq_false (by omega)
              have kk := run.below
              have hfar := run.far
              have q := run.mem
              have hlst := run.lst.sees
              clear run
              go_wp2_with (first | ((with_reducible refine at_load 24 (.tmp 5) ?_); refine wpList_load_row rfl 24 (.tmp 5) rfl p1 rfl 24 P0.cs.toArray (0, 0) _ b1 Try.underlying24 rfl size24 ?_) | ((with_reducible refine at_load 27 (.tmp 9) ?_); refine wpList_load_row rfl 27 (.tmp 9) rfl p2 rfl 27 x.cs.toArray (0, 0) _ b2 Try.underlying27 rfl size27 ?_) | ((with_reducible refine at_load 24 (.tmp 5) ?_); refine wpList_mid (by rfl) 24 (.tmp 5) rfl p1 0 rfl P0.cs _ (range_blk b1) Try.underlying24 rfl size24 ?_) | ((with_reducible refine at_load 27 (.tmp 9) ?_); refine wpList_mid (by rfl) 27 (.tmp 9) rfl p2 0 rfl x.cs _ (range_blk b2) Try.underlying27 rfl size27 ?_))
              refine (told_any q hq hlst (by omega) x hx0).mono ?_
              rintro _ wa ⟨rfl, ka⟩
              replace q := q.on ka
              replace b1 := b1.on ka
              replace b2 := b2.on ka
              replace kk := kk.trans (ka.mono kk.size)
              clear ka hlst
              go_wp2_with fail
              refine (undo_yes q 0 (by omega) (Nat.zero_le _)).mono ?_
              rintro _ wb ⟨rfl, qb, kb⟩
              replace b1 := b1.kept kb (q.noturned b1 (by decide))
              replace b2 := b2.kept kb (q.noturned b2 (by decide))
              replace kk := kk.trans (kb.under _ kk.size (fun g e => hfar g (turned_foot e)))
              clear kb q
              go_wp2_with (first | ((with_reducible refine at_load 24 (.tmp 5) ?_); refine wpList_load_row rfl 24 (.tmp 5) rfl p1 rfl 24 P0.cs.toArray (0, 0) _ b1 Try.underlying24 rfl size24 ?_) | ((with_reducible refine at_load 27 (.tmp 9) ?_); refine wpList_load_row rfl 27 (.tmp 9) rfl p2 rfl 27 x.cs.toArray (0, 0) _ b2 Try.underlying27 rfl size27 ?_) | ((with_reducible refine at_load 24 (.tmp 5) ?_); refine wpList_mid (by rfl) 24 (.tmp 5) rfl p1 0 rfl P0.cs _ (range_blk b1) Try.underlying24 rfl size24 ?_) | ((with_reducible refine at_load 27 (.tmp 9) ?_); refine wpList_mid (by rfl) 27 (.tmp 9) rfl p2 0 rfl x.cs _ (range_blk b2) Try.underlying27 rfl size27 ?_))
              refine (told_any (L := []) qb hq (seesC_nil _) (by omega) x hx0).mono ?_
              rintro _ wc ⟨rfl, kc⟩
              go_wp2
              go_ret
              exact ⟨rfl, kk.trans (kc.mono kk.size)⟩
          · have t0 : decide ((k : Int) < (n2 : Int)) = false := decide_eq_false (by omega)
            have kk := run.below
            have hfar := run.far
            have q := run.mem
            have hlst := run.lst.sees
            clear run
            go_wp2_with (first | ((with_reducible refine at_load 24 (.tmp 5) ?_); refine wpList_load_row rfl 24 (.tmp 5) rfl p1 rfl 24 P0.cs.toArray (0, 0) _ b1 Try.underlying24 rfl size24 ?_) | ((with_reducible refine at_load 27 (.tmp 9) ?_); refine wpList_load_row rfl 27 (.tmp 9) rfl p2 rfl 27 x.cs.toArray (0, 0) _ b2 Try.underlying27 rfl size27 ?_) | ((with_reducible refine at_load 24 (.tmp 5) ?_); refine wpList_mid (by rfl) 24 (.tmp 5) rfl p1 0 rfl P0.cs _ (range_blk b1) Try.underlying24 rfl size24 ?_) | ((with_reducible refine at_load 27 (.tmp 9) ?_); refine wpList_mid (by rfl) 27 (.tmp 9) rfl p2 0 rfl x.cs _ (range_blk b2) Try.underlying27 rfl size27 ?_))
            refine (told_any q hq hlst (by omega) x hx0).mono ?_
            rintro _ wa ⟨rfl, ka⟩
            replace q := q.on ka
            replace b1 := b1.on ka
            replace b2 := b2.on ka
            replace kk := kk.trans (ka.mono kk.size)
            clear ka hlst
            go_wp2_with fail
            refine (undo_yes q 0 (by omega) (Nat.zero_le _)).mono ?_
            rintro _ wb ⟨rfl, qb, kb⟩
            replace b1 := b1.kept kb (q.noturned b1 (by decide))
            replace b2 := b2.kept kb (q.noturned b2 (by decide))
            replace kk := kk.trans (kb.under _ kk.size (fun g e => hfar g (turned_foot e)))
            clear kb q
            go_wp2_with (first | ((with_reducible refine at_load 24 (.tmp 5) ?_); refine wpList_load_row rfl 24 (.tmp 5) rfl p1 rfl 24 P0.cs.toArray (0, 0) _ b1 Try.underlying24 rfl size24 ?_) | ((with_reducible refine at_load 27 (.tmp 9) ?_); refine wpList_load_row rfl 27 (.tmp 9) rfl p2 rfl 27 x.cs.toArray (0, 0) _ b2 Try.underlying27 rfl size27 ?_) | ((with_reducible refine at_load 24 (.tmp 5) ?_); refine wpList_mid (by rfl) 24 (.tmp 5) rfl p1 0 rfl P0.cs _ (range_blk b1) Try.underlying24 rfl size24 ?_) | ((with_reducible refine at_load 27 (.tmp 9) ?_); refine wpList_mid (by rfl) 27 (.tmp 9) rfl p2 0 rfl x.cs _ (range_blk b2) Try.underlying27 rfl size27 ?_))
            refine (told_any (L := []) qb hq (seesC_nil _) (by omega) x hx0).mono ?_
            rintro _ wc ⟨rfl, kc⟩
            go_wp2
            go_ret
            exact ⟨rfl, kk.trans (kc.mono kk.size)⟩
      · by_cases hneg : mark < 0
        · have t2 : decide (mark < 0) = true := decide_eq_true hneg
          have hno : inB mark 0 (L.length : Int) = false := by unfold inB; simp; omega
          have kk := run.below
          have q := run.mem
          have hlst := run.lst.sees
          clear run
          go_wp2_with fail
          refine (undo_no q mark hno).mono ?_
          rintro _ wa ⟨rfl, ka⟩
          replace q := q.on ka
          replace b1 := b1.on ka
          replace b2 := b2.on ka
          replace hlst := Sees.below hlst ka
          replace kk := kk.trans (ka.mono kk.size)
          clear ka
          go_wp2_with (first | ((with_reducible refine at_load 24 (.tmp 5) ?_); refine wpList_load_row rfl 24 (.tmp 5) rfl p1 rfl 24 P0.cs.toArray (0, 0) _ b1 Try.underlying24 rfl size24 ?_) | ((with_reducible refine at_load 27 (.tmp 9) ?_); refine wpList_load_row rfl 27 (.tmp 9) rfl p2 rfl 27 x.cs.toArray (0, 0) _ b2 Try.underlying27 rfl size27 ?_) | ((with_reducible refine at_load 24 (.tmp 5) ?_); refine wpList_mid (by rfl) 24 (.tmp 5) rfl p1 0 rfl P0.cs _ (range_blk b1) Try.underlying24 rfl size24 ?_) | ((with_reducible refine at_load 27 (.tmp 9) ?_); refine wpList_mid (by rfl) 27 (.tmp 9) rfl p2 0 rfl x.cs _ (range_blk b2) Try.underlying27 rfl size27 ?_))
          refine (told_any q hq hlst (by omega) x hx0).mono ?_
          rintro _ wb ⟨rfl, kb⟩
          go_wp2
          go_ret
          exact ⟨rfl, kk.trans (kb.mono kk.size)⟩
        · have t2 : decide (mark < 0) = false := decide_eq_false hneg
          have t3 : decide ((n1 : Int) < mark) = true := decide_eq_true (by omega)
          have hno : inB mark 0 (L.length : Int) = false := by unfold inB; simp; omega
          have kk := run.below
          have q := run.mem
          have hlst := run.lst.sees
          clear run
          go_wp2_with fail
          refine (undo_no q mark hno).mono ?_
          rintro _ wa ⟨rfl, ka⟩
          replace q := q.on ka
          replace b1 := b1.on ka
          replace b2 := b2.on ka
          replace hlst := Sees.below hlst ka
          replace kk := kk.trans (ka.mono kk.size)
          clear ka
          go_wp2_with (first | ((with_reducible refine at_load 24 (.tmp 5) ?_); refine wpList_load_row rfl 24 (.tmp 5) rfl p1 rfl 24 P0.cs.toArray (0, 0) _ b1 Try.underlying24 rfl size24 ?_) | ((with_reducible refine at_load 27 (.tmp 9) ?_); refine wpList_load_row rfl 27 (.tmp 9) rfl p2 rfl 27 x.cs.toArray (0, 0) _ b2 Try.underlying27 rfl size27 ?_) | ((with_reducible refine at_load 24 (.tmp 5) ?_); refine wpList_mid (by rfl) 24 (.tmp 5) rfl p1 0 rfl P0.cs _ (range_blk b1) Try.underlying24 rfl size24 ?_) | ((with_reducible refine at_load 27 (.tmp 9) ?_); refine wpList_mid (by rfl) 27 (.tmp 9) rfl p2 0 rfl x.cs _ (range_blk b2) Try.underlying27 rfl size27 ?_))
          refine (told_any q hq hlst (by omega) x hx0).mono ?_
          rintro _ wb ⟨rfl, kb⟩
          go_wp2
          go_ret
          exact ⟨rfl, kk.trans (kb.mono kk.size)⟩
end Go.Proofs.Ytlajjadpcaobiaa
