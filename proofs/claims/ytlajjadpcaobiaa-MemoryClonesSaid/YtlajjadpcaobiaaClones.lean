/- The law of clones: a clone and its origin go on apart. Conditions: none. -/
import Derived.Test.YtlajjadpcaobiaaRuns
import Derived.Test.YtlajjadpcaobiaaMClone
namespace Go.Proofs.Ytlajjadpcaobiaa
open Go.RowKit Go.ChangeShapes Go.WideShapes

/-- Two of them, apart. -/
structure Two (w W : World) (p : Pg) (m h b : Nat) (sp sq : Sl) (A : Option Addr) (n cap : Nat) (L : List Ch) (m2 h2 b2 : Nat) (sp2 sq2 : Sl) (A2 : Option Addr) (n2 cap2 : Nat) (L2 : List Ch) : Prop where
  one : Run w W m h b sp sq p A n cap L
  two : Run w W m2 h2 b2 sp2 sq2 p A2 n2 cap2 L2
  off : ∀ g, foot m h b sp sq g → ¬ foot m2 h2 b2 sp2 sq2 g
  loff : ∀ g, blk A = some g → ¬ blk A2 = some g
section
variable {w W W' W1 W2 : World} {m h b n cap m2 h2 b2 n2 cap2 n' cap' : Nat} {sp sq sp2 sq2 sq' : Sl} {p : Pg} {A A2 A' : Option Addr} {L L2 L' : List Ch}
theorem Two.symm (q : Two w W p m h b sp sq A n cap L m2 h2 b2 sp2 sq2 A2 n2 cap2 L2) : Two w W p m2 h2 b2 sp2 sq2 A2 n2 cap2 L2 m h b sp sq A n cap L :=
  ⟨q.two, q.one, fun g h1 h2 => q.off g h2 h1, fun g h1 h2 => q.loff g h2 h1⟩
theorem Two.on (q : Two w W p m h b sp sq A n cap L m2 h2 b2 sp2 sq2 A2 n2 cap2 L2) (hb : Below W.heap.size W W') : Two w W' p m h b sp sq A n cap L m2 h2 b2 sp2 sq2 A2 n2 cap2 L2 := ⟨q.one.on hb, q.two.on hb, q.off, q.loff⟩
theorem Two.below (q : Two w W p m h b sp sq A n cap L m2 h2 b2 sp2 sq2 A2 n2 cap2 L2) : Below w.heap.size w W := q.one.below
theorem Run.nolist (q : Run w W m h b sp sq p A n cap L) (q2 : Run w W m2 h2 b2 sp2 sq2 p A2 n2 cap2 L2) {g : Nat} (hg : foot m2 h2 b2 sp2 sq2 g) : ¬ blk A = some g := fun e => by
  obtain ⟨cs, hcs⟩ := q.lst.blk_ e
  exact q2.mem.off hcs (by decide) (by decide) (by decide) (by decide) hg
theorem Two.put (q : Two w W p m h b sp sq A n cap L m2 h2 b2 sp2 sq2 A2 n2 cap2 L2) (k : Both W W' m h b sp sq sq' p A A' n' cap' L') : Two w W' p m h b sp sq' A' n' cap' L' m2 h2 b2 sp2 sq2 A2 n2 cap2 L2 := by
  have r := q.one.put k
  refine ⟨r, ⟨q.two.mem.kept k.kept (fun g hg e => e.elim (fun e => q.off g (turned_foot e) hg) (fun e => q.one.nolist q.two hg e)), q.two.lst.keeps k.kept (fun g hg e => e.elim (fun e => ?_) (fun e => q.loff g e hg)), q.two.far, q.two.lfar, r.below⟩, fun g hg hg2 => ?_, fun g hg hg2 => ?_⟩
  · exact q.two.nolist q.one (turned_foot e) hg
  · rcases hg with e | e | e | e | e
    · exact q.off g (.inl e) hg2
    · exact q.off g (.inr (.inl e)) hg2
    · exact q.off g (.inr (.inr (.inl e))) hg2
    · exact q.off g (.inr (.inr (.inr (.inl e)))) hg2
    · rcases k.past g e with e | e
      · exact q.off g (.inr (.inr (.inr (.inr e)))) hg2
      · have := q.two.mem.lt hg2
        omega
  · rcases k.lst g hg with e | e
    · exact q.loff g e hg2
    · have := (q.two.lst.lt hg2).2
      omega
theorem Two.undone (q : Two w W p m h b sp sq A n cap L m2 h2 b2 sp2 sq2 A2 n2 cap2 L2) (k : Kept (turned h b sq) W W') : Run w W' m2 h2 b2 sp2 sq2 p A2 n2 cap2 L2 :=
  ⟨q.two.mem.kept k (fun g hg e => q.off g (turned_foot e) hg), q.two.lst.keeps k (fun _ hg e => q.two.nolist q.one (turned_foot e) hg), q.two.far, q.two.lfar, q.one.below.trans (k.under _ q.one.below.size (fun g e => q.one.far g (turned_foot e)))⟩
theorem Two.make (q : Run w W m h b sp sq p A n cap L) (hb : Below W.heap.size W W1) (q2 : Mem W1 m2 h2 b2 sp2 sq2 p L2) (far2 : ∀ g, foot m2 h2 b2 sp2 sq2 g → W.heap.size ≤ g) (hb2 : Below W1.heap.size W1 W2) (ow : Own 37 W2 W1.heap.size A2 n2 cap2 L2) : Two w W2 p m h b sp sq A n cap L m2 h2 b2 sp2 sq2 A2 n2 cap2 L2 := by
  have r := (q.on hb).on hb2
  have s1 := q.below.size
  have s2 := hb.size
  refine ⟨r, ⟨q2.on hb2, ow.lower (Nat.zero_le _), fun g hg => Nat.le_trans s1 (far2 g hg), fun g e => ?_, r.below⟩, fun g h1 h2 => ?_, fun g e e2 => ?_⟩
  · have := (ow.lt e).1
    omega
  · have := q.mem.lt h1
    have := far2 g h2
    omega
  · have := ((q.on hb).lst.lt e).2
    have := (ow.lt e2).1
    omega
end
set_option maxRecDepth 100000 in
set_option maxHeartbeats 16000000 in
theorem clones_walk {w : World} (p : Pg) (hp : p.Ok) (hA : p.A = none → p.cap = 0) {A : Option Addr} {n cap : Nat} {l : List Ch} (hS : SeesC w A n cap l) (hw : ∀ e ∈ l, e.x.Wide) {A2 : Option Addr} {n2 cap2 : Nat} {l2 : List Ch} (hS2 : SeesC w A2 n2 cap2 l2) (hw2 : ∀ e ∈ l2, e.x.Wide) {A3 : Option Addr} {n3 cap3 : Nat} {l3 : List Ch} (hS3 : SeesC w A3 n3 cap3 l3) (hw3 : ∀ e ∈ l3, e.x.Wide) (x : Pl) (hx0 : x.Wide) : Calls Try.prog 5 #[.agg p.cs.toArray, .slice A n cap, .slice A2 n2 cap2, .slice A3 n3 cap3, .agg x.cs.toArray] w fun e w' => e = .returned (.bool true) ∧ Below w.heap.size w w' := by
  obtain ⟨p1, f1⟩ : ∃ p, w.heap.size = p := ⟨_, rfl⟩
  obtain ⟨W1, ea1⟩ : ∃ W, w.alloc (.cells p.cs.toArray 24) = W := ⟨_, rfl⟩
  have ka1 : Below w.heap.size w W1 := by rw [← ea1]; exact (Below.refl _ w).alloc (Nat.le_refl _) _
  have b1 : Blk W1 p1 24 p.cs.toArray := by rw [← ea1]; exact blk_new w _ 24 _ f1
  have kk : Below w.heap.size w W1 := ka1
  have hp1 : w.heap.size ≤ p1 := Nat.le_of_eq f1
  clear ka1
  obtain ⟨p2, f2⟩ : ∃ p, W1.heap.size = p := ⟨_, rfl⟩
  obtain ⟨W2, ea2⟩ : ∃ W, W1.alloc (.cells x.cs.toArray 27) = W := ⟨_, rfl⟩
  have ka2 : Below W1.heap.size W1 W2 := by rw [← ea2]; exact (Below.refl _ W1).alloc (Nat.le_refl _) _
  have b2 : Blk W2 p2 27 x.cs.toArray := by rw [← ea2]; exact blk_new W1 _ 27 _ f2
  have q1_2 : p1 < p2 := by rw [← f2]; exact b1.lt
  replace b1 := b1.on ka2
  have kk0 := kk
  replace kk := kk.trans (ka2.mono kk.size)
  have hp2 : w.heap.size ≤ p2 := by rw [← f2]; exact kk0.size
  clear ka2 kk0
  have c0 := alive_any
  have cf := few_any p hp hA
  have cn := new_any (fewP p) (fewP_ok hp)
  have hq := fewP_ok hp
  generalize hPP : fewP p = P0 at *
  clear hPP
  have lb1 := b1
  go_enter Try.func5, Try.ntmps5
  go_wp2_with fail
  refine (c0 _).mono ?_
  rintro e W3 ⟨rfl, k0⟩
  replace b1 := b1.on k0
  replace b2 := b2.on k0
  replace kk := kk.trans (k0.mono kk.size)
  clear k0
  clear lb1
  have lb1 := b1
  go_wp2_with (((with_reducible refine at_load 24 (.tmp 5) ?_); refine wpList_load_row rfl 24 (.tmp 5) rfl p1 rfl 24 p.cs.toArray (0, 0) _ lb1 Try.underlying24 rfl size24 ?_))
  refine (cf _).mono ?_
  rintro e W4 ⟨rfl, k4⟩
  replace b1 := b1.on k4
  replace b2 := b2.on k4
  replace kk := kk.trans (k4.mono kk.size)
  clear k4
  obtain ⟨W5, es5⟩ : ∃ W, W4.setRow p1 P0.cs.toArray = W := ⟨_, rfl⟩
  have bo1 := b1
  replace b2 := row_far b2 es5 (by omega)
  replace b1 : Blk W5 p1 24 P0.cs.toArray := row_named b1 es5
  replace kk := kk.trans (row_below es5 hp1 kk.size)
  clear lb1
  have lb1 := b1
  go_wp2_with (first | ((with_reducible refine at_store 24 (.tmp 5) (.tmp 21) ?_); refine wpList_store_row rfl 24 (.tmp 5) (.tmp 21) rfl p1 P0.cs.toArray rfl rfl 24 p.cs.toArray bo1 size24 rfl (Pg.onea _) ?_; rw [es5]) | ((with_reducible refine at_load 24 (.tmp 5) ?_); refine wpList_load_row rfl 24 (.tmp 5) rfl p1 rfl 24 P0.cs.toArray (0, 0) _ lb1 Try.underlying24 rfl size24 ?_))
  have hle6 := kk.size
  refine (cn _).mono ?_
  rintro e W6 ⟨m, h, b, sp, rfl, q, hfar, k6⟩
  replace b1 := b1.on k6
  replace b2 := b2.on k6
  replace kk := kk.trans (k6.mono kk.size)
  clear k6
  clear lb1 c0 cf cn
  have run : Run w W6 m h b sp ⟨none, 0, 0⟩ P0 none 0 0 [] := ⟨q, Own.nil 37 _ 0, fun g hg => Nat.le_trans hle6 (hfar g hg), fun g e => (by cases e), kk⟩
  clear q hfar kk
  go_wp2_with fail
  have hn63 : (n : Int) ≤ 9223372036854775807 := len_i64 hS.room hS.most
  have hm63 : (n2 : Int) ≤ 9223372036854775807 := len_i64 hS2.room hS2.most
  have ho63 : (n3 : Int) ≤ 9223372036854775807 := len_i64 hS3.room hS3.most
  go_loopw [12, 13] (fun f i wr => ∃ k : Nat, k ≤ n ∧ k ≤ 20 ∧ i = .int .i64 (k : Int) ∧ ∃ A' n' c' sq L, f = .slice A' n' c' ∧ Run w wr m h b sp sq P0 A' n' c' L ∧ L.length ≤ k ∧ Blk wr p1 24 P0.cs.toArray ∧ Blk wr p2 27 x.cs.toArray) (fun _ i _ => 20 - (intOf i).toNat)
  case atStart => exact ⟨0, Nat.zero_le _, by omega, rfl, none, 0, 0, ⟨none, 0, 0⟩, [], rfl, run, Nat.le_refl _, b1, b2⟩
  case round =>
    clear run b1 b2
    obtain ⟨k, hk, hkl, rfl, A1, n1, c1, sq, L, rfl, run, hL, b1, b2⟩ := hrel
    have hln : L.length = n1 := run.lst.sees.len
    by_cases hlt : k < n
    · by_cases hll : k < 20
      · have t0 : decide ((k : Int) < (n : Int)) = true := decide_eq_true (by omega)
        have t1 : decide ((k : Int) < 20) = true := decide_eq_true (by omega)
        obtain ⟨e, hx⟩ : ∃ e, l[k]? = some e := ⟨_, List.getElem?_eq_getElem (by have := hS.len; omega)⟩
        have hxe : e.x.Wide := hw e (List.mem_of_getElem? hx)
        obtain ⟨g, o, eA, hr0⟩ := hS.at_ hx
        subst eA
        have hrE : ∀ W, Below w.heap.size w W → W.rangeAt g (o + k * 6) e.cs := fun W hb => by
          obtain ⟨g3, o3, e3, hr3⟩ := (hS.on hb).at_ hx
          injection e3 with e3
          injection e3 with e3 e4
          subst e3 e4
          exact hr3
        clear hr0 hx
        have hkI : (k : Int) < (n : Int) := by omega
        have hk0 : (0 : Int) ≤ (k : Int) := by omega
        go_wp2_with fail
        obtain ⟨wd, ed⟩ : ∃ W, wr.drew = W := ⟨_, rfl⟩
        have hd : Below wr.heap.size wr wd := by rw [← ed]; exact (Below.refl _ _).drew
        replace run := run.on hd
        replace b1 := b1.on hd
        replace b2 := b2.on hd
        clear hd
        have kS : Below w.heap.size w wd ∧ Blk wd p1 24 P0.cs.toArray ∧ Blk wd p2 27 x.cs.toArray := ⟨run.below, b1, b2⟩
        refine wp_region_noPanic ?_
        refine wp_region_held_drew (S := (fun W => Below w.heap.size w W ∧ Blk W p1 24 P0.cs.toArray ∧ Blk W p2 27 x.cs.toArray)) (by kernel_rfl) (by rw [ed]; exact kS) (fun hHeld => ?_)
        rw [ed] at hHeld ⊢
        refine wpAnyH_take (i := 0) (oi := ⟨some 35, _, _, _, _, _⟩) (v := ?_) rfl (by kernel_rfl) (by kernel_rfl) (by kernel_rfl) (fun _ _ _ h => h) (Or.inl ⟨by rfl, ?_⟩) (by assumption) ?_
        rotate_left 1
        · (intro W hSw; go_simp <;> with_reducible rfl)
        try simp only [Act.put, List.setIfInBounds_toArray, List.set_cons_zero, List.set_cons_succ]
        refine wpAnyH_take (i := 1) (oi := ⟨some 36, _, _, _, _, _⟩) (v := .agg (List.toArray (P0.cs))) rfl (by kernel_rfl) (by kernel_rfl) (by kernel_rfl) (fun _ _ _ h => h) (yieldsIf_load_mid (by rfl) 24 (.tmp 5) rfl p1 (0) rfl (P0.cs) _ (fun W hW => range_part hW.2.1 0 P0.cs rfl) Try.underlying24 rfl size24) (by assumption) ?_
        try simp only [Act.put, List.setIfInBounds_toArray, List.set_cons_zero, List.set_cons_succ]
        refine wpAnyH_take (i := 2) (oi := ⟨some 37, _, _, _, _, _⟩) (v := ?_) rfl (by kernel_rfl) (by kernel_rfl) (by kernel_rfl) (fun _ _ _ h => h) (Or.inl ⟨by rfl, ?_⟩) (by assumption) ?_
        rotate_left 1
        · (intro W hSw; go_simp <;> with_reducible rfl)
        try simp only [Act.put, List.setIfInBounds_toArray, List.set_cons_zero, List.set_cons_succ]
        refine wpAnyH_take (i := 3) (oi := ⟨some 38, _, _, _, _, _⟩) (v := ?_) rfl (by kernel_rfl) (by kernel_rfl) (by kernel_rfl) (fun _ _ _ h => h) (Or.inl ⟨by rfl, ?_⟩) (by assumption) ?_
        rotate_left 1
        · (intro W hSw; go_simp <;> with_reducible rfl)
        try simp only [Act.put, List.setIfInBounds_toArray, List.set_cons_zero, List.set_cons_succ]
        refine wpAnyH_take (i := 4) (oi := ⟨some 39, _, _, _, _, _⟩) (v := ?_) rfl (by kernel_rfl) (by kernel_rfl) (by kernel_rfl) (fun _ _ _ h => h) (Or.inl ⟨by rfl, ?_⟩) (by assumption) ?_
        rotate_left 1
        · (intro W hSw; go_simp <;> with_reducible rfl)
        try simp only [Act.put, List.setIfInBounds_toArray, List.set_cons_zero, List.set_cons_succ]
        refine wpAnyH_take (i := 5) (oi := ⟨some 40, _, _, _, _, _⟩) (v := ?_) rfl (by kernel_rfl) (by kernel_rfl) (by kernel_rfl) (fun _ _ _ h => h) (Or.inl ⟨by rfl, ?_⟩) (by assumption) ?_
        rotate_left 1
        · (intro W hSw; go_simp <;> with_reducible rfl)
        try simp only [Act.put, List.setIfInBounds_toArray, List.set_cons_zero, List.set_cons_succ]
        refine wpAnyH_take (i := 6) (oi := ⟨some 41, _, _, _, _, _⟩) (v := .agg (List.toArray (e.cs))) rfl (by kernel_rfl) (by kernel_rfl) (by kernel_rfl) (fun _ _ _ h => h) (yieldsIf_load_mid (by rfl) 37 (.tmp 40) rfl g (o + k * 6) rfl (e.cs) _ (fun W hW => hrE W hW.1) Try.underlying37 rfl size37) (by assumption) ?_
        try simp only [Act.put, List.setIfInBounds_toArray, List.set_cons_zero, List.set_cons_succ]
        refine wpAnyH_ready (rs := [7]) (by kernel_rfl) (by simp) ?_
        refine AllReadyH.cons (o := ⟨some 42, _, _, _, _, _⟩) rfl (fun K hK => ?_) AllReadyH.nil
        go_simp
        refine (lput_any run.mem hq run.lst (by omega) e hxe).mono ?_
        rintro _ w1 ⟨sq', A', n', cap', rfl, bo⟩
        have run1 := run.put bo
        have b1_1 := bo.blk run.mem run.lst b1 (by decide) (by decide)
        have b2_1 := bo.blk run.mem run.lst b2 (by decide) (by decide)
        have S1 : (fun W => Below w.heap.size w W ∧ Blk W p1 24 P0.cs.toArray ∧ Blk W p2 27 x.cs.toArray) w1 := ⟨run1.below, b1_1, b2_1⟩
        refine hK.out _ _ S1 (fun h1 => ?_)
        clear hHeld hK K
        try simp only [Act.put, List.setIfInBounds_toArray, List.set_cons_zero, List.set_cons_succ]
        refine wpAnyH_take (i := 8) (oi := ⟨some 34, _, _, _, _, _⟩) (v := ?_) rfl (by kernel_rfl) (by kernel_rfl) (by kernel_rfl) (fun _ _ _ h => h) (Or.inl ⟨by rfl, ?_⟩) (by assumption) ?_
        rotate_left 1
        · (intro W hSw; go_simp <;> with_reducible rfl)
        try simp only [Act.put, List.setIfInBounds_toArray, List.set_cons_zero, List.set_cons_succ]
        refine wpAnyH_take (i := 9) (oi := ⟨some 43, _, _, _, _, _⟩) (v := ?_) rfl (by kernel_rfl) (by kernel_rfl) (by kernel_rfl) (fun _ _ _ h => h) (Or.inl ⟨by rfl, ?_⟩) (by assumption) ?_
        rotate_left 1
        · (intro W hSw; go_simp <;> with_reducible rfl)
        try simp only [Act.put, List.setIfInBounds_toArray, List.set_cons_zero, List.set_cons_succ]
        refine wpAnyH_take (i := 10) (oi := ⟨some 44, _, _, _, _, _⟩) (v := ?_) rfl (by kernel_rfl) (by kernel_rfl) (by kernel_rfl) (fun _ _ _ h => h) (Or.inl ⟨by rfl, ?_⟩) (by assumption) ?_
        rotate_left 1
        · (intro W hSw; go_simp <;> with_reducible rfl)
        try simp only [Act.put, List.setIfInBounds_toArray, List.set_cons_zero, List.set_cons_succ]
        refine wpAnyH_take (i := 11) (oi := ⟨some 12, _, _, _, _, _⟩) (v := ?_) rfl (by kernel_rfl) (by kernel_rfl) (by kernel_rfl) (fun _ _ _ h => h) (Or.inl ⟨by rfl, ?_⟩) (by assumption) ?_
        rotate_left 1
        · (intro W hSw; go_simp <;> with_reducible rfl)
        try simp only [Act.put, List.setIfInBounds_toArray, List.set_cons_zero, List.set_cons_succ]
        refine wpAnyH_done (by kernel_rfl) ?_ _
        refine NoPanic.normal ?_
        replace run := run1
        replace b1 := b1_1
        replace b2 := b2_1
        clear h1 kS S1 run1 b1_1 b2_1 bo
        have hL2 := nextL_len P0 L e
        generalize nextL P0 L e = L2 at *
        go_wp2
        go_roundw
        case rel => exact ⟨k + 1, by omega, by omega, by go_num, A', n', cap', sq', L2, rfl, run, by omega, b1, b2⟩
        case measure => simp [intOf]; omega
      · have t0 : decide ((k : Int) < (n : Int)) = true := decide_eq_true (by omega)
        have t1 : decide ((k : Int) < 20) = false := decide_eq_false (by omega)
        go_wp2_with fail
        refine (mclone_any run.mem (by omega)).mono ?_
        rintro _ wc ⟨mB, hB, bB, spB, sqB, rfl, _, qB, farB, kc⟩
        replace b1 := b1.on kc
        replace b2 := b2.on kc
        have hfr := (run.on kc).lst.sees
        obtain ⟨i0, hi, hz0, hz1, hz2⟩ := info_parts info37
        go_wp2_with (first | (at_builtin; refine wpList_app rfl _ _ 25 rfl wc.heap.size 37 i0 (.agg noC.cs.toArray) 6 48 Try.underlying25 hi hz0 hz1 hz2 rfl (by decide) none 0 0 [] rfl (World.ownsRow_nil _ _ _ _) A1 n1 c1 (flatC L) rfl hfr (flat_one Ch.one L) (by unfold maxLen; omega) (by omega) (Nat.le_refl _) ?_; intro Av cv wv ov gv _))
        have kv : Below wc.heap.size wc wv := (kept_grown gv).under _ (Nat.le_refl _) (fun k h => by cases h)
        simp only [Nat.zero_add, List.nil_append] at ov
        replace b1 := b1.on kv
        replace b2 := b2.on kv
        obtain ⟨Ax, cx, ex, ow⟩ := own_of ov
        injection ex with ex _ ex3
        subst ex ex3
        have T := Two.make run kc qB farB kv ow
        clear kc kv gv ov ow hfr run qB farB hi hz0 hz1 hz2
        go_wp2_with fail
        go_loopw [12, 16] (fun f i wr => ∃ k : Nat, k ≤ n2 ∧ k ≤ 20 ∧ i = .int .i64 (k : Int) ∧ ∃ Ay ny cy sqy Ly, f = .slice Ay ny cy ∧ Two w wr P0 m h b sp sqy Ay ny cy Ly mB hB bB spB sqB Av n1 cv L ∧ Ly.length ≤ 20 + k ∧ Blk wr p1 24 P0.cs.toArray ∧ Blk wr p2 27 x.cs.toArray) (fun _ i _ => 20 - (intOf i).toNat)
        case atStart => exact ⟨0, Nat.zero_le _, by omega, rfl, A1, n1, c1, sq, L, rfl, T, by omega, b1, b2⟩
        case round =>
          clear T b1 b2
          obtain ⟨k, hk, hkl, rfl, A2x, n2x, c2x, sq2, L2x, rfl, T, hL2, b1, b2⟩ := hrel
          have hln2 : L2x.length = n2x := T.one.lst.sees.len
          by_cases hlt : k < n2
          · by_cases hll : k < 20
            · have t0 : decide ((k : Int) < (n2 : Int)) = true := decide_eq_true (by omega)
              have t1 : decide ((k : Int) < 20) = true := decide_eq_true (by omega)
              obtain ⟨e, hx⟩ : ∃ e, l2[k]? = some e := ⟨_, List.getElem?_eq_getElem (by have := hS2.len; omega)⟩
              have hxe : e.x.Wide := hw2 e (List.mem_of_getElem? hx)
              obtain ⟨g, o, eA, hr0⟩ := hS2.at_ hx
              subst eA
              have hrE : ∀ W, Below w.heap.size w W → W.rangeAt g (o + k * 6) e.cs := fun W hb => by
                obtain ⟨g3, o3, e3, hr3⟩ := (hS2.on hb).at_ hx
                injection e3 with e3
                injection e3 with e3 e4
                subst e3 e4
                exact hr3
              clear hr0 hx
              have hkI : (k : Int) < (n2 : Int) := by omega
              have hk0 : (0 : Int) ≤ (k : Int) := by omega
              go_wp2_with fail
              obtain ⟨wd, ed⟩ : ∃ W, wr.drew = W := ⟨_, rfl⟩
              have hd : Below wr.heap.size wr wd := by rw [← ed]; exact (Below.refl _ _).drew
              replace T := T.on hd
              replace b1 := b1.on hd
              replace b2 := b2.on hd
              clear hd
              have kS : Below w.heap.size w wd ∧ Blk wd p1 24 P0.cs.toArray ∧ Blk wd p2 27 x.cs.toArray := ⟨T.below, b1, b2⟩
              refine wp_region_noPanic ?_
              refine wp_region_held_drew (S := (fun W => Below w.heap.size w W ∧ Blk W p1 24 P0.cs.toArray ∧ Blk W p2 27 x.cs.toArray)) (by kernel_rfl) (by rw [ed]; exact kS) (fun hHeld => ?_)
              rw [ed] at hHeld ⊢
              refine wpAnyH_take (i := 0) (oi := ⟨some 61, _, _, _, _, _⟩) (v := ?_) rfl (by kernel_rfl) (by kernel_rfl) (by kernel_rfl) (fun _ _ _ h => h) (Or.inl ⟨by rfl, ?_⟩) (by assumption) ?_
              rotate_left 1
              · (intro W hSw; go_simp <;> with_reducible rfl)
              try simp only [Act.put, List.setIfInBounds_toArray, List.set_cons_zero, List.set_cons_succ]
              refine wpAnyH_take (i := 1) (oi := ⟨some 62, _, _, _, _, _⟩) (v := .agg (List.toArray (P0.cs))) rfl (by kernel_rfl) (by kernel_rfl) (by kernel_rfl) (fun _ _ _ h => h) (yieldsIf_load_mid (by rfl) 24 (.tmp 5) rfl p1 (0) rfl (P0.cs) _ (fun W hW => range_part hW.2.1 0 P0.cs rfl) Try.underlying24 rfl size24) (by assumption) ?_
              try simp only [Act.put, List.setIfInBounds_toArray, List.set_cons_zero, List.set_cons_succ]
              refine wpAnyH_take (i := 2) (oi := ⟨some 63, _, _, _, _, _⟩) (v := ?_) rfl (by kernel_rfl) (by kernel_rfl) (by kernel_rfl) (fun _ _ _ h => h) (Or.inl ⟨by rfl, ?_⟩) (by assumption) ?_
              rotate_left 1
              · (intro W hSw; go_simp <;> with_reducible rfl)
              try simp only [Act.put, List.setIfInBounds_toArray, List.set_cons_zero, List.set_cons_succ]
              refine wpAnyH_take (i := 3) (oi := ⟨some 64, _, _, _, _, _⟩) (v := ?_) rfl (by kernel_rfl) (by kernel_rfl) (by kernel_rfl) (fun _ _ _ h => h) (Or.inl ⟨by rfl, ?_⟩) (by assumption) ?_
              rotate_left 1
              · (intro W hSw; go_simp <;> with_reducible rfl)
              try simp only [Act.put, List.setIfInBounds_toArray, List.set_cons_zero, List.set_cons_succ]
              refine wpAnyH_take (i := 4) (oi := ⟨some 65, _, _, _, _, _⟩) (v := ?_) rfl (by kernel_rfl) (by kernel_rfl) (by kernel_rfl) (fun _ _ _ h => h) (Or.inl ⟨by rfl, ?_⟩) (by assumption) ?_
              rotate_left 1
              · (intro W hSw; go_simp <;> with_reducible rfl)
              try simp only [Act.put, List.setIfInBounds_toArray, List.set_cons_zero, List.set_cons_succ]
              refine wpAnyH_take (i := 5) (oi := ⟨some 66, _, _, _, _, _⟩) (v := ?_) rfl (by kernel_rfl) (by kernel_rfl) (by kernel_rfl) (fun _ _ _ h => h) (Or.inl ⟨by rfl, ?_⟩) (by assumption) ?_
              rotate_left 1
              · (intro W hSw; go_simp <;> with_reducible rfl)
              try simp only [Act.put, List.setIfInBounds_toArray, List.set_cons_zero, List.set_cons_succ]
              refine wpAnyH_take (i := 6) (oi := ⟨some 67, _, _, _, _, _⟩) (v := .agg (List.toArray (e.cs))) rfl (by kernel_rfl) (by kernel_rfl) (by kernel_rfl) (fun _ _ _ h => h) (yieldsIf_load_mid (by rfl) 37 (.tmp 66) rfl g (o + k * 6) rfl (e.cs) _ (fun W hW => hrE W hW.1) Try.underlying37 rfl size37) (by assumption) ?_
              try simp only [Act.put, List.setIfInBounds_toArray, List.set_cons_zero, List.set_cons_succ]
              refine wpAnyH_ready (rs := [7]) (by kernel_rfl) (by simp) ?_
              refine AllReadyH.cons (o := ⟨some 68, _, _, _, _, _⟩) rfl (fun K hK => ?_) AllReadyH.nil
              go_simp
              refine (lput_any T.one.mem hq T.one.lst (by omega) e hxe).mono ?_
              rintro _ w1 ⟨sq', A', n', cap', rfl, bo⟩
              have T1 := T.put bo
              have b1_1 := bo.blk T.one.mem T.one.lst b1 (by decide) (by decide)
              have b2_1 := bo.blk T.one.mem T.one.lst b2 (by decide) (by decide)
              have S1 : (fun W => Below w.heap.size w W ∧ Blk W p1 24 P0.cs.toArray ∧ Blk W p2 27 x.cs.toArray) w1 := ⟨T1.below, b1_1, b2_1⟩
              refine hK.out _ _ S1 (fun h1 => ?_)
              clear hHeld hK K
              try simp only [Act.put, List.setIfInBounds_toArray, List.set_cons_zero, List.set_cons_succ]
              refine wpAnyH_take (i := 8) (oi := ⟨some 60, _, _, _, _, _⟩) (v := ?_) rfl (by kernel_rfl) (by kernel_rfl) (by kernel_rfl) (fun _ _ _ h => h) (Or.inl ⟨by rfl, ?_⟩) (by assumption) ?_
              rotate_left 1
              · (intro W hSw; go_simp <;> with_reducible rfl)
              try simp only [Act.put, List.setIfInBounds_toArray, List.set_cons_zero, List.set_cons_succ]
              refine wpAnyH_take (i := 9) (oi := ⟨some 69, _, _, _, _, _⟩) (v := ?_) rfl (by kernel_rfl) (by kernel_rfl) (by kernel_rfl) (fun _ _ _ h => h) (Or.inl ⟨by rfl, ?_⟩) (by assumption) ?_
              rotate_left 1
              · (intro W hSw; go_simp <;> with_reducible rfl)
              try simp only [Act.put, List.setIfInBounds_toArray, List.set_cons_zero, List.set_cons_succ]
              refine wpAnyH_take (i := 10) (oi := ⟨some 70, _, _, _, _, _⟩) (v := ?_) rfl (by kernel_rfl) (by kernel_rfl) (by kernel_rfl) (fun _ _ _ h => h) (Or.inl ⟨by rfl, ?_⟩) (by assumption) ?_
              rotate_left 1
              · (intro W hSw; go_simp <;> with_reducible rfl)
              try simp only [Act.put, List.setIfInBounds_toArray, List.set_cons_zero, List.set_cons_succ]
              refine wpAnyH_take (i := 11) (oi := ⟨some 12, _, _, _, _, _⟩) (v := ?_) rfl (by kernel_rfl) (by kernel_rfl) (by kernel_rfl) (fun _ _ _ h => h) (Or.inl ⟨by rfl, ?_⟩) (by assumption) ?_
              rotate_left 1
              · (intro W hSw; go_simp <;> with_reducible rfl)
              try simp only [Act.put, List.setIfInBounds_toArray, List.set_cons_zero, List.set_cons_succ]
              refine wpAnyH_done (by kernel_rfl) ?_ _
              refine NoPanic.normal ?_
              replace T := T1
              replace b1 := b1_1
              replace b2 := b2_1
              clear h1 kS S1 T1 b1_1 b2_1 bo
              have hL9 := nextL_len P0 L2x e
              generalize nextL P0 L2x e = L9 at *
              go_wp2
              go_roundw
              case rel => exact ⟨k + 1, by omega, by omega, by go_num, A', n', cap', sq', L9, rfl, T, by omega, b1, b2⟩
              case measure => simp [intOf]; omega
            · have t0 : decide ((k : Int) < (n2 : Int)) = true := decide_eq_true (by omega)
              have t1 : decide ((k : Int) < 20) = false := decide_eq_false (by omega)
              replace T := T.symm
              go_wp2_with fail
              go_loopw [15, 17] (fun f i wr => ∃ k : Nat, k ≤ n3 ∧ k ≤ 20 ∧ i = .int .i64 (k : Int) ∧ ∃ Ay ny cy sqy Ly, f = .slice Ay ny cy ∧ Two w wr P0 mB hB bB spB sqy Ay ny cy Ly m h b sp sq2 A2x n2x c2x L2x ∧ Ly.length ≤ 20 + k ∧ Blk wr p1 24 P0.cs.toArray ∧ Blk wr p2 27 x.cs.toArray) (fun _ i _ => 20 - (intOf i).toNat)
              case atStart => exact ⟨0, Nat.zero_le _, by omega, rfl, Av, n1, cv, sqB, L, rfl, T, by omega, b1, b2⟩
              case round =>
                clear T b1 b2
                obtain ⟨k, hk, hkl, rfl, A3x, n3x, c3x, sq3, L3x, rfl, T, hL3, b1, b2⟩ := hrel
                have hln3 : L3x.length = n3x := T.one.lst.sees.len
                by_cases hlt : k < n3
                · by_cases hll : k < 20
                  · have t0 : decide ((k : Int) < (n3 : Int)) = true := decide_eq_true (by omega)
                    have t1 : decide ((k : Int) < 20) = true := decide_eq_true (by omega)
                    obtain ⟨e, hx⟩ : ∃ e, l3[k]? = some e := ⟨_, List.getElem?_eq_getElem (by have := hS3.len; omega)⟩
                    have hxe : e.x.Wide := hw3 e (List.mem_of_getElem? hx)
                    obtain ⟨g, o, eA, hr0⟩ := hS3.at_ hx
                    subst eA
                    have hrE : ∀ W, Below w.heap.size w W → W.rangeAt g (o + k * 6) e.cs := fun W hb => by
                      obtain ⟨g3, o3, e3, hr3⟩ := (hS3.on hb).at_ hx
                      injection e3 with e3
                      injection e3 with e3 e4
                      subst e3 e4
                      exact hr3
                    clear hr0 hx
                    have hkI : (k : Int) < (n3 : Int) := by omega
                    have hk0 : (0 : Int) ≤ (k : Int) := by omega
                    go_wp2_with fail
                    obtain ⟨wd, ed⟩ : ∃ W, wr.drew = W := ⟨_, rfl⟩
                    have hd : Below wr.heap.size wr wd := by rw [← ed]; exact (Below.refl _ _).drew
                    replace T := T.on hd
                    replace b1 := b1.on hd
                    replace b2 := b2.on hd
                    clear hd
                    have kS : Below w.heap.size w wd ∧ Blk wd p1 24 P0.cs.toArray ∧ Blk wd p2 27 x.cs.toArray := ⟨T.below, b1, b2⟩
                    refine wp_region_noPanic ?_
                    refine wp_region_held_drew (S := (fun W => Below w.heap.size w W ∧ Blk W p1 24 P0.cs.toArray ∧ Blk W p2 27 x.cs.toArray)) (by kernel_rfl) (by rw [ed]; exact kS) (fun hHeld => ?_)
                    rw [ed] at hHeld ⊢
                    refine wpAnyH_take (i := 0) (oi := ⟨some 82, _, _, _, _, _⟩) (v := ?_) rfl (by kernel_rfl) (by kernel_rfl) (by kernel_rfl) (fun _ _ _ h => h) (Or.inl ⟨by rfl, ?_⟩) (by assumption) ?_
                    rotate_left 1
                    · (intro W hSw; go_simp <;> with_reducible rfl)
                    try simp only [Act.put, List.setIfInBounds_toArray, List.set_cons_zero, List.set_cons_succ]
                    refine wpAnyH_take (i := 1) (oi := ⟨some 83, _, _, _, _, _⟩) (v := .agg (List.toArray (P0.cs))) rfl (by kernel_rfl) (by kernel_rfl) (by kernel_rfl) (fun _ _ _ h => h) (yieldsIf_load_mid (by rfl) 24 (.tmp 5) rfl p1 (0) rfl (P0.cs) _ (fun W hW => range_part hW.2.1 0 P0.cs rfl) Try.underlying24 rfl size24) (by assumption) ?_
                    try simp only [Act.put, List.setIfInBounds_toArray, List.set_cons_zero, List.set_cons_succ]
                    refine wpAnyH_take (i := 2) (oi := ⟨some 84, _, _, _, _, _⟩) (v := ?_) rfl (by kernel_rfl) (by kernel_rfl) (by kernel_rfl) (fun _ _ _ h => h) (Or.inl ⟨by rfl, ?_⟩) (by assumption) ?_
                    rotate_left 1
                    · (intro W hSw; go_simp <;> with_reducible rfl)
                    try simp only [Act.put, List.setIfInBounds_toArray, List.set_cons_zero, List.set_cons_succ]
                    refine wpAnyH_take (i := 3) (oi := ⟨some 85, _, _, _, _, _⟩) (v := ?_) rfl (by kernel_rfl) (by kernel_rfl) (by kernel_rfl) (fun _ _ _ h => h) (Or.inl ⟨by rfl, ?_⟩) (by assumption) ?_
                    rotate_left 1
                    · (intro W hSw; go_simp <;> with_reducible rfl)
                    try simp only [Act.put, List.setIfInBounds_toArray, List.set_cons_zero, List.set_cons_succ]
                    refine wpAnyH_take (i := 4) (oi := ⟨some 86, _, _, _, _, _⟩) (v := ?_) rfl (by kernel_rfl) (by kernel_rfl) (by kernel_rfl) (fun _ _ _ h => h) (Or.inl ⟨by rfl, ?_⟩) (by assumption) ?_
                    rotate_left 1
                    · (intro W hSw; go_simp <;> with_reducible rfl)
                    try simp only [Act.put, List.setIfInBounds_toArray, List.set_cons_zero, List.set_cons_succ]
                    refine wpAnyH_take (i := 5) (oi := ⟨some 87, _, _, _, _, _⟩) (v := ?_) rfl (by kernel_rfl) (by kernel_rfl) (by kernel_rfl) (fun _ _ _ h => h) (Or.inl ⟨by rfl, ?_⟩) (by assumption) ?_
                    rotate_left 1
                    · (intro W hSw; go_simp <;> with_reducible rfl)
                    try simp only [Act.put, List.setIfInBounds_toArray, List.set_cons_zero, List.set_cons_succ]
                    refine wpAnyH_take (i := 6) (oi := ⟨some 88, _, _, _, _, _⟩) (v := .agg (List.toArray (e.cs))) rfl (by kernel_rfl) (by kernel_rfl) (by kernel_rfl) (fun _ _ _ h => h) (yieldsIf_load_mid (by rfl) 37 (.tmp 87) rfl g (o + k * 6) rfl (e.cs) _ (fun W hW => hrE W hW.1) Try.underlying37 rfl size37) (by assumption) ?_
                    try simp only [Act.put, List.setIfInBounds_toArray, List.set_cons_zero, List.set_cons_succ]
                    refine wpAnyH_ready (rs := [7]) (by kernel_rfl) (by simp) ?_
                    refine AllReadyH.cons (o := ⟨some 89, _, _, _, _, _⟩) rfl (fun K hK => ?_) AllReadyH.nil
                    go_simp
                    refine (lput_any T.one.mem hq T.one.lst (by omega) e hxe).mono ?_
                    rintro _ w1 ⟨sq', A', n', cap', rfl, bo⟩
                    have T1 := T.put bo
                    have b1_1 := bo.blk T.one.mem T.one.lst b1 (by decide) (by decide)
                    have b2_1 := bo.blk T.one.mem T.one.lst b2 (by decide) (by decide)
                    have S1 : (fun W => Below w.heap.size w W ∧ Blk W p1 24 P0.cs.toArray ∧ Blk W p2 27 x.cs.toArray) w1 := ⟨T1.below, b1_1, b2_1⟩
                    refine hK.out _ _ S1 (fun h1 => ?_)
                    clear hHeld hK K
                    try simp only [Act.put, List.setIfInBounds_toArray, List.set_cons_zero, List.set_cons_succ]
                    refine wpAnyH_take (i := 8) (oi := ⟨some 81, _, _, _, _, _⟩) (v := ?_) rfl (by kernel_rfl) (by kernel_rfl) (by kernel_rfl) (fun _ _ _ h => h) (Or.inl ⟨by rfl, ?_⟩) (by assumption) ?_
                    rotate_left 1
                    · (intro W hSw; go_simp <;> with_reducible rfl)
                    try simp only [Act.put, List.setIfInBounds_toArray, List.set_cons_zero, List.set_cons_succ]
                    refine wpAnyH_take (i := 9) (oi := ⟨some 90, _, _, _, _, _⟩) (v := ?_) rfl (by kernel_rfl) (by kernel_rfl) (by kernel_rfl) (fun _ _ _ h => h) (Or.inl ⟨by rfl, ?_⟩) (by assumption) ?_
                    rotate_left 1
                    · (intro W hSw; go_simp <;> with_reducible rfl)
                    try simp only [Act.put, List.setIfInBounds_toArray, List.set_cons_zero, List.set_cons_succ]
                    refine wpAnyH_take (i := 10) (oi := ⟨some 91, _, _, _, _, _⟩) (v := ?_) rfl (by kernel_rfl) (by kernel_rfl) (by kernel_rfl) (fun _ _ _ h => h) (Or.inl ⟨by rfl, ?_⟩) (by assumption) ?_
                    rotate_left 1
                    · (intro W hSw; go_simp <;> with_reducible rfl)
                    try simp only [Act.put, List.setIfInBounds_toArray, List.set_cons_zero, List.set_cons_succ]
                    refine wpAnyH_take (i := 11) (oi := ⟨some 15, _, _, _, _, _⟩) (v := ?_) rfl (by kernel_rfl) (by kernel_rfl) (by kernel_rfl) (fun _ _ _ h => h) (Or.inl ⟨by rfl, ?_⟩) (by assumption) ?_
                    rotate_left 1
                    · (intro W hSw; go_simp <;> with_reducible rfl)
                    try simp only [Act.put, List.setIfInBounds_toArray, List.set_cons_zero, List.set_cons_succ]
                    refine wpAnyH_done (by kernel_rfl) ?_ _
                    refine NoPanic.normal ?_
                    replace T := T1
                    replace b1 := b1_1
                    replace b2 := b2_1
                    clear h1 kS S1 T1 b1_1 b2_1 bo
                    have hL9 := nextL_len P0 L3x e
                    generalize nextL P0 L3x e = L9 at *
                    go_wp2
                    go_roundw
                    case rel => exact ⟨k + 1, by omega, by omega, by go_num, A', n', cap', sq', L9, rfl, T, by omega, b1, b2⟩
                    case measure => simp [intOf]; omega
                  · have t0 : decide ((k : Int) < (n3 : Int)) = true := decide_eq_true (by omega)
                    have t1 : decide ((k : Int) < 20) = false := decide_eq_false (by omega)
                    go_wp2_with (first | ((with_reducible refine at_load 24 (.tmp 5) ?_); refine wpList_load_row rfl 24 (.tmp 5) rfl p1 rfl 24 P0.cs.toArray (0, 0) _ b1 Try.underlying24 rfl size24 ?_) | ((with_reducible refine at_load 27 (.tmp 9) ?_); refine wpList_load_row rfl 27 (.tmp 9) rfl p2 rfl 27 x.cs.toArray (0, 0) _ b2 Try.underlying27 rfl size27 ?_) | ((with_reducible refine at_load 24 (.tmp 5) ?_); refine wpList_mid (by rfl) 24 (.tmp 5) rfl p1 0 rfl P0.cs _ (range_blk b1) Try.underlying24 rfl size24 ?_) | ((with_reducible refine at_load 27 (.tmp 9) ?_); refine wpList_mid (by rfl) 27 (.tmp 9) rfl p2 0 rfl x.cs _ (range_blk b2) Try.underlying27 rfl size27 ?_))
                    refine (told_any T.two.mem hq T.two.lst.sees (by omega) x hx0).mono ?_
                    rintro _ wa ⟨rfl, ka⟩
                    replace T := T.on ka
                    replace b1 := b1.on ka
                    replace b2 := b2.on ka
                    clear ka
                    go_wp2_with (first | ((with_reducible refine at_load 24 (.tmp 5) ?_); refine wpList_load_row rfl 24 (.tmp 5) rfl p1 rfl 24 P0.cs.toArray (0, 0) _ b1 Try.underlying24 rfl size24 ?_) | ((with_reducible refine at_load 27 (.tmp 9) ?_); refine wpList_load_row rfl 27 (.tmp 9) rfl p2 rfl 27 x.cs.toArray (0, 0) _ b2 Try.underlying27 rfl size27 ?_) | ((with_reducible refine at_load 24 (.tmp 5) ?_); refine wpList_mid (by rfl) 24 (.tmp 5) rfl p1 0 rfl P0.cs _ (range_blk b1) Try.underlying24 rfl size24 ?_) | ((with_reducible refine at_load 27 (.tmp 9) ?_); refine wpList_mid (by rfl) 27 (.tmp 9) rfl p2 0 rfl x.cs _ (range_blk b2) Try.underlying27 rfl size27 ?_))
                    refine (told_any T.one.mem hq T.one.lst.sees (by omega) x hx0).mono ?_
                    rintro _ wb ⟨rfl, ka⟩
                    replace T := T.on ka
                    replace b1 := b1.on ka
                    replace b2 := b2.on ka
                    clear ka
                    go_wp2_with (first | ((with_reducible refine at_load 24 (.tmp 5) ?_); refine wpList_load_row rfl 24 (.tmp 5) rfl p1 rfl 24 P0.cs.toArray (0, 0) _ b1 Try.underlying24 rfl size24 ?_) | ((with_reducible refine at_load 27 (.tmp 9) ?_); refine wpList_load_row rfl 27 (.tmp 9) rfl p2 rfl 27 x.cs.toArray (0, 0) _ b2 Try.underlying27 rfl size27 ?_) | ((with_reducible refine at_load 24 (.tmp 5) ?_); refine wpList_mid (by rfl) 24 (.tmp 5) rfl p1 0 rfl P0.cs _ (range_blk b1) Try.underlying24 rfl size24 ?_) | ((with_reducible refine at_load 27 (.tmp 9) ?_); refine wpList_mid (by rfl) 27 (.tmp 9) rfl p2 0 rfl x.cs _ (range_blk b2) Try.underlying27 rfl size27 ?_))
                    refine (undo_yes T.two.mem 0 (by omega) (Nat.zero_le _)).mono ?_
                    rintro _ wd ⟨rfl, _, kb⟩
                    replace b1 := b1.kept kb (T.two.mem.noturned b1 (by decide))
                    replace b2 := b2.kept kb (T.two.mem.noturned b2 (by decide))
                    have R := T.symm.undone kb
                    clear T kb
                    go_wp2_with (first | ((with_reducible refine at_load 24 (.tmp 5) ?_); refine wpList_load_row rfl 24 (.tmp 5) rfl p1 rfl 24 P0.cs.toArray (0, 0) _ b1 Try.underlying24 rfl size24 ?_) | ((with_reducible refine at_load 27 (.tmp 9) ?_); refine wpList_load_row rfl 27 (.tmp 9) rfl p2 rfl 27 x.cs.toArray (0, 0) _ b2 Try.underlying27 rfl size27 ?_) | ((with_reducible refine at_load 24 (.tmp 5) ?_); refine wpList_mid (by rfl) 24 (.tmp 5) rfl p1 0 rfl P0.cs _ (range_blk b1) Try.underlying24 rfl size24 ?_) | ((with_reducible refine at_load 27 (.tmp 9) ?_); refine wpList_mid (by rfl) 27 (.tmp 9) rfl p2 0 rfl x.cs _ (range_blk b2) Try.underlying27 rfl size27 ?_))
                    refine (told_any R.mem hq R.lst.sees (by omega) x hx0).mono ?_
                    rintro _ we ⟨rfl, ka⟩
                    go_wp2
                    go_ret
                    exact ⟨rfl, (R.on ka).below⟩
                · have t0 : decide ((k : Int) < (n3 : Int)) = false := decide_eq_false (by omega)
                  go_wp2_with (first | ((with_reducible refine at_load 24 (.tmp 5) ?_); refine wpList_load_row rfl 24 (.tmp 5) rfl p1 rfl 24 P0.cs.toArray (0, 0) _ b1 Try.underlying24 rfl size24 ?_) | ((with_reducible refine at_load 27 (.tmp 9) ?_); refine wpList_load_row rfl 27 (.tmp 9) rfl p2 rfl 27 x.cs.toArray (0, 0) _ b2 Try.underlying27 rfl size27 ?_) | ((with_reducible refine at_load 24 (.tmp 5) ?_); refine wpList_mid (by rfl) 24 (.tmp 5) rfl p1 0 rfl P0.cs _ (range_blk b1) Try.underlying24 rfl size24 ?_) | ((with_reducible refine at_load 27 (.tmp 9) ?_); refine wpList_mid (by rfl) 27 (.tmp 9) rfl p2 0 rfl x.cs _ (range_blk b2) Try.underlying27 rfl size27 ?_))
                  refine (told_any T.two.mem hq T.two.lst.sees (by omega) x hx0).mono ?_
                  rintro _ wa ⟨rfl, ka⟩
                  replace T := T.on ka
                  replace b1 := b1.on ka
                  replace b2 := b2.on ka
                  clear ka
                  go_wp2_with (first | ((with_reducible refine at_load 24 (.tmp 5) ?_); refine wpList_load_row rfl 24 (.tmp 5) rfl p1 rfl 24 P0.cs.toArray (0, 0) _ b1 Try.underlying24 rfl size24 ?_) | ((with_reducible refine at_load 27 (.tmp 9) ?_); refine wpList_load_row rfl 27 (.tmp 9) rfl p2 rfl 27 x.cs.toArray (0, 0) _ b2 Try.underlying27 rfl size27 ?_) | ((with_reducible refine at_load 24 (.tmp 5) ?_); refine wpList_mid (by rfl) 24 (.tmp 5) rfl p1 0 rfl P0.cs _ (range_blk b1) Try.underlying24 rfl size24 ?_) | ((with_reducible refine at_load 27 (.tmp 9) ?_); refine wpList_mid (by rfl) 27 (.tmp 9) rfl p2 0 rfl x.cs _ (range_blk b2) Try.underlying27 rfl size27 ?_))
                  refine (told_any T.one.mem hq T.one.lst.sees (by omega) x hx0).mono ?_
                  rintro _ wb ⟨rfl, ka⟩
                  replace T := T.on ka
                  replace b1 := b1.on ka
                  replace b2 := b2.on ka
                  clear ka
                  go_wp2_with (first | ((with_reducible refine at_load 24 (.tmp 5) ?_); refine wpList_load_row rfl 24 (.tmp 5) rfl p1 rfl 24 P0.cs.toArray (0, 0) _ b1 Try.underlying24 rfl size24 ?_) | ((with_reducible refine at_load 27 (.tmp 9) ?_); refine wpList_load_row rfl 27 (.tmp 9) rfl p2 rfl 27 x.cs.toArray (0, 0) _ b2 Try.underlying27 rfl size27 ?_) | ((with_reducible refine at_load 24 (.tmp 5) ?_); refine wpList_mid (by rfl) 24 (.tmp 5) rfl p1 0 rfl P0.cs _ (range_blk b1) Try.underlying24 rfl size24 ?_) | ((with_reducible refine at_load 27 (.tmp 9) ?_); refine wpList_mid (by rfl) 27 (.tmp 9) rfl p2 0 rfl x.cs _ (range_blk b2) Try.underlying27 rfl size27 ?_))
                  refine (undo_yes T.two.mem 0 (by omega) (Nat.zero_le _)).mono ?_
                  rintro _ wd ⟨rfl, _, kb⟩
                  replace b1 := b1.kept kb (T.two.mem.noturned b1 (by decide))
                  replace b2 := b2.kept kb (T.two.mem.noturned b2 (by decide))
                  have R := T.symm.undone kb
                  clear T kb
                  go_wp2_with (first | ((with_reducible refine at_load 24 (.tmp 5) ?_); refine wpList_load_row rfl 24 (.tmp 5) rfl p1 rfl 24 P0.cs.toArray (0, 0) _ b1 Try.underlying24 rfl size24 ?_) | ((with_reducible refine at_load 27 (.tmp 9) ?_); refine wpList_load_row rfl 27 (.tmp 9) rfl p2 rfl 27 x.cs.toArray (0, 0) _ b2 Try.underlying27 rfl size27 ?_) | ((with_reducible refine at_load 24 (.tmp 5) ?_); refine wpList_mid (by rfl) 24 (.tmp 5) rfl p1 0 rfl P0.cs _ (range_blk b1) Try.underlying24 rfl size24 ?_) | ((with_reducible refine at_load 27 (.tmp 9) ?_); refine wpList_mid (by rfl) 27 (.tmp 9) rfl p2 0 rfl x.cs _ (range_blk b2) Try.underlying27 rfl size27 ?_))
                  refine (told_any R.mem hq R.lst.sees (by omega) x hx0).mono ?_
                  rintro _ we ⟨rfl, ka⟩
                  go_wp2
                  go_ret
                  exact ⟨rfl, (R.on ka).below⟩
          · have t0 : decide ((k : Int) < (n2 : Int)) = false := decide_eq_false (by omega)
            replace T := T.symm
            go_wp2_with fail
            go_loopw [15, 17] (fun f i wr => ∃ k : Nat, k ≤ n3 ∧ k ≤ 20 ∧ i = .int .i64 (k : Int) ∧ ∃ Ay ny cy sqy Ly, f = .slice Ay ny cy ∧ Two w wr P0 mB hB bB spB sqy Ay ny cy Ly m h b sp sq2 A2x n2x c2x L2x ∧ Ly.length ≤ 20 + k ∧ Blk wr p1 24 P0.cs.toArray ∧ Blk wr p2 27 x.cs.toArray) (fun _ i _ => 20 - (intOf i).toNat)
            case atStart => exact ⟨0, Nat.zero_le _, by omega, rfl, Av, n1, cv, sqB, L, rfl, T, by omega, b1, b2⟩
            case round =>
              clear T b1 b2
              obtain ⟨k, hk, hkl, rfl, A3x, n3x, c3x, sq3, L3x, rfl, T, hL3, b1, b2⟩ := hrel
              have hln3 : L3x.length = n3x := T.one.lst.sees.len
              by_cases hlt : k < n3
              · by_cases hll : k < 20
                · have t0 : decide ((k : Int) < (n3 : Int)) = true := decide_eq_true (by omega)
                  have t1 : decide ((k : Int) < 20) = true := decide_eq_true (by omega)
                  obtain ⟨e, hx⟩ : ∃ e, l3[k]? = some e := ⟨_, List.getElem?_eq_getElem (by have := hS3.len; omega)⟩
                  have hxe : e.x.Wide := hw3 e (List.mem_of_getElem? hx)
                  obtain ⟨g, o, eA, hr0⟩ := hS3.at_ hx
                  subst eA
                  have hrE : ∀ W, Below w.heap.size w W → W.rangeAt g (o + k * 6) e.cs := fun W hb => by
                    obtain ⟨g3, o3, e3, hr3⟩ := (hS3.on hb).at_ hx
                    injection e3 with e3
                    injection e3 with e3 e4
                    subst e3 e4
                    exact hr3
                  clear hr0 hx
                  have hkI : (k : Int) < (n3 : Int) := by omega
                  have hk0 : (0 : Int) ≤ (k : Int) := by omega
                  go_wp2_with fail
                  obtain ⟨wd, ed⟩ : ∃ W, wr.drew = W := ⟨_, rfl⟩
                  have hd : Below wr.heap.size wr wd := by rw [← ed]; exact (Below.refl _ _).drew
                  replace T := T.on hd
                  replace b1 := b1.on hd
                  replace b2 := b2.on hd
                  clear hd
                  have kS : Below w.heap.size w wd ∧ Blk wd p1 24 P0.cs.toArray ∧ Blk wd p2 27 x.cs.toArray := ⟨T.below, b1, b2⟩
                  refine wp_region_noPanic ?_
                  refine wp_region_held_drew (S := (fun W => Below w.heap.size w W ∧ Blk W p1 24 P0.cs.toArray ∧ Blk W p2 27 x.cs.toArray)) (by kernel_rfl) (by rw [ed]; exact kS) (fun hHeld => ?_)
                  rw [ed] at hHeld ⊢
                  refine wpAnyH_take (i := 0) (oi := ⟨some 82, _, _, _, _, _⟩) (v := ?_) rfl (by kernel_rfl) (by kernel_rfl) (by kernel_rfl) (fun _ _ _ h => h) (Or.inl ⟨by rfl, ?_⟩) (by assumption) ?_
                  rotate_left 1
                  · (intro W hSw; go_simp <;> with_reducible rfl)
                  try simp only [Act.put, List.setIfInBounds_toArray, List.set_cons_zero, List.set_cons_succ]
                  refine wpAnyH_take (i := 1) (oi := ⟨some 83, _, _, _, _, _⟩) (v := .agg (List.toArray (P0.cs))) rfl (by kernel_rfl) (by kernel_rfl) (by kernel_rfl) (fun _ _ _ h => h) (yieldsIf_load_mid (by rfl) 24 (.tmp 5) rfl p1 (0) rfl (P0.cs) _ (fun W hW => range_part hW.2.1 0 P0.cs rfl) Try.underlying24 rfl size24) (by assumption) ?_
                  try simp only [Act.put, List.setIfInBounds_toArray, List.set_cons_zero, List.set_cons_succ]
                  refine wpAnyH_take (i := 2) (oi := ⟨some 84, _, _, _, _, _⟩) (v := ?_) rfl (by kernel_rfl) (by kernel_rfl) (by kernel_rfl) (fun _ _ _ h => h) (Or.inl ⟨by rfl, ?_⟩) (by assumption) ?_
                  rotate_left 1
                  · (intro W hSw; go_simp <;> with_reducible rfl)
                  try simp only [Act.put, List.setIfInBounds_toArray, List.set_cons_zero, List.set_cons_succ]
                  refine wpAnyH_take (i := 3) (oi := ⟨some 85, _, _, _, _, _⟩) (v := ?_) rfl (by kernel_rfl) (by kernel_rfl) (by kernel_rfl) (fun _ _ _ h => h) (Or.inl ⟨by rfl, ?_⟩) (by assumption) ?_
                  rotate_left 1
                  · (intro W hSw; go_simp <;> with_reducible rfl)
                  try simp only [Act.put, List.setIfInBounds_toArray, List.set_cons_zero, List.set_cons_succ]
                  refine wpAnyH_take (i := 4) (oi := ⟨some 86, _, _, _, _, _⟩) (v := ?_) rfl (by kernel_rfl) (by kernel_rfl) (by kernel_rfl) (fun _ _ _ h => h) (Or.inl ⟨by rfl, ?_⟩) (by assumption) ?_
                  rotate_left 1
                  · (intro W hSw; go_simp <;> with_reducible rfl)
                  try simp only [Act.put, List.setIfInBounds_toArray, List.set_cons_zero, List.set_cons_succ]
                  refine wpAnyH_take (i := 5) (oi := ⟨some 87, _, _, _, _, _⟩) (v := ?_) rfl (by kernel_rfl) (by kernel_rfl) (by kernel_rfl) (fun _ _ _ h => h) (Or.inl ⟨by rfl, ?_⟩) (by assumption) ?_
                  rotate_left 1
                  · (intro W hSw; go_simp <;> with_reducible rfl)
                  try simp only [Act.put, List.setIfInBounds_toArray, List.set_cons_zero, List.set_cons_succ]
                  refine wpAnyH_take (i := 6) (oi := ⟨some 88, _, _, _, _, _⟩) (v := .agg (List.toArray (e.cs))) rfl (by kernel_rfl) (by kernel_rfl) (by kernel_rfl) (fun _ _ _ h => h) (yieldsIf_load_mid (by rfl) 37 (.tmp 87) rfl g (o + k * 6) rfl (e.cs) _ (fun W hW => hrE W hW.1) Try.underlying37 rfl size37) (by assumption) ?_
                  try simp only [Act.put, List.setIfInBounds_toArray, List.set_cons_zero, List.set_cons_succ]
                  refine wpAnyH_ready (rs := [7]) (by kernel_rfl) (by simp) ?_
                  refine AllReadyH.cons (o := ⟨some 89, _, _, _, _, _⟩) rfl (fun K hK => ?_) AllReadyH.nil
                  go_simp
                  refine (lput_any T.one.mem hq T.one.lst (by omega) e hxe).mono ?_
                  rintro _ w1 ⟨sq', A', n', cap', rfl, bo⟩
                  have T1 := T.put bo
                  have b1_1 := bo.blk T.one.mem T.one.lst b1 (by decide) (by decide)
                  have b2_1 := bo.blk T.one.mem T.one.lst b2 (by decide) (by decide)
                  have S1 : (fun W => Below w.heap.size w W ∧ Blk W p1 24 P0.cs.toArray ∧ Blk W p2 27 x.cs.toArray) w1 := ⟨T1.below, b1_1, b2_1⟩
                  refine hK.out _ _ S1 (fun h1 => ?_)
                  clear hHeld hK K
                  try simp only [Act.put, List.setIfInBounds_toArray, List.set_cons_zero, List.set_cons_succ]
                  refine wpAnyH_take (i := 8) (oi := ⟨some 81, _, _, _, _, _⟩) (v := ?_) rfl (by kernel_rfl) (by kernel_rfl) (by kernel_rfl) (fun _ _ _ h => h) (Or.inl ⟨by rfl, ?_⟩) (by assumption) ?_
                  rotate_left 1
                  · (intro W hSw; go_simp <;> with_reducible rfl)
                  try simp only [Act.put, List.setIfInBounds_toArray, List.set_cons_zero, List.set_cons_succ]
                  refine wpAnyH_take (i := 9) (oi := ⟨some 90, _, _, _, _, _⟩) (v := ?_) rfl (by kernel_rfl) (by kernel_rfl) (by kernel_rfl) (fun _ _ _ h => h) (Or.inl ⟨by rfl, ?_⟩) (by assumption) ?_
                  rotate_left 1
                  · (intro W hSw; go_simp <;> with_reducible rfl)
                  try simp only [Act.put, List.setIfInBounds_toArray, List.set_cons_zero, List.set_cons_succ]
                  refine wpAnyH_take (i := 10) (oi := ⟨some 91, _, _, _, _, _⟩) (v := ?_) rfl (by kernel_rfl) (by kernel_rfl) (by kernel_rfl) (fun _ _ _ h => h) (Or.inl ⟨by rfl, ?_⟩) (by assumption) ?_
                  rotate_left 1
                  · (intro W hSw; go_simp <;> with_reducible rfl)
                  try simp only [Act.put, List.setIfInBounds_toArray, List.set_cons_zero, List.set_cons_succ]
                  refine wpAnyH_take (i := 11) (oi := ⟨some 15, _, _, _, _, _⟩) (v := ?_) rfl (by kernel_rfl) (by kernel_rfl) (by kernel_rfl) (fun _ _ _ h => h) (Or.inl ⟨by rfl, ?_⟩) (by assumption) ?_
                  rotate_left 1
                  · (intro W hSw; go_simp <;> with_reducible rfl)
                  try simp only [Act.put, List.setIfInBounds_toArray, List.set_cons_zero, List.set_cons_succ]
                  refine wpAnyH_done (by kernel_rfl) ?_ _
                  refine NoPanic.normal ?_
                  replace T := T1
                  replace b1 := b1_1
                  replace b2 := b2_1
                  clear h1 kS S1 T1 b1_1 b2_1 bo
                  have hL9 := nextL_len P0 L3x e
                  generalize nextL P0 L3x e = L9 at *
                  go_wp2
                  go_roundw
                  case rel => exact ⟨k + 1, by omega, by omega, by go_num, A', n', cap', sq', L9, rfl, T, by omega, b1, b2⟩
                  case measure => simp [intOf]; omega
                · have t0 : decide ((k : Int) < (n3 : Int)) = true := decide_eq_true (by omega)
                  have t1 : decide ((k : Int) < 20) = false := decide_eq_false (by omega)
                  go_wp2_with (first | ((with_reducible refine at_load 24 (.tmp 5) ?_); refine wpList_load_row rfl 24 (.tmp 5) rfl p1 rfl 24 P0.cs.toArray (0, 0) _ b1 Try.underlying24 rfl size24 ?_) | ((with_reducible refine at_load 27 (.tmp 9) ?_); refine wpList_load_row rfl 27 (.tmp 9) rfl p2 rfl 27 x.cs.toArray (0, 0) _ b2 Try.underlying27 rfl size27 ?_) | ((with_reducible refine at_load 24 (.tmp 5) ?_); refine wpList_mid (by rfl) 24 (.tmp 5) rfl p1 0 rfl P0.cs _ (range_blk b1) Try.underlying24 rfl size24 ?_) | ((with_reducible refine at_load 27 (.tmp 9) ?_); refine wpList_mid (by rfl) 27 (.tmp 9) rfl p2 0 rfl x.cs _ (range_blk b2) Try.underlying27 rfl size27 ?_))
                  refine (told_any T.two.mem hq T.two.lst.sees (by omega) x hx0).mono ?_
                  rintro _ wa ⟨rfl, ka⟩
                  replace T := T.on ka
                  replace b1 := b1.on ka
                  replace b2 := b2.on ka
                  clear ka
                  go_wp2_with (first | ((with_reducible refine at_load 24 (.tmp 5) ?_); refine wpList_load_row rfl 24 (.tmp 5) rfl p1 rfl 24 P0.cs.toArray (0, 0) _ b1 Try.underlying24 rfl size24 ?_) | ((with_reducible refine at_load 27 (.tmp 9) ?_); refine wpList_load_row rfl 27 (.tmp 9) rfl p2 rfl 27 x.cs.toArray (0, 0) _ b2 Try.underlying27 rfl size27 ?_) | ((with_reducible refine at_load 24 (.tmp 5) ?_); refine wpList_mid (by rfl) 24 (.tmp 5) rfl p1 0 rfl P0.cs _ (range_blk b1) Try.underlying24 rfl size24 ?_) | ((with_reducible refine at_load 27 (.tmp 9) ?_); refine wpList_mid (by rfl) 27 (.tmp 9) rfl p2 0 rfl x.cs _ (range_blk b2) Try.underlying27 rfl size27 ?_))
                  refine (told_any T.one.mem hq T.one.lst.sees (by omega) x hx0).mono ?_
                  rintro _ wb ⟨rfl, ka⟩
                  replace T := T.on ka
                  replace b1 := b1.on ka
                  replace b2 := b2.on ka
                  clear ka
                  go_wp2_with (first | ((with_reducible refine at_load 24 (.tmp 5) ?_); refine wpList_load_row rfl 24 (.tmp 5) rfl p1 rfl 24 P0.cs.toArray (0, 0) _ b1 Try.underlying24 rfl size24 ?_) | ((with_reducible refine at_load 27 (.tmp 9) ?_); refine wpList_load_row rfl 27 (.tmp 9) rfl p2 rfl 27 x.cs.toArray (0, 0) _ b2 Try.underlying27 rfl size27 ?_) | ((with_reducible refine at_load 24 (.tmp 5) ?_); refine wpList_mid (by rfl) 24 (.tmp 5) rfl p1 0 rfl P0.cs _ (range_blk b1) Try.underlying24 rfl size24 ?_) | ((with_reducible refine at_load 27 (.tmp 9) ?_); refine wpList_mid (by rfl) 27 (.tmp 9) rfl p2 0 rfl x.cs _ (range_blk b2) Try.underlying27 rfl size27 ?_))
                  refine (undo_yes T.two.mem 0 (by omega) (Nat.zero_le _)).mono ?_
                  rintro _ wd ⟨rfl, _, kb⟩
                  replace b1 := b1.kept kb (T.two.mem.noturned b1 (by decide))
                  replace b2 := b2.kept kb (T.two.mem.noturned b2 (by decide))
                  have R := T.symm.undone kb
                  clear T kb
                  go_wp2_with (first | ((with_reducible refine at_load 24 (.tmp 5) ?_); refine wpList_load_row rfl 24 (.tmp 5) rfl p1 rfl 24 P0.cs.toArray (0, 0) _ b1 Try.underlying24 rfl size24 ?_) | ((with_reducible refine at_load 27 (.tmp 9) ?_); refine wpList_load_row rfl 27 (.tmp 9) rfl p2 rfl 27 x.cs.toArray (0, 0) _ b2 Try.underlying27 rfl size27 ?_) | ((with_reducible refine at_load 24 (.tmp 5) ?_); refine wpList_mid (by rfl) 24 (.tmp 5) rfl p1 0 rfl P0.cs _ (range_blk b1) Try.underlying24 rfl size24 ?_) | ((with_reducible refine at_load 27 (.tmp 9) ?_); refine wpList_mid (by rfl) 27 (.tmp 9) rfl p2 0 rfl x.cs _ (range_blk b2) Try.underlying27 rfl size27 ?_))
                  refine (told_any R.mem hq R.lst.sees (by omega) x hx0).mono ?_
                  rintro _ we ⟨rfl, ka⟩
                  go_wp2
                  go_ret
                  exact ⟨rfl, (R.on ka).below⟩
              · have t0 : decide ((k : Int) < (n3 : Int)) = false := decide_eq_false (by omega)
                go_wp2_with (first | ((with_reducible refine at_load 24 (.tmp 5) ?_); refine wpList_load_row rfl 24 (.tmp 5) rfl p1 rfl 24 P0.cs.toArray (0, 0) _ b1 Try.underlying24 rfl size24 ?_) | ((with_reducible refine at_load 27 (.tmp 9) ?_); refine wpList_load_row rfl 27 (.tmp 9) rfl p2 rfl 27 x.cs.toArray (0, 0) _ b2 Try.underlying27 rfl size27 ?_) | ((with_reducible refine at_load 24 (.tmp 5) ?_); refine wpList_mid (by rfl) 24 (.tmp 5) rfl p1 0 rfl P0.cs _ (range_blk b1) Try.underlying24 rfl size24 ?_) | ((with_reducible refine at_load 27 (.tmp 9) ?_); refine wpList_mid (by rfl) 27 (.tmp 9) rfl p2 0 rfl x.cs _ (range_blk b2) Try.underlying27 rfl size27 ?_))
                refine (told_any T.two.mem hq T.two.lst.sees (by omega) x hx0).mono ?_
                rintro _ wa ⟨rfl, ka⟩
                replace T := T.on ka
                replace b1 := b1.on ka
                replace b2 := b2.on ka
                clear ka
                go_wp2_with (first | ((with_reducible refine at_load 24 (.tmp 5) ?_); refine wpList_load_row rfl 24 (.tmp 5) rfl p1 rfl 24 P0.cs.toArray (0, 0) _ b1 Try.underlying24 rfl size24 ?_) | ((with_reducible refine at_load 27 (.tmp 9) ?_); refine wpList_load_row rfl 27 (.tmp 9) rfl p2 rfl 27 x.cs.toArray (0, 0) _ b2 Try.underlying27 rfl size27 ?_) | ((with_reducible refine at_load 24 (.tmp 5) ?_); refine wpList_mid (by rfl) 24 (.tmp 5) rfl p1 0 rfl P0.cs _ (range_blk b1) Try.underlying24 rfl size24 ?_) | ((with_reducible refine at_load 27 (.tmp 9) ?_); refine wpList_mid (by rfl) 27 (.tmp 9) rfl p2 0 rfl x.cs _ (range_blk b2) Try.underlying27 rfl size27 ?_))
                refine (told_any T.one.mem hq T.one.lst.sees (by omega) x hx0).mono ?_
                rintro _ wb ⟨rfl, ka⟩
                replace T := T.on ka
                replace b1 := b1.on ka
                replace b2 := b2.on ka
                clear ka
                go_wp2_with (first | ((with_reducible refine at_load 24 (.tmp 5) ?_); refine wpList_load_row rfl 24 (.tmp 5) rfl p1 rfl 24 P0.cs.toArray (0, 0) _ b1 Try.underlying24 rfl size24 ?_) | ((with_reducible refine at_load 27 (.tmp 9) ?_); refine wpList_load_row rfl 27 (.tmp 9) rfl p2 rfl 27 x.cs.toArray (0, 0) _ b2 Try.underlying27 rfl size27 ?_) | ((with_reducible refine at_load 24 (.tmp 5) ?_); refine wpList_mid (by rfl) 24 (.tmp 5) rfl p1 0 rfl P0.cs _ (range_blk b1) Try.underlying24 rfl size24 ?_) | ((with_reducible refine at_load 27 (.tmp 9) ?_); refine wpList_mid (by rfl) 27 (.tmp 9) rfl p2 0 rfl x.cs _ (range_blk b2) Try.underlying27 rfl size27 ?_))
                refine (undo_yes T.two.mem 0 (by omega) (Nat.zero_le _)).mono ?_
                rintro _ wd ⟨rfl, _, kb⟩
                replace b1 := b1.kept kb (T.two.mem.noturned b1 (by decide))
                replace b2 := b2.kept kb (T.two.mem.noturned b2 (by decide))
                have R := T.symm.undone kb
                clear T kb
                go_wp2_with (first | ((with_reducible refine at_load 24 (.tmp 5) ?_); refine wpList_load_row rfl 24 (.tmp 5) rfl p1 rfl 24 P0.cs.toArray (0, 0) _ b1 Try.underlying24 rfl size24 ?_) | ((with_reducible refine at_load 27 (.tmp 9) ?_); refine wpList_load_row rfl 27 (.tmp 9) rfl p2 rfl 27 x.cs.toArray (0, 0) _ b2 Try.underlying27 rfl size27 ?_) | ((with_reducible refine at_load 24 (.tmp 5) ?_); refine wpList_mid (by rfl) 24 (.tmp 5) rfl p1 0 rfl P0.cs _ (range_blk b1) Try.underlying24 rfl size24 ?_) | ((with_reducible refine at_load 27 (.tmp 9) ?_); refine wpList_mid (by rfl) 27 (.tmp 9) rfl p2 0 rfl x.cs _ (range_blk b2) Try.underlying27 rfl size27 ?_))
                refine (told_any R.mem hq R.lst.sees (by omega) x hx0).mono ?_
                rintro _ we ⟨rfl, ka⟩
                go_wp2
                go_ret
                exact ⟨rfl, (R.on ka).below⟩
    · have t0 : decide ((k : Int) < (n : Int)) = false := decide_eq_false (by omega)
      go_wp2_with fail
      refine (mclone_any run.mem (by omega)).mono ?_
      rintro _ wc ⟨mB, hB, bB, spB, sqB, rfl, _, qB, farB, kc⟩
      replace b1 := b1.on kc
      replace b2 := b2.on kc
      have hfr := (run.on kc).lst.sees
      obtain ⟨i0, hi, hz0, hz1, hz2⟩ := info_parts info37
      go_wp2_with (first | (at_builtin; refine wpList_app rfl _ _ 25 rfl wc.heap.size 37 i0 (.agg noC.cs.toArray) 6 48 Try.underlying25 hi hz0 hz1 hz2 rfl (by decide) none 0 0 [] rfl (World.ownsRow_nil _ _ _ _) A1 n1 c1 (flatC L) rfl hfr (flat_one Ch.one L) (by unfold maxLen; omega) (by omega) (Nat.le_refl _) ?_; intro Av cv wv ov gv _))
      have kv : Below wc.heap.size wc wv := (kept_grown gv).under _ (Nat.le_refl _) (fun k h => by cases h)
      simp only [Nat.zero_add, List.nil_append] at ov
      replace b1 := b1.on kv
      replace b2 := b2.on kv
      obtain ⟨Ax, cx, ex, ow⟩ := own_of ov
      injection ex with ex _ ex3
      subst ex ex3
      have T := Two.make run kc qB farB kv ow
      clear kc kv gv ov ow hfr run qB farB hi hz0 hz1 hz2
      go_wp2_with fail
      go_loopw [12, 16] (fun f i wr => ∃ k : Nat, k ≤ n2 ∧ k ≤ 20 ∧ i = .int .i64 (k : Int) ∧ ∃ Ay ny cy sqy Ly, f = .slice Ay ny cy ∧ Two w wr P0 m h b sp sqy Ay ny cy Ly mB hB bB spB sqB Av n1 cv L ∧ Ly.length ≤ 20 + k ∧ Blk wr p1 24 P0.cs.toArray ∧ Blk wr p2 27 x.cs.toArray) (fun _ i _ => 20 - (intOf i).toNat)
      case atStart => exact ⟨0, Nat.zero_le _, by omega, rfl, A1, n1, c1, sq, L, rfl, T, by omega, b1, b2⟩
      case round =>
        clear T b1 b2
        obtain ⟨k, hk, hkl, rfl, A2x, n2x, c2x, sq2, L2x, rfl, T, hL2, b1, b2⟩ := hrel
        have hln2 : L2x.length = n2x := T.one.lst.sees.len
        by_cases hlt : k < n2
        · by_cases hll : k < 20
          · have t0 : decide ((k : Int) < (n2 : Int)) = true := decide_eq_true (by omega)
            have t1 : decide ((k : Int) < 20) = true := decide_eq_true (by omega)
            obtain ⟨e, hx⟩ : ∃ e, l2[k]? = some e := ⟨_, List.getElem?_eq_getElem (by have := hS2.len; omega)⟩
            have hxe : e.x.Wide := hw2 e (List.mem_of_getElem? hx)
            obtain ⟨g, o, eA, hr0⟩ := hS2.at_ hx
            subst eA
            have hrE : ∀ W, Below w.heap.size w W → W.rangeAt g (o + k * 6) e.cs := fun W hb => by
              obtain ⟨g3, o3, e3, hr3⟩ := (hS2.on hb).at_ hx
              injection e3 with e3
              injection e3 with e3 e4
              subst e3 e4
              exact hr3
            clear hr0 hx
            have hkI : (k : Int) < (n2 : Int) := by omega
            have hk0 : (0 : Int) ≤ (k : Int) := by omega
            go_wp2_with fail
            obtain ⟨wd, ed⟩ : ∃ W, wr.drew = W := ⟨_, rfl⟩
            have hd : Below wr.heap.size wr wd := by rw [← ed]; exact (Below.refl _ _).drew
            replace T := T.on hd
            replace b1 := b1.on hd
            replace b2 := b2.on hd
            clear hd
            have kS : Below w.heap.size w wd ∧ Blk wd p1 24 P0.cs.toArray ∧ Blk wd p2 27 x.cs.toArray := ⟨T.below, b1, b2⟩
            refine wp_region_noPanic ?_
            refine wp_region_held_drew (S := (fun W => Below w.heap.size w W ∧ Blk W p1 24 P0.cs.toArray ∧ Blk W p2 27 x.cs.toArray)) (by kernel_rfl) (by rw [ed]; exact kS) (fun hHeld => ?_)
            rw [ed] at hHeld ⊢
            refine wpAnyH_take (i := 0) (oi := ⟨some 61, _, _, _, _, _⟩) (v := ?_) rfl (by kernel_rfl) (by kernel_rfl) (by kernel_rfl) (fun _ _ _ h => h) (Or.inl ⟨by rfl, ?_⟩) (by assumption) ?_
            rotate_left 1
            · (intro W hSw; go_simp <;> with_reducible rfl)
            try simp only [Act.put, List.setIfInBounds_toArray, List.set_cons_zero, List.set_cons_succ]
            refine wpAnyH_take (i := 1) (oi := ⟨some 62, _, _, _, _, _⟩) (v := .agg (List.toArray (P0.cs))) rfl (by kernel_rfl) (by kernel_rfl) (by kernel_rfl) (fun _ _ _ h => h) (yieldsIf_load_mid (by rfl) 24 (.tmp 5) rfl p1 (0) rfl (P0.cs) _ (fun W hW => range_part hW.2.1 0 P0.cs rfl) Try.underlying24 rfl size24) (by assumption) ?_
            try simp only [Act.put, List.setIfInBounds_toArray, List.set_cons_zero, List.set_cons_succ]
            refine wpAnyH_take (i := 2) (oi := ⟨some 63, _, _, _, _, _⟩) (v := ?_) rfl (by kernel_rfl) (by kernel_rfl) (by kernel_rfl) (fun _ _ _ h => h) (Or.inl ⟨by rfl, ?_⟩) (by assumption) ?_
            rotate_left 1
            · (intro W hSw; go_simp <;> with_reducible rfl)
            try simp only [Act.put, List.setIfInBounds_toArray, List.set_cons_zero, List.set_cons_succ]
            refine wpAnyH_take (i := 3) (oi := ⟨some 64, _, _, _, _, _⟩) (v := ?_) rfl (by kernel_rfl) (by kernel_rfl) (by kernel_rfl) (fun _ _ _ h => h) (Or.inl ⟨by rfl, ?_⟩) (by assumption) ?_
            rotate_left 1
            · (intro W hSw; go_simp <;> with_reducible rfl)
            try simp only [Act.put, List.setIfInBounds_toArray, List.set_cons_zero, List.set_cons_succ]
            refine wpAnyH_take (i := 4) (oi := ⟨some 65, _, _, _, _, _⟩) (v := ?_) rfl (by kernel_rfl) (by kernel_rfl) (by kernel_rfl) (fun _ _ _ h => h) (Or.inl ⟨by rfl, ?_⟩) (by assumption) ?_
            rotate_left 1
            · (intro W hSw; go_simp <;> with_reducible rfl)
            try simp only [Act.put, List.setIfInBounds_toArray, List.set_cons_zero, List.set_cons_succ]
            refine wpAnyH_take (i := 5) (oi := ⟨some 66, _, _, _, _, _⟩) (v := ?_) rfl (by kernel_rfl) (by kernel_rfl) (by kernel_rfl) (fun _ _ _ h => h) (Or.inl ⟨by rfl, ?_⟩) (by assumption) ?_
            rotate_left 1
            · (intro W hSw; go_simp <;> with_reducible rfl)
            try simp only [Act.put, List.setIfInBounds_toArray, List.set_cons_zero, List.set_cons_succ]
            refine wpAnyH_take (i := 6) (oi := ⟨some 67, _, _, _, _, _⟩) (v := .agg (List.toArray (e.cs))) rfl (by kernel_rfl) (by kernel_rfl) (by kernel_rfl) (fun _ _ _ h => h) (yieldsIf_load_mid (by rfl) 37 (.tmp 66) rfl g (o + k * 6) rfl (e.cs) _ (fun W hW => hrE W hW.1) Try.underlying37 rfl size37) (by assumption) ?_
            try simp only [Act.put, List.setIfInBounds_toArray, List.set_cons_zero, List.set_cons_succ]
            refine wpAnyH_ready (rs := [7]) (by kernel_rfl) (by simp) ?_
            refine AllReadyH.cons (o := ⟨some 68, _, _, _, _, _⟩) rfl (fun K hK => ?_) AllReadyH.nil
            go_simp
            refine (lput_any T.one.mem hq T.one.lst (by omega) e hxe).mono ?_
            rintro _ w1 ⟨sq', A', n', cap', rfl, bo⟩
            have T1 := T.put bo
            have b1_1 := bo.blk T.one.mem T.one.lst b1 (by decide) (by decide)
            have b2_1 := bo.blk T.one.mem T.one.lst b2 (by decide) (by decide)
            have S1 : (fun W => Below w.heap.size w W ∧ Blk W p1 24 P0.cs.toArray ∧ Blk W p2 27 x.cs.toArray) w1 := ⟨T1.below, b1_1, b2_1⟩
            refine hK.out _ _ S1 (fun h1 => ?_)
            clear hHeld hK K
            try simp only [Act.put, List.setIfInBounds_toArray, List.set_cons_zero, List.set_cons_succ]
            refine wpAnyH_take (i := 8) (oi := ⟨some 60, _, _, _, _, _⟩) (v := ?_) rfl (by kernel_rfl) (by kernel_rfl) (by kernel_rfl) (fun _ _ _ h => h) (Or.inl ⟨by rfl, ?_⟩) (by assumption) ?_
            rotate_left 1
            · (intro W hSw; go_simp <;> with_reducible rfl)
            try simp only [Act.put, List.setIfInBounds_toArray, List.set_cons_zero, List.set_cons_succ]
            refine wpAnyH_take (i := 9) (oi := ⟨some 69, _, _, _, _, _⟩) (v := ?_) rfl (by kernel_rfl) (by kernel_rfl) (by kernel_rfl) (fun _ _ _ h => h) (Or.inl ⟨by rfl, ?_⟩) (by assumption) ?_
            rotate_left 1
            · (intro W hSw; go_simp <;> with_reducible rfl)
            try simp only [Act.put, List.setIfInBounds_toArray, List.set_cons_zero, List.set_cons_succ]
            refine wpAnyH_take (i := 10) (oi := ⟨some 70, _, _, _, _, _⟩) (v := ?_) rfl (by kernel_rfl) (by kernel_rfl) (by kernel_rfl) (fun _ _ _ h => h) (Or.inl ⟨by rfl, ?_⟩) (by assumption) ?_
            rotate_left 1
            · (intro W hSw; go_simp <;> with_reducible rfl)
            try simp only [Act.put, List.setIfInBounds_toArray, List.set_cons_zero, List.set_cons_succ]
            refine wpAnyH_take (i := 11) (oi := ⟨some 12, _, _, _, _, _⟩) (v := ?_) rfl (by kernel_rfl) (by kernel_rfl) (by kernel_rfl) (fun _ _ _ h => h) (Or.inl ⟨by rfl, ?_⟩) (by assumption) ?_
            rotate_left 1
            · (intro W hSw; go_simp <;> with_reducible rfl)
            try simp only [Act.put, List.setIfInBounds_toArray, List.set_cons_zero, List.set_cons_succ]
            refine wpAnyH_done (by kernel_rfl) ?_ _
            refine NoPanic.normal ?_
            replace T := T1
            replace b1 := b1_1
            replace b2 := b2_1
            clear h1 kS S1 T1 b1_1 b2_1 bo
            have hL9 := nextL_len P0 L2x e
            generalize nextL P0 L2x e = L9 at *
            go_wp2
            go_roundw
            case rel => exact ⟨k + 1, by omega, by omega, by go_num, A', n', cap', sq', L9, rfl, T, by omega, b1, b2⟩
            case measure => simp [intOf]; omega
          · have t0 : decide ((k : Int) < (n2 : Int)) = true := decide_eq_true (by omega)
            have t1 : decide ((k : Int) < 20) = false := decide_eq_false (by omega)
            replace T := T.symm
            go_wp2_with fail
            go_loopw [15, 17] (fun f i wr => ∃ k : Nat, k ≤ n3 ∧ k ≤ 20 ∧ i = .int .i64 (k : Int) ∧ ∃ Ay ny cy sqy Ly, f = .slice Ay ny cy ∧ Two w wr P0 mB hB bB spB sqy Ay ny cy Ly m h b sp sq2 A2x n2x c2x L2x ∧ Ly.length ≤ 20 + k ∧ Blk wr p1 24 P0.cs.toArray ∧ Blk wr p2 27 x.cs.toArray) (fun _ i _ => 20 - (intOf i).toNat)
            case atStart => exact ⟨0, Nat.zero_le _, by omega, rfl, Av, n1, cv, sqB, L, rfl, T, by omega, b1, b2⟩
            case round =>
              clear T b1 b2
              obtain ⟨k, hk, hkl, rfl, A3x, n3x, c3x, sq3, L3x, rfl, T, hL3, b1, b2⟩ := hrel
              have hln3 : L3x.length = n3x := T.one.lst.sees.len
              by_cases hlt : k < n3
              · by_cases hll : k < 20
                · have t0 : decide ((k : Int) < (n3 : Int)) = true := decide_eq_true (by omega)
                  have t1 : decide ((k : Int) < 20) = true := decide_eq_true (by omega)
                  obtain ⟨e, hx⟩ : ∃ e, l3[k]? = some e := ⟨_, List.getElem?_eq_getElem (by have := hS3.len; omega)⟩
                  have hxe : e.x.Wide := hw3 e (List.mem_of_getElem? hx)
                  obtain ⟨g, o, eA, hr0⟩ := hS3.at_ hx
                  subst eA
                  have hrE : ∀ W, Below w.heap.size w W → W.rangeAt g (o + k * 6) e.cs := fun W hb => by
                    obtain ⟨g3, o3, e3, hr3⟩ := (hS3.on hb).at_ hx
                    injection e3 with e3
                    injection e3 with e3 e4
                    subst e3 e4
                    exact hr3
                  clear hr0 hx
                  have hkI : (k : Int) < (n3 : Int) := by omega
                  have hk0 : (0 : Int) ≤ (k : Int) := by omega
                  go_wp2_with fail
                  obtain ⟨wd, ed⟩ : ∃ W, wr.drew = W := ⟨_, rfl⟩
                  have hd : Below wr.heap.size wr wd := by rw [← ed]; exact (Below.refl _ _).drew
                  replace T := T.on hd
                  replace b1 := b1.on hd
                  replace b2 := b2.on hd
                  clear hd
                  have kS : Below w.heap.size w wd ∧ Blk wd p1 24 P0.cs.toArray ∧ Blk wd p2 27 x.cs.toArray := ⟨T.below, b1, b2⟩
                  refine wp_region_noPanic ?_
                  refine wp_region_held_drew (S := (fun W => Below w.heap.size w W ∧ Blk W p1 24 P0.cs.toArray ∧ Blk W p2 27 x.cs.toArray)) (by kernel_rfl) (by rw [ed]; exact kS) (fun hHeld => ?_)
                  rw [ed] at hHeld ⊢
                  refine wpAnyH_take (i := 0) (oi := ⟨some 82, _, _, _, _, _⟩) (v := ?_) rfl (by kernel_rfl) (by kernel_rfl) (by kernel_rfl) (fun _ _ _ h => h) (Or.inl ⟨by rfl, ?_⟩) (by assumption) ?_
                  rotate_left 1
                  · (intro W hSw; go_simp <;> with_reducible rfl)
                  try simp only [Act.put, List.setIfInBounds_toArray, List.set_cons_zero, List.set_cons_succ]
                  refine wpAnyH_take (i := 1) (oi := ⟨some 83, _, _, _, _, _⟩) (v := .agg (List.toArray (P0.cs))) rfl (by kernel_rfl) (by kernel_rfl) (by kernel_rfl) (fun _ _ _ h => h) (yieldsIf_load_mid (by rfl) 24 (.tmp 5) rfl p1 (0) rfl (P0.cs) _ (fun W hW => range_part hW.2.1 0 P0.cs rfl) Try.underlying24 rfl size24) (by assumption) ?_
                  try simp only [Act.put, List.setIfInBounds_toArray, List.set_cons_zero, List.set_cons_succ]
                  refine wpAnyH_take (i := 2) (oi := ⟨some 84, _, _, _, _, _⟩) (v := ?_) rfl (by kernel_rfl) (by kernel_rfl) (by kernel_rfl) (fun _ _ _ h => h) (Or.inl ⟨by rfl, ?_⟩) (by assumption) ?_
                  rotate_left 1
                  · (intro W hSw; go_simp <;> with_reducible rfl)
                  try simp only [Act.put, List.setIfInBounds_toArray, List.set_cons_zero, List.set_cons_succ]
                  refine wpAnyH_take (i := 3) (oi := ⟨some 85, _, _, _, _, _⟩) (v := ?_) rfl (by kernel_rfl) (by kernel_rfl) (by kernel_rfl) (fun _ _ _ h => h) (Or.inl ⟨by rfl, ?_⟩) (by assumption) ?_
                  rotate_left 1
                  · (intro W hSw; go_simp <;> with_reducible rfl)
                  try simp only [Act.put, List.setIfInBounds_toArray, List.set_cons_zero, List.set_cons_succ]
                  refine wpAnyH_take (i := 4) (oi := ⟨some 86, _, _, _, _, _⟩) (v := ?_) rfl (by kernel_rfl) (by kernel_rfl) (by kernel_rfl) (fun _ _ _ h => h) (Or.inl ⟨by rfl, ?_⟩) (by assumption) ?_
                  rotate_left 1
                  · (intro W hSw; go_simp <;> with_reducible rfl)
                  try simp only [Act.put, List.setIfInBounds_toArray, List.set_cons_zero, List.set_cons_succ]
                  refine wpAnyH_take (i := 5) (oi := ⟨some 87, _, _, _, _, _⟩) (v := ?_) rfl (by kernel_rfl) (by kernel_rfl) (by kernel_rfl) (fun _ _ _ h => h) (Or.inl ⟨by rfl, ?_⟩) (by assumption) ?_
                  rotate_left 1
                  · (intro W hSw; go_simp <;> with_reducible rfl)
                  try simp only [Act.put, List.setIfInBounds_toArray, List.set_cons_zero, List.set_cons_succ]
                  refine wpAnyH_take (i := 6) (oi := ⟨some 88, _, _, _, _, _⟩) (v := .agg (List.toArray (e.cs))) rfl (by kernel_rfl) (by kernel_rfl) (by kernel_rfl) (fun _ _ _ h => h) (yieldsIf_load_mid (by rfl) 37 (.tmp 87) rfl g (o + k * 6) rfl (e.cs) _ (fun W hW => hrE W hW.1) Try.underlying37 rfl size37) (by assumption) ?_
                  try simp only [Act.put, List.setIfInBounds_toArray, List.set_cons_zero, List.set_cons_succ]
                  refine wpAnyH_ready (rs := [7]) (by kernel_rfl) (by simp) ?_
                  refine AllReadyH.cons (o := ⟨some 89, _, _, _, _, _⟩) rfl (fun K hK => ?_) AllReadyH.nil
                  go_simp
                  refine (lput_any T.one.mem hq T.one.lst (by omega) e hxe).mono ?_
                  rintro _ w1 ⟨sq', A', n', cap', rfl, bo⟩
                  have T1 := T.put bo
                  have b1_1 := bo.blk T.one.mem T.one.lst b1 (by decide) (by decide)
                  have b2_1 := bo.blk T.one.mem T.one.lst b2 (by decide) (by decide)
                  have S1 : (fun W => Below w.heap.size w W ∧ Blk W p1 24 P0.cs.toArray ∧ Blk W p2 27 x.cs.toArray) w1 := ⟨T1.below, b1_1, b2_1⟩
                  refine hK.out _ _ S1 (fun h1 => ?_)
                  clear hHeld hK K
                  try simp only [Act.put, List.setIfInBounds_toArray, List.set_cons_zero, List.set_cons_succ]
                  refine wpAnyH_take (i := 8) (oi := ⟨some 81, _, _, _, _, _⟩) (v := ?_) rfl (by kernel_rfl) (by kernel_rfl) (by kernel_rfl) (fun _ _ _ h => h) (Or.inl ⟨by rfl, ?_⟩) (by assumption) ?_
                  rotate_left 1
                  · (intro W hSw; go_simp <;> with_reducible rfl)
                  try simp only [Act.put, List.setIfInBounds_toArray, List.set_cons_zero, List.set_cons_succ]
                  refine wpAnyH_take (i := 9) (oi := ⟨some 90, _, _, _, _, _⟩) (v := ?_) rfl (by kernel_rfl) (by kernel_rfl) (by kernel_rfl) (fun _ _ _ h => h) (Or.inl ⟨by rfl, ?_⟩) (by assumption) ?_
                  rotate_left 1
                  · (intro W hSw; go_simp <;> with_reducible rfl)
                  try simp only [Act.put, List.setIfInBounds_toArray, List.set_cons_zero, List.set_cons_succ]
                  refine wpAnyH_take (i := 10) (oi := ⟨some 91, _, _, _, _, _⟩) (v := ?_) rfl (by kernel_rfl) (by kernel_rfl) (by kernel_rfl) (fun _ _ _ h => h) (Or.inl ⟨by rfl, ?_⟩) (by assumption) ?_
                  rotate_left 1
                  · (intro W hSw; go_simp <;> with_reducible rfl)
                  try simp only [Act.put, List.setIfInBounds_toArray, List.set_cons_zero, List.set_cons_succ]
                  refine wpAnyH_take (i := 11) (oi := ⟨some 15, _, _, _, _, _⟩) (v := ?_) rfl (by kernel_rfl) (by kernel_rfl) (by kernel_rfl) (fun _ _ _ h => h) (Or.inl ⟨by rfl, ?_⟩) (by assumption) ?_
                  rotate_left 1
                  · (intro W hSw; go_simp <;> with_reducible rfl)
                  try simp only [Act.put, List.setIfInBounds_toArray, List.set_cons_zero, List.set_cons_succ]
                  refine wpAnyH_done (by kernel_rfl) ?_ _
                  refine NoPanic.normal ?_
                  replace T := T1
                  replace b1 := b1_1
                  replace b2 := b2_1
                  clear h1 kS S1 T1 b1_1 b2_1 bo
                  have hL9 := nextL_len P0 L3x e
                  generalize nextL P0 L3x e = L9 at *
                  go_wp2
                  go_roundw
                  case rel => exact ⟨k + 1, by omega, by omega, by go_num, A', n', cap', sq', L9, rfl, T, by omega, b1, b2⟩
                  case measure => simp [intOf]; omega
                · have t0 : decide ((k : Int) < (n3 : Int)) = true := decide_eq_true (by omega)
                  have t1 : decide ((k : Int) < 20) = false := decide_eq_false (by omega)
                  go_wp2_with (first | ((with_reducible refine at_load 24 (.tmp 5) ?_); refine wpList_load_row rfl 24 (.tmp 5) rfl p1 rfl 24 P0.cs.toArray (0, 0) _ b1 Try.underlying24 rfl size24 ?_) | ((with_reducible refine at_load 27 (.tmp 9) ?_); refine wpList_load_row rfl 27 (.tmp 9) rfl p2 rfl 27 x.cs.toArray (0, 0) _ b2 Try.underlying27 rfl size27 ?_) | ((with_reducible refine at_load 24 (.tmp 5) ?_); refine wpList_mid (by rfl) 24 (.tmp 5) rfl p1 0 rfl P0.cs _ (range_blk b1) Try.underlying24 rfl size24 ?_) | ((with_reducible refine at_load 27 (.tmp 9) ?_); refine wpList_mid (by rfl) 27 (.tmp 9) rfl p2 0 rfl x.cs _ (range_blk b2) Try.underlying27 rfl size27 ?_))
                  refine (told_any T.two.mem hq T.two.lst.sees (by omega) x hx0).mono ?_
                  rintro _ wa ⟨rfl, ka⟩
                  replace T := T.on ka
                  replace b1 := b1.on ka
                  replace b2 := b2.on ka
                  clear ka
                  go_wp2_with (first | ((with_reducible refine at_load 24 (.tmp 5) ?_); refine wpList_load_row rfl 24 (.tmp 5) rfl p1 rfl 24 P0.cs.toArray (0, 0) _ b1 Try.underlying24 rfl size24 ?_) | ((with_reducible refine at_load 27 (.tmp 9) ?_); refine wpList_load_row rfl 27 (.tmp 9) rfl p2 rfl 27 x.cs.toArray (0, 0) _ b2 Try.underlying27 rfl size27 ?_) | ((with_reducible refine at_load 24 (.tmp 5) ?_); refine wpList_mid (by rfl) 24 (.tmp 5) rfl p1 0 rfl P0.cs _ (range_blk b1) Try.underlying24 rfl size24 ?_) | ((with_reducible refine at_load 27 (.tmp 9) ?_); refine wpList_mid (by rfl) 27 (.tmp 9) rfl p2 0 rfl x.cs _ (range_blk b2) Try.underlying27 rfl size27 ?_))
                  refine (told_any T.one.mem hq T.one.lst.sees (by omega) x hx0).mono ?_
                  rintro _ wb ⟨rfl, ka⟩
                  replace T := T.on ka
                  replace b1 := b1.on ka
                  replace b2 := b2.on ka
                  clear ka
                  go_wp2_with (first | ((with_reducible refine at_load 24 (.tmp 5) ?_); refine wpList_load_row rfl 24 (.tmp 5) rfl p1 rfl 24 P0.cs.toArray (0, 0) _ b1 Try.underlying24 rfl size24 ?_) | ((with_reducible refine at_load 27 (.tmp 9) ?_); refine wpList_load_row rfl 27 (.tmp 9) rfl p2 rfl 27 x.cs.toArray (0, 0) _ b2 Try.underlying27 rfl size27 ?_) | ((with_reducible refine at_load 24 (.tmp 5) ?_); refine wpList_mid (by rfl) 24 (.tmp 5) rfl p1 0 rfl P0.cs _ (range_blk b1) Try.underlying24 rfl size24 ?_) | ((with_reducible refine at_load 27 (.tmp 9) ?_); refine wpList_mid (by rfl) 27 (.tmp 9) rfl p2 0 rfl x.cs _ (range_blk b2) Try.underlying27 rfl size27 ?_))
                  refine (undo_yes T.two.mem 0 (by omega) (Nat.zero_le _)).mono ?_
                  rintro _ wd ⟨rfl, _, kb⟩
                  replace b1 := b1.kept kb (T.two.mem.noturned b1 (by decide))
                  replace b2 := b2.kept kb (T.two.mem.noturned b2 (by decide))
                  have R := T.symm.undone kb
                  clear T kb
                  go_wp2_with (first | ((with_reducible refine at_load 24 (.tmp 5) ?_); refine wpList_load_row rfl 24 (.tmp 5) rfl p1 rfl 24 P0.cs.toArray (0, 0) _ b1 Try.underlying24 rfl size24 ?_) | ((with_reducible refine at_load 27 (.tmp 9) ?_); refine wpList_load_row rfl 27 (.tmp 9) rfl p2 rfl 27 x.cs.toArray (0, 0) _ b2 Try.underlying27 rfl size27 ?_) | ((with_reducible refine at_load 24 (.tmp 5) ?_); refine wpList_mid (by rfl) 24 (.tmp 5) rfl p1 0 rfl P0.cs _ (range_blk b1) Try.underlying24 rfl size24 ?_) | ((with_reducible refine at_load 27 (.tmp 9) ?_); refine wpList_mid (by rfl) 27 (.tmp 9) rfl p2 0 rfl x.cs _ (range_blk b2) Try.underlying27 rfl size27 ?_))
                  refine (told_any R.mem hq R.lst.sees (by omega) x hx0).mono ?_
                  rintro _ we ⟨rfl, ka⟩
                  go_wp2
                  go_ret
                  exact ⟨rfl, (R.on ka).below⟩
              · have t0 : decide ((k : Int) < (n3 : Int)) = false := decide_eq_false (by omega)
                go_wp2_with (first | ((with_reducible refine at_load 24 (.tmp 5) ?_); refine wpList_load_row rfl 24 (.tmp 5) rfl p1 rfl 24 P0.cs.toArray (0, 0) _ b1 Try.underlying24 rfl size24 ?_) | ((with_reducible refine at_load 27 (.tmp 9) ?_); refine wpList_load_row rfl 27 (.tmp 9) rfl p2 rfl 27 x.cs.toArray (0, 0) _ b2 Try.underlying27 rfl size27 ?_) | ((with_reducible refine at_load 24 (.tmp 5) ?_); refine wpList_mid (by rfl) 24 (.tmp 5) rfl p1 0 rfl P0.cs _ (range_blk b1) Try.underlying24 rfl size24 ?_) | ((with_reducible refine at_load 27 (.tmp 9) ?_); refine wpList_mid (by rfl) 27 (.tmp 9) rfl p2 0 rfl x.cs _ (range_blk b2) Try.underlying27 rfl size27 ?_))
                refine (told_any T.two.mem hq T.two.lst.sees (by omega) x hx0).mono ?_
                rintro _ wa ⟨rfl, ka⟩
                replace T := T.on ka
                replace b1 := b1.on ka
                replace b2 := b2.on ka
                clear ka
                go_wp2_with (first | ((with_reducible refine at_load 24 (.tmp 5) ?_); refine wpList_load_row rfl 24 (.tmp 5) rfl p1 rfl 24 P0.cs.toArray (0, 0) _ b1 Try.underlying24 rfl size24 ?_) | ((with_reducible refine at_load 27 (.tmp 9) ?_); refine wpList_load_row rfl 27 (.tmp 9) rfl p2 rfl 27 x.cs.toArray (0, 0) _ b2 Try.underlying27 rfl size27 ?_) | ((with_reducible refine at_load 24 (.tmp 5) ?_); refine wpList_mid (by rfl) 24 (.tmp 5) rfl p1 0 rfl P0.cs _ (range_blk b1) Try.underlying24 rfl size24 ?_) | ((with_reducible refine at_load 27 (.tmp 9) ?_); refine wpList_mid (by rfl) 27 (.tmp 9) rfl p2 0 rfl x.cs _ (range_blk b2) Try.underlying27 rfl size27 ?_))
                refine (told_any T.one.mem hq T.one.lst.sees (by omega) x hx0).mono ?_
                rintro _ wb ⟨rfl, ka⟩
                replace T := T.on ka
                replace b1 := b1.on ka
                replace b2 := b2.on ka
                clear ka
                go_wp2_with (first | ((with_reducible refine at_load 24 (.tmp 5) ?_); refine wpList_load_row rfl 24 (.tmp 5) rfl p1 rfl 24 P0.cs.toArray (0, 0) _ b1 Try.underlying24 rfl size24 ?_) | ((with_reducible refine at_load 27 (.tmp 9) ?_); refine wpList_load_row rfl 27 (.tmp 9) rfl p2 rfl 27 x.cs.toArray (0, 0) _ b2 Try.underlying27 rfl size27 ?_) | ((with_reducible refine at_load 24 (.tmp 5) ?_); refine wpList_mid (by rfl) 24 (.tmp 5) rfl p1 0 rfl P0.cs _ (range_blk b1) Try.underlying24 rfl size24 ?_) | ((with_reducible refine at_load 27 (.tmp 9) ?_); refine wpList_mid (by rfl) 27 (.tmp 9) rfl p2 0 rfl x.cs _ (range_blk b2) Try.underlying27 rfl size27 ?_))
                refine (undo_yes T.two.mem 0 (by omega) (Nat.zero_le _)).mono ?_
                rintro _ wd ⟨rfl, _, kb⟩
                replace b1 := b1.kept kb (T.two.mem.noturned b1 (by decide))
                replace b2 := b2.kept kb (T.two.mem.noturned b2 (by decide))
                have R := T.symm.undone kb
                clear T kb
                go_wp2_with (first | ((with_reducible refine at_load 24 (.tmp 5) ?_); refine wpList_load_row rfl 24 (.tmp 5) rfl p1 rfl 24 P0.cs.toArray (0, 0) _ b1 Try.underlying24 rfl size24 ?_) | ((with_reducible refine at_load 27 (.tmp 9) ?_); refine wpList_load_row rfl 27 (.tmp 9) rfl p2 rfl 27 x.cs.toArray (0, 0) _ b2 Try.underlying27 rfl size27 ?_) | ((with_reducible refine at_load 24 (.tmp 5) ?_); refine wpList_mid (by rfl) 24 (.tmp 5) rfl p1 0 rfl P0.cs _ (range_blk b1) Try.underlying24 rfl size24 ?_) | ((with_reducible refine at_load 27 (.tmp 9) ?_); refine wpList_mid (by rfl) 27 (.tmp 9) rfl p2 0 rfl x.cs _ (range_blk b2) Try.underlying27 rfl size27 ?_))
                refine (told_any R.mem hq R.lst.sees (by omega) x hx0).mono ?_
                rintro _ we ⟨rfl, ka⟩
                go_wp2
                go_ret
                exact ⟨rfl, (R.on ka).below⟩
        · have t0 : decide ((k : Int) < (n2 : Int)) = false := decide_eq_false (by omega)
          replace T := T.symm
          go_wp2_with fail
          go_loopw [15, 17] (fun f i wr => ∃ k : Nat, k ≤ n3 ∧ k ≤ 20 ∧ i = .int .i64 (k : Int) ∧ ∃ Ay ny cy sqy Ly, f = .slice Ay ny cy ∧ Two w wr P0 mB hB bB spB sqy Ay ny cy Ly m h b sp sq2 A2x n2x c2x L2x ∧ Ly.length ≤ 20 + k ∧ Blk wr p1 24 P0.cs.toArray ∧ Blk wr p2 27 x.cs.toArray) (fun _ i _ => 20 - (intOf i).toNat)
          case atStart => exact ⟨0, Nat.zero_le _, by omega, rfl, Av, n1, cv, sqB, L, rfl, T, by omega, b1, b2⟩
          case round =>
            clear T b1 b2
            obtain ⟨k, hk, hkl, rfl, A3x, n3x, c3x, sq3, L3x, rfl, T, hL3, b1, b2⟩ := hrel
            have hln3 : L3x.length = n3x := T.one.lst.sees.len
            by_cases hlt : k < n3
            · by_cases hll : k < 20
              · have t0 : decide ((k : Int) < (n3 : Int)) = true := decide_eq_true (by omega)
                have t1 : decide ((k : Int) < 20) = true := decide_eq_true (by omega)
                obtain ⟨e, hx⟩ : ∃ e, l3[k]? = some e := ⟨_, List.getElem?_eq_getElem (by have := hS3.len; omega)⟩
                have hxe : e.x.Wide := hw3 e (List.mem_of_getElem? hx)
                obtain ⟨g, o, eA, hr0⟩ := hS3.at_ hx
                subst eA
                have hrE : ∀ W, Below w.heap.size w W → W.rangeAt g (o + k * 6) e.cs := fun W hb => by
                  obtain ⟨g3, o3, e3, hr3⟩ := (hS3.on hb).at_ hx
                  injection e3 with e3
                  injection e3 with e3 e4
                  subst e3 e4
                  exact hr3
                clear hr0 hx
                have hkI : (k : Int) < (n3 : Int) := by omega
                have hk0 : (0 : Int) ≤ (k : Int) := by omega
                go_wp2_with fail
                obtain ⟨wd, ed⟩ : ∃ W, wr.drew = W := ⟨_, rfl⟩
                have hd : Below wr.heap.size wr wd := by rw [← ed]; exact (Below.refl _ _).drew
                replace T := T.on hd
                replace b1 := b1.on hd
                replace b2 := b2.on hd
                clear hd
                have kS : Below w.heap.size w wd ∧ Blk wd p1 24 P0.cs.toArray ∧ Blk wd p2 27 x.cs.toArray := ⟨T.below, b1, b2⟩
                refine wp_region_noPanic ?_
                refine wp_region_held_drew (S := (fun W => Below w.heap.size w W ∧ Blk W p1 24 P0.cs.toArray ∧ Blk W p2 27 x.cs.toArray)) (by kernel_rfl) (by rw [ed]; exact kS) (fun hHeld => ?_)
                rw [ed] at hHeld ⊢
                refine wpAnyH_take (i := 0) (oi := ⟨some 82, _, _, _, _, _⟩) (v := ?_) rfl (by kernel_rfl) (by kernel_rfl) (by kernel_rfl) (fun _ _ _ h => h) (Or.inl ⟨by rfl, ?_⟩) (by assumption) ?_
                rotate_left 1
                · (intro W hSw; go_simp <;> with_reducible rfl)
                try simp only [Act.put, List.setIfInBounds_toArray, List.set_cons_zero, List.set_cons_succ]
                refine wpAnyH_take (i := 1) (oi := ⟨some 83, _, _, _, _, _⟩) (v := .agg (List.toArray (P0.cs))) rfl (by kernel_rfl) (by kernel_rfl) (by kernel_rfl) (fun _ _ _ h => h) (yieldsIf_load_mid (by rfl) 24 (.tmp 5) rfl p1 (0) rfl (P0.cs) _ (fun W hW => range_part hW.2.1 0 P0.cs rfl) Try.underlying24 rfl size24) (by assumption) ?_
                try simp only [Act.put, List.setIfInBounds_toArray, List.set_cons_zero, List.set_cons_succ]
                refine wpAnyH_take (i := 2) (oi := ⟨some 84, _, _, _, _, _⟩) (v := ?_) rfl (by kernel_rfl) (by kernel_rfl) (by kernel_rfl) (fun _ _ _ h => h) (Or.inl ⟨by rfl, ?_⟩) (by assumption) ?_
                rotate_left 1
                · (intro W hSw; go_simp <;> with_reducible rfl)
                try simp only [Act.put, List.setIfInBounds_toArray, List.set_cons_zero, List.set_cons_succ]
                refine wpAnyH_take (i := 3) (oi := ⟨some 85, _, _, _, _, _⟩) (v := ?_) rfl (by kernel_rfl) (by kernel_rfl) (by kernel_rfl) (fun _ _ _ h => h) (Or.inl ⟨by rfl, ?_⟩) (by assumption) ?_
                rotate_left 1
                · (intro W hSw; go_simp <;> with_reducible rfl)
                try simp only [Act.put, List.setIfInBounds_toArray, List.set_cons_zero, List.set_cons_succ]
                refine wpAnyH_take (i := 4) (oi := ⟨some 86, _, _, _, _, _⟩) (v := ?_) rfl (by kernel_rfl) (by kernel_rfl) (by kernel_rfl) (fun _ _ _ h => h) (Or.inl ⟨by rfl, ?_⟩) (by assumption) ?_
                rotate_left 1
                · (intro W hSw; go_simp <;> with_reducible rfl)
                try simp only [Act.put, List.setIfInBounds_toArray, List.set_cons_zero, List.set_cons_succ]
                refine wpAnyH_take (i := 5) (oi := ⟨some 87, _, _, _, _, _⟩) (v := ?_) rfl (by kernel_rfl) (by kernel_rfl) (by kernel_rfl) (fun _ _ _ h => h) (Or.inl ⟨by rfl, ?_⟩) (by assumption) ?_
                rotate_left 1
                · (intro W hSw; go_simp <;> with_reducible rfl)
                try simp only [Act.put, List.setIfInBounds_toArray, List.set_cons_zero, List.set_cons_succ]
                refine wpAnyH_take (i := 6) (oi := ⟨some 88, _, _, _, _, _⟩) (v := .agg (List.toArray (e.cs))) rfl (by kernel_rfl) (by kernel_rfl) (by kernel_rfl) (fun _ _ _ h => h) (yieldsIf_load_mid (by rfl) 37 (.tmp 87) rfl g (o + k * 6) rfl (e.cs) _ (fun W hW => hrE W hW.1) Try.underlying37 rfl size37) (by assumption) ?_
                try simp only [Act.put, List.setIfInBounds_toArray, List.set_cons_zero, List.set_cons_succ]
                refine wpAnyH_ready (rs := [7]) (by kernel_rfl) (by simp) ?_
                refine AllReadyH.cons (o := ⟨some 89, _, _, _, _, _⟩) rfl (fun K hK => ?_) AllReadyH.nil
                go_simp
                refine (lput_any T.one.mem hq T.one.lst (by omega) e hxe).mono ?_
                rintro _ w1 ⟨sq', A', n', cap', rfl, bo⟩
                have T1 := T.put bo
                have b1_1 := bo.blk T.one.mem T.one.lst b1 (by decide) (by decide)
                have b2_1 := bo.blk T.one.mem T.one.lst b2 (by decide) (by decide)
                have S1 : (fun W => Below w.heap.size w W ∧ Blk W p1 24 P0.cs.toArray ∧ Blk W p2 27 x.cs.toArray) w1 := ⟨T1.below, b1_1, b2_1⟩
                refine hK.out _ _ S1 (fun h1 => ?_)
                clear hHeld hK K
                try simp only [Act.put, List.setIfInBounds_toArray, List.set_cons_zero, List.set_cons_succ]
                refine wpAnyH_take (i := 8) (oi := ⟨some 81, _, _, _, _, _⟩) (v := ?_) rfl (by kernel_rfl) (by kernel_rfl) (by kernel_rfl) (fun _ _ _ h => h) (Or.inl ⟨by rfl, ?_⟩) (by assumption) ?_
                rotate_left 1
                · (intro W hSw; go_simp <;> with_reducible rfl)
                try simp only [Act.put, List.setIfInBounds_toArray, List.set_cons_zero, List.set_cons_succ]
                refine wpAnyH_take (i := 9) (oi := ⟨some 90, _, _, _, _, _⟩) (v := ?_) rfl (by kernel_rfl) (by kernel_rfl) (by kernel_rfl) (fun _ _ _ h => h) (Or.inl ⟨by rfl, ?_⟩) (by assumption) ?_
                rotate_left 1
                · (intro W hSw; go_simp <;> with_reducible rfl)
                try simp only [Act.put, List.setIfInBounds_toArray, List.set_cons_zero, List.set_cons_succ]
                refine wpAnyH_take (i := 10) (oi := ⟨some 91, _, _, _, _, _⟩) (v := ?_) rfl (by kernel_rfl) (by kernel_rfl) (by kernel_rfl) (fun _ _ _ h => h) (Or.inl ⟨by rfl, ?_⟩) (by assumption) ?_
                rotate_left 1
                · (intro W hSw; go_simp <;> with_reducible rfl)
                try simp only [Act.put, List.setIfInBounds_toArray, List.set_cons_zero, List.set_cons_succ]
                refine wpAnyH_take (i := 11) (oi := ⟨some 15, _, _, _, _, _⟩) (v := ?_) rfl (by kernel_rfl) (by kernel_rfl) (by kernel_rfl) (fun _ _ _ h => h) (Or.inl ⟨by rfl, ?_⟩) (by assumption) ?_
                rotate_left 1
                · (intro W hSw; go_simp <;> with_reducible rfl)
                try simp only [Act.put, List.setIfInBounds_toArray, List.set_cons_zero, List.set_cons_succ]
                refine wpAnyH_done (by kernel_rfl) ?_ _
                refine NoPanic.normal ?_
                replace T := T1
                replace b1 := b1_1
                replace b2 := b2_1
                clear h1 kS S1 T1 b1_1 b2_1 bo
                have hL9 := nextL_len P0 L3x e
                generalize nextL P0 L3x e = L9 at *
                go_wp2
                go_roundw
                case rel => exact ⟨k + 1, by omega, by omega, by go_num, A', n', cap', sq', L9, rfl, T, by omega, b1, b2⟩
                case measure => simp [intOf]; omega
              · have t0 : decide ((k : Int) < (n3 : Int)) = true := decide_eq_true (by omega)
                have t1 : decide ((k : Int) < 20) = false := decide_eq_false (by omega)
                go_wp2_with (first | ((with_reducible refine at_load 24 (.tmp 5) ?_); refine wpList_load_row rfl 24 (.tmp 5) rfl p1 rfl 24 P0.cs.toArray (0, 0) _ b1 Try.underlying24 rfl size24 ?_) | ((with_reducible refine at_load 27 (.tmp 9) ?_); refine wpList_load_row rfl 27 (.tmp 9) rfl p2 rfl 27 x.cs.toArray (0, 0) _ b2 Try.underlying27 rfl size27 ?_) | ((with_reducible refine at_load 24 (.tmp 5) ?_); refine wpList_mid (by rfl) 24 (.tmp 5) rfl p1 0 rfl P0.cs _ (range_blk b1) Try.underlying24 rfl size24 ?_) | ((with_reducible refine at_load 27 (.tmp 9) ?_); refine wpList_mid (by rfl) 27 (.tmp 9) rfl p2 0 rfl x.cs _ (range_blk b2) Try.underlying27 rfl size27 ?_))
                refine (told_any T.two.mem hq T.two.lst.sees (by omega) x hx0).mono ?_
                rintro _ wa ⟨rfl, ka⟩
                replace T := T.on ka
                replace b1 := b1.on ka
                replace b2 := b2.on ka
                clear ka
                go_wp2_with (first | ((with_reducible refine at_load 24 (.tmp 5) ?_); refine wpList_load_row rfl 24 (.tmp 5) rfl p1 rfl 24 P0.cs.toArray (0, 0) _ b1 Try.underlying24 rfl size24 ?_) | ((with_reducible refine at_load 27 (.tmp 9) ?_); refine wpList_load_row rfl 27 (.tmp 9) rfl p2 rfl 27 x.cs.toArray (0, 0) _ b2 Try.underlying27 rfl size27 ?_) | ((with_reducible refine at_load 24 (.tmp 5) ?_); refine wpList_mid (by rfl) 24 (.tmp 5) rfl p1 0 rfl P0.cs _ (range_blk b1) Try.underlying24 rfl size24 ?_) | ((with_reducible refine at_load 27 (.tmp 9) ?_); refine wpList_mid (by rfl) 27 (.tmp 9) rfl p2 0 rfl x.cs _ (range_blk b2) Try.underlying27 rfl size27 ?_))
                refine (told_any T.one.mem hq T.one.lst.sees (by omega) x hx0).mono ?_
                rintro _ wb ⟨rfl, ka⟩
                replace T := T.on ka
                replace b1 := b1.on ka
                replace b2 := b2.on ka
                clear ka
                go_wp2_with (first | ((with_reducible refine at_load 24 (.tmp 5) ?_); refine wpList_load_row rfl 24 (.tmp 5) rfl p1 rfl 24 P0.cs.toArray (0, 0) _ b1 Try.underlying24 rfl size24 ?_) | ((with_reducible refine at_load 27 (.tmp 9) ?_); refine wpList_load_row rfl 27 (.tmp 9) rfl p2 rfl 27 x.cs.toArray (0, 0) _ b2 Try.underlying27 rfl size27 ?_) | ((with_reducible refine at_load 24 (.tmp 5) ?_); refine wpList_mid (by rfl) 24 (.tmp 5) rfl p1 0 rfl P0.cs _ (range_blk b1) Try.underlying24 rfl size24 ?_) | ((with_reducible refine at_load 27 (.tmp 9) ?_); refine wpList_mid (by rfl) 27 (.tmp 9) rfl p2 0 rfl x.cs _ (range_blk b2) Try.underlying27 rfl size27 ?_))
                refine (undo_yes T.two.mem 0 (by omega) (Nat.zero_le _)).mono ?_
                rintro _ wd ⟨rfl, _, kb⟩
                replace b1 := b1.kept kb (T.two.mem.noturned b1 (by decide))
                replace b2 := b2.kept kb (T.two.mem.noturned b2 (by decide))
                have R := T.symm.undone kb
                clear T kb
                go_wp2_with (first | ((with_reducible refine at_load 24 (.tmp 5) ?_); refine wpList_load_row rfl 24 (.tmp 5) rfl p1 rfl 24 P0.cs.toArray (0, 0) _ b1 Try.underlying24 rfl size24 ?_) | ((with_reducible refine at_load 27 (.tmp 9) ?_); refine wpList_load_row rfl 27 (.tmp 9) rfl p2 rfl 27 x.cs.toArray (0, 0) _ b2 Try.underlying27 rfl size27 ?_) | ((with_reducible refine at_load 24 (.tmp 5) ?_); refine wpList_mid (by rfl) 24 (.tmp 5) rfl p1 0 rfl P0.cs _ (range_blk b1) Try.underlying24 rfl size24 ?_) | ((with_reducible refine at_load 27 (.tmp 9) ?_); refine wpList_mid (by rfl) 27 (.tmp 9) rfl p2 0 rfl x.cs _ (range_blk b2) Try.underlying27 rfl size27 ?_))
                refine (told_any R.mem hq R.lst.sees (by omega) x hx0).mono ?_
                rintro _ we ⟨rfl, ka⟩
                go_wp2
                go_ret
                exact ⟨rfl, (R.on ka).below⟩
            · have t0 : decide ((k : Int) < (n3 : Int)) = false := decide_eq_false (by omega)
              go_wp2_with (first | ((with_reducible refine at_load 24 (.tmp 5) ?_); refine wpList_load_row rfl 24 (.tmp 5) rfl p1 rfl 24 P0.cs.toArray (0, 0) _ b1 Try.underlying24 rfl size24 ?_) | ((with_reducible refine at_load 27 (.tmp 9) ?_); refine wpList_load_row rfl 27 (.tmp 9) rfl p2 rfl 27 x.cs.toArray (0, 0) _ b2 Try.underlying27 rfl size27 ?_) | ((with_reducible refine at_load 24 (.tmp 5) ?_); refine wpList_mid (by rfl) 24 (.tmp 5) rfl p1 0 rfl P0.cs _ (range_blk b1) Try.underlying24 rfl size24 ?_) | ((with_reducible refine at_load 27 (.tmp 9) ?_); refine wpList_mid (by rfl) 27 (.tmp 9) rfl p2 0 rfl x.cs _ (range_blk b2) Try.underlying27 rfl size27 ?_))
              refine (told_any T.two.mem hq T.two.lst.sees (by omega) x hx0).mono ?_
              rintro _ wa ⟨rfl, ka⟩
              replace T := T.on ka
              replace b1 := b1.on ka
              replace b2 := b2.on ka
              clear ka
              go_wp2_with (first | ((with_reducible refine at_load 24 (.tmp 5) ?_); refine wpList_load_row rfl 24 (.tmp 5) rfl p1 rfl 24 P0.cs.toArray (0, 0) _ b1 Try.underlying24 rfl size24 ?_) | ((with_reducible refine at_load 27 (.tmp 9) ?_); refine wpList_load_row rfl 27 (.tmp 9) rfl p2 rfl 27 x.cs.toArray (0, 0) _ b2 Try.underlying27 rfl size27 ?_) | ((with_reducible refine at_load 24 (.tmp 5) ?_); refine wpList_mid (by rfl) 24 (.tmp 5) rfl p1 0 rfl P0.cs _ (range_blk b1) Try.underlying24 rfl size24 ?_) | ((with_reducible refine at_load 27 (.tmp 9) ?_); refine wpList_mid (by rfl) 27 (.tmp 9) rfl p2 0 rfl x.cs _ (range_blk b2) Try.underlying27 rfl size27 ?_))
              refine (told_any T.one.mem hq T.one.lst.sees (by omega) x hx0).mono ?_
              rintro _ wb ⟨rfl, ka⟩
              replace T := T.on ka
              replace b1 := b1.on ka
              replace b2 := b2.on ka
              clear ka
              go_wp2_with (first | ((with_reducible refine at_load 24 (.tmp 5) ?_); refine wpList_load_row rfl 24 (.tmp 5) rfl p1 rfl 24 P0.cs.toArray (0, 0) _ b1 Try.underlying24 rfl size24 ?_) | ((with_reducible refine at_load 27 (.tmp 9) ?_); refine wpList_load_row rfl 27 (.tmp 9) rfl p2 rfl 27 x.cs.toArray (0, 0) _ b2 Try.underlying27 rfl size27 ?_) | ((with_reducible refine at_load 24 (.tmp 5) ?_); refine wpList_mid (by rfl) 24 (.tmp 5) rfl p1 0 rfl P0.cs _ (range_blk b1) Try.underlying24 rfl size24 ?_) | ((with_reducible refine at_load 27 (.tmp 9) ?_); refine wpList_mid (by rfl) 27 (.tmp 9) rfl p2 0 rfl x.cs _ (range_blk b2) Try.underlying27 rfl size27 ?_))
              refine (undo_yes T.two.mem 0 (by omega) (Nat.zero_le _)).mono ?_
              rintro _ wd ⟨rfl, _, kb⟩
              replace b1 := b1.kept kb (T.two.mem.noturned b1 (by decide))
              replace b2 := b2.kept kb (T.two.mem.noturned b2 (by decide))
              have R := T.symm.undone kb
              clear T kb
              go_wp2_with (first | ((with_reducible refine at_load 24 (.tmp 5) ?_); refine wpList_load_row rfl 24 (.tmp 5) rfl p1 rfl 24 P0.cs.toArray (0, 0) _ b1 Try.underlying24 rfl size24 ?_) | ((with_reducible refine at_load 27 (.tmp 9) ?_); refine wpList_load_row rfl 27 (.tmp 9) rfl p2 rfl 27 x.cs.toArray (0, 0) _ b2 Try.underlying27 rfl size27 ?_) | ((with_reducible refine at_load 24 (.tmp 5) ?_); refine wpList_mid (by rfl) 24 (.tmp 5) rfl p1 0 rfl P0.cs _ (range_blk b1) Try.underlying24 rfl size24 ?_) | ((with_reducible refine at_load 27 (.tmp 9) ?_); refine wpList_mid (by rfl) 27 (.tmp 9) rfl p2 0 rfl x.cs _ (range_blk b2) Try.underlying27 rfl size27 ?_))
              refine (told_any R.mem hq R.lst.sees (by omega) x hx0).mono ?_
              rintro _ we ⟨rfl, ka⟩
              go_wp2
              go_ret
              exact ⟨rfl, (R.on ka).below⟩
end Go.Proofs.Ytlajjadpcaobiaa
