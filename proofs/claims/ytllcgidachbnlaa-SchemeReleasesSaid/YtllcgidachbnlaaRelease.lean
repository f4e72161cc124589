/- What goes of a thread's bag, and the thread behind it. Conditions: at most a thousand elements; numbers of 64 bits. -/
import Derived.Test.YtllcgidachbnlaaParts
import Derived.Deep.RegionHeld3
namespace Go.Proofs.Ytllcgidachbnlaa
open Go.RowKit Go.ChangeShapes Go.WideShapes Go.Great

/-- The thread behind it. -/
def relT (c : Cf) (x : Th) (bg sn : Sl) : Th := { x with k := 0, i := 0, n := 0, se := noS, bg := bg, sn := sn, old := if c.c = 3 then 0 else x.old }
def snapL (c : Cf) (s : List Int) : List Int := if c.c = 3 then [] else s
theorem resTT {fn : Func} {a p : Tmp} (h : fn.results = #[.tmp a, .cell p 35]) (tmps : Array Value) (w : World) (g : Nat) (y : Th) (u : Value)
    (hu : tmps[a]?.getD undef = u) (hp : tmps[p]?.getD undef = .pointer (some ⟨g, 0, none⟩)) (hg : Blk w g 35 y.cs.toArray) :
    (results fn tmps).run Try.prog w = .ok (.tuple #[u, .agg y.cs.toArray]) w := by
  have hl := run_loadVar_row w g 35 35 y.cs.toArray (0, 0) _ hg Try.underlying35 rfl (sizeT y)
  simp [results, h, hu, hp, asAddr, Result.andThen, hl]
set_option maxRecDepth 100000 in
set_option maxHeartbeats 4000000 in
theorem release_any {w : World} {x : Th} {z s : List Int} {l : List Bg} (c : Cf) (h : Reads w x z l s) (u1 : x.se.n ≤ 1000) (u2 : x.bg.n ≤ 1000) (u3 : x.sn.n ≤ 1000) (hW : ∀ b ∈ l, Wide b.n) (hn : Wide x.n) :
    Calls Try.prog 14 #[.agg c.cs.toArray, .agg x.cs.toArray] w fun e w' => ∃ B1 d1 B2 d2 B3 d3, e = .returned (.tuple #[.slice B1 (goneL c x z l).length d1, .agg (relT c x ⟨B2, (restL c x z l).length, d2⟩ ⟨B3, (snapL c s).length, d3⟩).cs.toArray]) ∧
      w'.ownsRow w.heap.size 48 3 (.slice B1 (goneL c x z l).length d1) (goneL c x z l).length (flatB (goneL c x z l)) ∧ Own w.heap.size w' (relT c x ⟨B2, (restL c x z l).length, d2⟩ ⟨B3, (snapL c s).length, d3⟩) [] (restL c x z l) (snapL c s) ∧ Below w.heap.size w w' := by
  obtain ⟨p1, f1⟩ : ∃ p, w.heap.size = p := ⟨_, rfl⟩
  obtain ⟨W1, ea1⟩ : ∃ W, w.alloc (.cells c.cs.toArray 26) = W := ⟨_, rfl⟩
  have ka1 : Below w.heap.size w W1 := by rw [← ea1]; exact (Below.refl _ w).alloc (Nat.le_refl _) _
  have b1 : Blk W1 p1 26 c.cs.toArray := by rw [← ea1]; exact blk_new w _ 26 _ f1
  have kk : Below w.heap.size w W1 := ka1
  have hp1 : w.heap.size ≤ p1 := Nat.le_of_eq f1
  clear ka1
  obtain ⟨p2, f2⟩ : ∃ p, W1.heap.size = p := ⟨_, rfl⟩
  obtain ⟨W2, ea2⟩ : ∃ W, W1.alloc (.cells x.cs.toArray 35) = W := ⟨_, rfl⟩
  have ka2 : Below W1.heap.size W1 W2 := by rw [← ea2]; exact (Below.refl _ W1).alloc (Nat.le_refl _) _
  have b2 : Blk W2 p2 35 x.cs.toArray := by rw [← ea2]; exact blk_new W1 _ 35 _ f2
  have q1_2 : p1 < p2 := by rw [← f2]; exact b1.lt
  replace b1 := b1.on ka2
  have kk0 := kk
  replace kk := kk.trans (ka2.mono kk.size)
  have hp2 : w.heap.size ≤ p2 := by rw [← f2]; exact kk0.size
  clear ka2 kk0
  obtain ⟨p3, f3⟩ : ∃ p, W2.heap.size = p := ⟨_, rfl⟩
  obtain ⟨W3, ea3⟩ : ∃ W, W2.alloc (.cells #[.int .i64 0, .int .i64 0, .int .i64 0, .int .i64 0, .int .i64 0, .int .i64 0, .int .i64 0, .int .i64 0, .int .i64 0, .int .i64 0, .int .i64 0, .int .i64 0, .int .i64 0, .int .i64 0, .int .i64 0, .int .i64 0, .int .i64 0, .int .i64 0, .slice none 0 0, .slice none 0 0, .slice none 0 0, .int .i64 0] 35) = W := ⟨_, rfl⟩
  have ka3 : Below W2.heap.size W2 W3 := by rw [← ea3]; exact (Below.refl _ W2).alloc (Nat.le_refl _) _
  have b3 : Blk W3 p3 35 #[.int .i64 0, .int .i64 0, .int .i64 0, .int .i64 0, .int .i64 0, .int .i64 0, .int .i64 0, .int .i64 0, .int .i64 0, .int .i64 0, .int .i64 0, .int .i64 0, .int .i64 0, .int .i64 0, .int .i64 0, .int .i64 0, .int .i64 0, .int .i64 0, .slice none 0 0, .slice none 0 0, .slice none 0 0, .int .i64 0] := by rw [← ea3]; exact blk_new W2 _ 35 _ f3
  have q1_3 : p1 < p3 := by rw [← f3]; exact b1.lt
  replace b1 := b1.on ka3
  have q2_3 : p2 < p3 := by rw [← f3]; exact b2.lt
  replace b2 := b2.on ka3
  have kk0 := kk
  replace kk := kk.trans (ka3.mono kk.size)
  have hp3 : w.heap.size ≤ p3 := by rw [← f3]; exact kk0.size
  clear ka3 kk0
  have hls := h.sn.len
  have d1 := apart_any (h.on kk) u1 u2 u3
  obtain ⟨F, eF⟩ : ∃ F, goneL c x z l = F := ⟨_, rfl⟩
  obtain ⟨K, eK⟩ : ∃ K, restL c x z l = K := ⟨_, rfl⟩
  obtain ⟨f, ef⟩ : ∃ f, F.length = f := ⟨_, rfl⟩
  obtain ⟨r, er⟩ : ∃ r, K.length = r := ⟨_, rfl⟩
  rw [eF, eK, ef, er]
  unfold relT snapL
  by_cases h3 : c.c = 3
  · simp only [if_pos h3]
    go_enter Try.func14, Try.ntmps14
    go_wp2_with (((with_reducible refine at_load 35 (.tmp 3) ?_); refine wpList_load_row rfl 35 (.tmp 3) rfl p2 rfl 35 x.cs.toArray (0, 0) _ b2 Try.underlying35 rfl (sizeT _) ?_))
    refine (d1).mono ?_
    rintro e W4 ⟨A1, c1, A2, c2, A3, c3, rfl, ⟨o1, o2, o3⟩, k1⟩
    replace o1 := own_mono o1 kk.size
    replace o2 := own_mono o2 kk.size
    replace o3 := own_mono o3 kk.size
    replace b1 := b1.on k1
    replace b2 := b2.on k1
    replace b3 := b3.on k1
    replace kk := kk.trans (k1.mono kk.size)
    clear k1
    clear d1
    obtain ⟨W5, es5⟩ : ∃ W, W4.setRow p2 (x.put ⟨A1, x.se.n, c1⟩ ⟨A2, x.bg.n, c2⟩ ⟨A3, x.sn.n, c3⟩).cs.toArray = W := ⟨_, rfl⟩
    have bo2 := b2
    replace o1 := row_own o1 b2 (by decide) es5
    replace o2 := row_own o2 b2 (by decide) es5
    replace o3 := row_own o3 b2 (by decide) es5
    replace b1 := row_far b1 es5 (by omega)
    replace b3 := row_far b3 es5 (by omega)
    replace b2 : Blk W5 p2 35 (x.put ⟨A1, x.se.n, c1⟩ ⟨A2, x.bg.n, c2⟩ ⟨A3, x.sn.n, c3⟩).cs.toArray := row_named b2 es5
    replace kk := kk.trans (row_below es5 hp2 kk.size)
    have e1 := parts_any (x := (x.put ⟨A1, x.se.n, c1⟩ ⟨A2, x.bg.n, c2⟩ ⟨A3, x.sn.n, c3⟩)) (z := z) (l := l) (s := s) c ⟨o1, o2, o3⟩ kk.size u1 u2 hW hn
    change Calls Try.prog 29 #[.agg c.cs.toArray, .agg (x.put ⟨A1, x.se.n, c1⟩ ⟨A2, x.bg.n, c2⟩ ⟨A3, x.sn.n, c3⟩).cs.toArray] W5 fun e w' => ∃ A1 c1 A2 c2, e = .returned (.tuple #[.slice A1 (goneL c x z l).length c1, .slice A2 (restL c x z l).length c2]) ∧ w'.ownsRow w.heap.size 48 3 (.slice A1 (goneL c x z l).length c1) (goneL c x z l).length (flatB (goneL c x z l)) ∧ w'.ownsRow w.heap.size 48 3 (.slice A2 (restL c x z l).length c2) (restL c x z l).length (flatB (restL c x z l)) ∧ Below W5.heap.size W5 w' at e1
    rw [eF, eK, ef, er] at e1
    go_wp2_with (first | ((with_reducible refine at_store 35 (.tmp 3) (.tmp 9) ?_); refine wpList_store_row rfl 35 (.tmp 3) (.tmp 9) rfl p2 (x.put ⟨A1, x.se.n, c1⟩ ⟨A2, x.bg.n, c2⟩ ⟨A3, x.sn.n, c3⟩).cs.toArray rfl rfl 35 x.cs.toArray bo2 (sizeT _) rfl (Th.onea _) ?_; rw [es5]) | ((with_reducible refine at_load 26 (.tmp 2) ?_); refine wpList_load_row rfl 26 (.tmp 2) rfl p1 rfl 26 c.cs.toArray (0, 0) _ b1 Try.underlying26 rfl size26 ?_) | ((with_reducible refine at_load 35 (.tmp 3) ?_); refine wpList_load_row rfl 35 (.tmp 3) rfl p2 rfl 35 (x.put ⟨A1, x.se.n, c1⟩ ⟨A2, x.bg.n, c2⟩ ⟨A3, x.sn.n, c3⟩).cs.toArray (0, 0) _ b2 Try.underlying35 rfl (sizeT _) ?_))
    refine e1.mono ?_
    rintro e W6 ⟨B1, d1, B2, d2, rfl, g1, g2, k2⟩
    replace b1 := b1.on k2
    replace b2 := b2.on k2
    replace b3 := b3.on k2
    replace o1 := ownB_below o1 k2
    replace o2 := ownB_below o2 k2
    replace o3 := ownB_below o3 k2
    replace kk := kk.trans (k2.mono kk.size)
    clear k2
    clear e1
    have c6_2_19 : W6.cell? ⟨p2, 19, none⟩ = some (.slice A2 x.bg.n c2) := b2.cell 19
    have fr6_2_19 := b2.free 19
    obtain ⟨W7, es7⟩ : ∃ W, W6.setCell ⟨p2, 19, none⟩ (.slice B2 r d2) = W := ⟨_, rfl⟩
    replace o1 := set_own o1 b2 (by decide) es7
    replace o2 := set_own o2 b2 (by decide) es7
    replace o3 := set_own o3 b2 (by decide) es7
    replace g1 := set_own g1 b2 (by decide) es7
    replace g2 := set_own g2 b2 (by decide) es7
    replace b1 := set_far b1 es7 (by omega)
    replace b3 := set_far b3 es7 (by omega)
    replace b2 : Blk W7 p2 35 (x.put ⟨A1, x.se.n, c1⟩ ⟨B2, r, d2⟩ ⟨A3, x.sn.n, c3⟩).cs.toArray := set_named b2 es7 rfl
    replace kk := kk.trans (set_below es7 hp2 kk.size)
    go_wp2_with fail
    refine (none_any _).mono ?_
    rintro e W8 ⟨rfl, k3⟩
    clear c6_2_19 fr6_2_19
    replace b1 := b1.on k3
    replace b2 := b2.on k3
    replace b3 := b3.on k3
    replace o1 := ownB_below o1 k3
    replace o2 := ownB_below o2 k3
    replace o3 := ownB_below o3 k3
    replace g1 := ownB_below g1 k3
    replace g2 := ownB_below g2 k3
    replace kk := kk.trans (k3.mono kk.size)
    clear k3
    obtain ⟨W9, es9⟩ : ∃ W, W8.setCells p2 15 (miK 0).cs.toArray.toList = W := ⟨_, rfl⟩
    have bm2 := b2
    replace o1 := mid_own o1 b2 (by decide) es9
    replace o2 := mid_own o2 b2 (by decide) es9
    replace o3 := mid_own o3 b2 (by decide) es9
    replace g1 := mid_own g1 b2 (by decide) es9
    replace g2 := mid_own g2 b2 (by decide) es9
    replace b1 := mid_far b1 es9 (by omega)
    replace b3 := mid_far b3 es9 (by omega)
    replace b2 : Blk W9 p2 35 ((x.put ⟨A1, x.se.n, c1⟩ ⟨B2, r, d2⟩ ⟨A3, x.sn.n, c3⟩).wm (miK 0)).cs.toArray := mid_named b2 es9 rfl
    replace kk := kk.trans (mid_below es9 hp2 kk.size)
    have c9_1_0 : W9.cell? ⟨p1, 0, none⟩ = some (.int .i64 c.c) := b1.cell 0
    have t1 : (c.c == 3) = true := beq_iff_eq.2 h3
    have c9_2_20 : W9.cell? ⟨p2, 20, none⟩ = some (.slice A3 x.sn.n c3) := b2.cell 20
    have fr9_2_20 := b2.free 20
    obtain ⟨W10, es10⟩ : ∃ W, W9.setCell ⟨p2, 20, none⟩ (.slice none 0 0) = W := ⟨_, rfl⟩
    replace o1 := set_own o1 b2 (by decide) es10
    replace o2 := set_own o2 b2 (by decide) es10
    replace o3 := set_own o3 b2 (by decide) es10
    replace g1 := set_own g1 b2 (by decide) es10
    replace g2 := set_own g2 b2 (by decide) es10
    replace b1 := set_far b1 es10 (by omega)
    replace b3 := set_far b3 es10 (by omega)
    replace b2 : Blk W10 p2 35 ({ x with k := 0, i := 0, n := 0, se := noS, bg := ⟨B2, r, d2⟩, sn := noS, old := x.old } : Th).cs.toArray := set_named b2 es10 rfl
    replace kk := kk.trans (set_below es10 hp2 kk.size)
    have c10_2_21 : W10.cell? ⟨p2, 21, none⟩ = some (.int .i64 x.old) := b2.cell 21
    have fr10_2_21 := b2.free 21
    obtain ⟨W11, es11⟩ : ∃ W, W10.setCell ⟨p2, 21, none⟩ (.int .i64 0) = W := ⟨_, rfl⟩
    replace o1 := set_own o1 b2 (by decide) es11
    replace o2 := set_own o2 b2 (by decide) es11
    replace o3 := set_own o3 b2 (by decide) es11
    replace g1 := set_own g1 b2 (by decide) es11
    replace g2 := set_own g2 b2 (by decide) es11
    replace b1 := set_far b1 es11 (by omega)
    replace b3 := set_far b3 es11 (by omega)
    replace b2 : Blk W11 p2 35 ({ x with k := 0, i := 0, n := 0, se := noS, bg := ⟨B2, r, d2⟩, sn := noS, old := 0 } : Th).cs.toArray := set_named b2 es11 rfl
    replace kk := kk.trans (set_below es11 hp2 kk.size)
    go_wp2_with (((with_reducible refine at_store 32 (.tmp 19) (.tmp 18) ?_); refine wpList_store_mid rfl 32 (.tmp 19) (.tmp 18) rfl p2 15 (miK 0).cs.toArray rfl rfl (there_blk bm2 15 _ (Nat.le_of_ble_eq_true rfl)) size32 (Mi.onea _) ?_; rw [es9]))
    clear c9_1_0 c9_2_20 fr9_2_20 c10_2_21 fr10_2_21
    obtain ⟨wd, ed⟩ : ∃ W, W11.drew = W := ⟨_, rfl⟩
    have hd : Below W11.heap.size W11 wd := by rw [← ed]; exact (Below.refl _ _).drew
    replace b1 := b1.on hd
    replace b2 := b2.on hd
    replace b3 := b3.on hd
    replace o1 := ownB_below o1 hd
    replace o2 := ownB_below o2 hd
    replace o3 := ownB_below o3 hd
    replace g1 := ownB_below g1 hd
    replace g2 := ownB_below g2 hd
    replace kk := kk.trans (hd.mono kk.size)
    clear hd
    have kS : Below p3 wd wd := Below.refl _ _
    refine wp_region_noPanic ?_
    refine wp_region_held_drew (S := (fun W => Below p3 wd W)) (by kernel_rfl) (by rw [ed]; exact kS) (fun hHeld => ?_)
    rw [ed] at hHeld ⊢
    refine wpAnyH_take (i := 0) (oi := ⟨some 25, _, _, _, _, _⟩) (v := ?_) rfl (by kernel_rfl) (by kernel_rfl) (by kernel_rfl) (fun _ _ _ h => h) (Or.inl ⟨by rfl, ?_⟩) (by assumption) ?_
    rotate_left 1
    · (intro W hSw; go_simp <;> with_reducible rfl)
    try simp only [Act.put, List.setIfInBounds_toArray, List.set_cons_zero, List.set_cons_succ]
    refine wpAnyH_take (i := 1) (oi := ⟨some 26, _, _, _, _, _⟩) (v := .agg (List.toArray (({ x with k := 0, i := 0, n := 0, se := noS, bg := ⟨B2, r, d2⟩, sn := noS, old := 0 } : Th).cs))) rfl (by kernel_rfl) (by kernel_rfl) (by kernel_rfl) (fun _ _ _ h => h) (yieldsIf_load_mid (by rfl) 35 (.tmp 3) rfl p2 (0) rfl (({ x with k := 0, i := 0, n := 0, se := noS, bg := ⟨B2, r, d2⟩, sn := noS, old := 0 } : Th).cs) _ (fun W hW => range_part (b2.below hW q2_3) 0 ({ x with k := 0, i := 0, n := 0, se := noS, bg := ⟨B2, r, d2⟩, sn := noS, old := 0 } : Th).cs rfl) Try.underlying35 rfl (load35 _)) (by assumption) ?_
    try simp only [Act.put, List.setIfInBounds_toArray, List.set_cons_zero, List.set_cons_succ]
    refine wpAnyH_take (i := 2) (oi := ⟨some 4, _, _, _, _, _⟩) (v := ?_) rfl (by kernel_rfl) (by kernel_rfl) (by kernel_rfl) (fun _ _ _ h => h) (Or.inl ⟨by rfl, ?_⟩) (by assumption) ?_
    rotate_left 1
    · (intro W hSw; go_simp <;> with_reducible rfl)
    try simp only [Act.put, List.setIfInBounds_toArray, List.set_cons_zero, List.set_cons_succ]
    refine wpAnyH_ready (rs := [3]) (by kernel_rfl) (by simp) ?_
    refine AllReadyH.cons (o := ⟨none, _, _, _, _, _⟩) rfl (fun K hK => ?_) AllReadyH.nil
    rw [if_pos (by rfl)]
    refine wp_store_row 35 (.tmp 5) (.tmp 26) rfl p3 ({ x with k := 0, i := 0, n := 0, se := noS, bg := ⟨B2, r, d2⟩, sn := noS, old := 0 } : Th).cs.toArray rfl rfl 35 #[.int .i64 0, .int .i64 0, .int .i64 0, .int .i64 0, .int .i64 0, .int .i64 0, .int .i64 0, .int .i64 0, .int .i64 0, .int .i64 0, .int .i64 0, .int .i64 0, .int .i64 0, .int .i64 0, .int .i64 0, .int .i64 0, .int .i64 0, .int .i64 0, .slice none 0 0, .slice none 0 0, .slice none 0 0, .int .i64 0] b3 (sizeT _) rfl (Th.onea _) ?_
    refine hK.out _ _ (row_below (B := p3) rfl (Nat.le_refl _) (Nat.le_of_lt b3.lt)) (fun h1 => ?_)
    clear hHeld hK K
    try simp only [Act.put]
    refine wpAnyH_done (by kernel_rfl) ?_ _
    refine NoPanic.normal ?_
    obtain ⟨wz, ez⟩ : ∃ W, wd.setRow p3 ({ x with k := 0, i := 0, n := 0, se := noS, bg := ⟨B2, r, d2⟩, sn := noS, old := 0 } : Th).cs.toArray = W := ⟨_, rfl⟩
    rw [ez]
    replace o1 := row_own o1 b3 (by decide) ez
    replace o2 := row_own o2 b3 (by decide) ez
    replace o3 := row_own o3 b3 (by decide) ez
    replace g1 := row_own g1 b3 (by decide) ez
    replace g2 := row_own g2 b3 (by decide) ez
    have kk := kk.trans (row_below ez hp3 kk.size)
    have b3 : Blk wz p3 35 ({ x with k := 0, i := 0, n := 0, se := noS, bg := ⟨B2, r, d2⟩, sn := noS, old := 0 } : Th).cs.toArray := row_named b3 ez
    go_wp2
    refine bodyPost_ret (resTT rfl _ _ p3 ({ x with k := 0, i := 0, n := 0, se := noS, bg := ⟨B2, r, d2⟩, sn := noS, old := 0 } : Th) (.slice B1 f d1) rfl rfl b3) rfl ?_
    exact ⟨B1, d1, B2, d2, none, 0, rfl, g1, ⟨World.ownsRow_nil _ _ _ _, g2, World.ownsRow_nil _ _ _ _⟩, kk⟩
  · simp only [if_neg h3]
    rw [hls]
    go_enter Try.func14, Try.ntmps14
    go_wp2_with (((with_reducible refine at_load 35 (.tmp 3) ?_); refine wpList_load_row rfl 35 (.tmp 3) rfl p2 rfl 35 x.cs.toArray (0, 0) _ b2 Try.underlying35 rfl (sizeT _) ?_))
    refine (d1).mono ?_
    rintro e W4 ⟨A1, c1, A2, c2, A3, c3, rfl, ⟨o1, o2, o3⟩, k1⟩
    replace o1 := own_mono o1 kk.size
    replace o2 := own_mono o2 kk.size
    replace o3 := own_mono o3 kk.size
    replace b1 := b1.on k1
    replace b2 := b2.on k1
    replace b3 := b3.on k1
    replace kk := kk.trans (k1.mono kk.size)
    clear k1
    clear d1
    obtain ⟨W5, es5⟩ : ∃ W, W4.setRow p2 (x.put ⟨A1, x.se.n, c1⟩ ⟨A2, x.bg.n, c2⟩ ⟨A3, x.sn.n, c3⟩).cs.toArray = W := ⟨_, rfl⟩
    have bo2 := b2
    replace o1 := row_own o1 b2 (by decide) es5
    replace o2 := row_own o2 b2 (by decide) es5
    replace o3 := row_own o3 b2 (by decide) es5
    replace b1 := row_far b1 es5 (by omega)
    replace b3 := row_far b3 es5 (by omega)
    replace b2 : Blk W5 p2 35 (x.put ⟨A1, x.se.n, c1⟩ ⟨A2, x.bg.n, c2⟩ ⟨A3, x.sn.n, c3⟩).cs.toArray := row_named b2 es5
    replace kk := kk.trans (row_below es5 hp2 kk.size)
    have e1 := parts_any (x := (x.put ⟨A1, x.se.n, c1⟩ ⟨A2, x.bg.n, c2⟩ ⟨A3, x.sn.n, c3⟩)) (z := z) (l := l) (s := s) c ⟨o1, o2, o3⟩ kk.size u1 u2 hW hn
    change Calls Try.prog 29 #[.agg c.cs.toArray, .agg (x.put ⟨A1, x.se.n, c1⟩ ⟨A2, x.bg.n, c2⟩ ⟨A3, x.sn.n, c3⟩).cs.toArray] W5 fun e w' => ∃ A1 c1 A2 c2, e = .returned (.tuple #[.slice A1 (goneL c x z l).length c1, .slice A2 (restL c x z l).length c2]) ∧ w'.ownsRow w.heap.size 48 3 (.slice A1 (goneL c x z l).length c1) (goneL c x z l).length (flatB (goneL c x z l)) ∧ w'.ownsRow w.heap.size 48 3 (.slice A2 (restL c x z l).length c2) (restL c x z l).length (flatB (restL c x z l)) ∧ Below W5.heap.size W5 w' at e1
    rw [eF, eK, ef, er] at e1
    go_wp2_with (first | ((with_reducible refine at_store 35 (.tmp 3) (.tmp 9) ?_); refine wpList_store_row rfl 35 (.tmp 3) (.tmp 9) rfl p2 (x.put ⟨A1, x.se.n, c1⟩ ⟨A2, x.bg.n, c2⟩ ⟨A3, x.sn.n, c3⟩).cs.toArray rfl rfl 35 x.cs.toArray bo2 (sizeT _) rfl (Th.onea _) ?_; rw [es5]) | ((with_reducible refine at_load 26 (.tmp 2) ?_); refine wpList_load_row rfl 26 (.tmp 2) rfl p1 rfl 26 c.cs.toArray (0, 0) _ b1 Try.underlying26 rfl size26 ?_) | ((with_reducible refine at_load 35 (.tmp 3) ?_); refine wpList_load_row rfl 35 (.tmp 3) rfl p2 rfl 35 (x.put ⟨A1, x.se.n, c1⟩ ⟨A2, x.bg.n, c2⟩ ⟨A3, x.sn.n, c3⟩).cs.toArray (0, 0) _ b2 Try.underlying35 rfl (sizeT _) ?_))
    refine e1.mono ?_
    rintro e W6 ⟨B1, d1, B2, d2, rfl, g1, g2, k2⟩
    replace b1 := b1.on k2
    replace b2 := b2.on k2
    replace b3 := b3.on k2
    replace o1 := ownB_below o1 k2
    replace o2 := ownB_below o2 k2
    replace o3 := ownB_below o3 k2
    replace kk := kk.trans (k2.mono kk.size)
    clear k2
    clear e1
    have c6_2_19 : W6.cell? ⟨p2, 19, none⟩ = some (.slice A2 x.bg.n c2) := b2.cell 19
    have fr6_2_19 := b2.free 19
    obtain ⟨W7, es7⟩ : ∃ W, W6.setCell ⟨p2, 19, none⟩ (.slice B2 r d2) = W := ⟨_, rfl⟩
    replace o1 := set_own o1 b2 (by decide) es7
    replace o2 := set_own o2 b2 (by decide) es7
    replace o3 := set_own o3 b2 (by decide) es7
    replace g1 := set_own g1 b2 (by decide) es7
    replace g2 := set_own g2 b2 (by decide) es7
    replace b1 := set_far b1 es7 (by omega)
    replace b3 := set_far b3 es7 (by omega)
    replace b2 : Blk W7 p2 35 (x.put ⟨A1, x.se.n, c1⟩ ⟨B2, r, d2⟩ ⟨A3, x.sn.n, c3⟩).cs.toArray := set_named b2 es7 rfl
    replace kk := kk.trans (set_below es7 hp2 kk.size)
    go_wp2_with fail
    refine (none_any _).mono ?_
    rintro e W8 ⟨rfl, k3⟩
    clear c6_2_19 fr6_2_19
    replace b1 := b1.on k3
    replace b2 := b2.on k3
    replace b3 := b3.on k3
    replace o1 := ownB_below o1 k3
    replace o2 := ownB_below o2 k3
    replace o3 := ownB_below o3 k3
    replace g1 := ownB_below g1 k3
    replace g2 := ownB_below g2 k3
    replace kk := kk.trans (k3.mono kk.size)
    clear k3
    obtain ⟨W9, es9⟩ : ∃ W, W8.setCells p2 15 (miK 0).cs.toArray.toList = W := ⟨_, rfl⟩
    have bm2 := b2
    replace o1 := mid_own o1 b2 (by decide) es9
    replace o2 := mid_own o2 b2 (by decide) es9
    replace o3 := mid_own o3 b2 (by decide) es9
    replace g1 := mid_own g1 b2 (by decide) es9
    replace g2 := mid_own g2 b2 (by decide) es9
    replace b1 := mid_far b1 es9 (by omega)
    replace b3 := mid_far b3 es9 (by omega)
    replace b2 : Blk W9 p2 35 ((x.put ⟨A1, x.se.n, c1⟩ ⟨B2, r, d2⟩ ⟨A3, x.sn.n, c3⟩).wm (miK 0)).cs.toArray := mid_named b2 es9 rfl
    replace kk := kk.trans (mid_below es9 hp2 kk.size)
    have c9_1_0 : W9.cell? ⟨p1, 0, none⟩ = some (.int .i64 c.c) := b1.cell 0
    have t1 : (c.c == 3) = false := by simpa using h3
    go_wp2_with (((with_reducible refine at_store 32 (.tmp 19) (.tmp 18) ?_); refine wpList_store_mid rfl 32 (.tmp 19) (.tmp 18) rfl p2 15 (miK 0).cs.toArray rfl rfl (there_blk bm2 15 _ (Nat.le_of_ble_eq_true rfl)) size32 (Mi.onea _) ?_; rw [es9]))
    clear c9_1_0
    obtain ⟨wd, ed⟩ : ∃ W, W9.drew = W := ⟨_, rfl⟩
    have hd : Below W9.heap.size W9 wd := by rw [← ed]; exact (Below.refl _ _).drew
    replace b1 := b1.on hd
    replace b2 := b2.on hd
    replace b3 := b3.on hd
    replace o1 := ownB_below o1 hd
    replace o2 := ownB_below o2 hd
    replace o3 := ownB_below o3 hd
    replace g1 := ownB_below g1 hd
    replace g2 := ownB_below g2 hd
    replace kk := kk.trans (hd.mono kk.size)
    clear hd
    have kS : Below p3 wd wd := Below.refl _ _
    refine wp_region_noPanic ?_
    refine wp_region_held_drew (S := (fun W => Below p3 wd W)) (by kernel_rfl) (by rw [ed]; exact kS) (fun hHeld => ?_)
    rw [ed] at hHeld ⊢
    refine wpAnyH_take (i := 0) (oi := ⟨some 25, _, _, _, _, _⟩) (v := ?_) rfl (by kernel_rfl) (by kernel_rfl) (by kernel_rfl) (fun _ _ _ h => h) (Or.inl ⟨by rfl, ?_⟩) (by assumption) ?_
    rotate_left 1
    · (intro W hSw; go_simp <;> with_reducible rfl)
    try simp only [Act.put, List.setIfInBounds_toArray, List.set_cons_zero, List.set_cons_succ]
    refine wpAnyH_take (i := 1) (oi := ⟨some 26, _, _, _, _, _⟩) (v := .agg (List.toArray (({ x with k := 0, i := 0, n := 0, se := noS, bg := ⟨B2, r, d2⟩, sn := ⟨A3, x.sn.n, c3⟩, old := x.old } : Th).cs))) rfl (by kernel_rfl) (by kernel_rfl) (by kernel_rfl) (fun _ _ _ h => h) (yieldsIf_load_mid (by rfl) 35 (.tmp 3) rfl p2 (0) rfl (({ x with k := 0, i := 0, n := 0, se := noS, bg := ⟨B2, r, d2⟩, sn := ⟨A3, x.sn.n, c3⟩, old := x.old } : Th).cs) _ (fun W hW => range_part (b2.below hW q2_3) 0 ({ x with k := 0, i := 0, n := 0, se := noS, bg := ⟨B2, r, d2⟩, sn := ⟨A3, x.sn.n, c3⟩, old := x.old } : Th).cs rfl) Try.underlying35 rfl (load35 _)) (by assumption) ?_
    try simp only [Act.put, List.setIfInBounds_toArray, List.set_cons_zero, List.set_cons_succ]
    refine wpAnyH_take (i := 2) (oi := ⟨some 4, _, _, _, _, _⟩) (v := ?_) rfl (by kernel_rfl) (by kernel_rfl) (by kernel_rfl) (fun _ _ _ h => h) (Or.inl ⟨by rfl, ?_⟩) (by assumption) ?_
    rotate_left 1
    · (intro W hSw; go_simp <;> with_reducible rfl)
    try simp only [Act.put, List.setIfInBounds_toArray, List.set_cons_zero, List.set_cons_succ]
    refine wpAnyH_ready (rs := [3]) (by kernel_rfl) (by simp) ?_
    refine AllReadyH.cons (o := ⟨none, _, _, _, _, _⟩) rfl (fun K hK => ?_) AllReadyH.nil
    rw [if_pos (by rfl)]
    refine wp_store_row 35 (.tmp 5) (.tmp 26) rfl p3 ({ x with k := 0, i := 0, n := 0, se := noS, bg := ⟨B2, r, d2⟩, sn := ⟨A3, x.sn.n, c3⟩, old := x.old } : Th).cs.toArray rfl rfl 35 #[.int .i64 0, .int .i64 0, .int .i64 0, .int .i64 0, .int .i64 0, .int .i64 0, .int .i64 0, .int .i64 0, .int .i64 0, .int .i64 0, .int .i64 0, .int .i64 0, .int .i64 0, .int .i64 0, .int .i64 0, .int .i64 0, .int .i64 0, .int .i64 0, .slice none 0 0, .slice none 0 0, .slice none 0 0, .int .i64 0] b3 (sizeT _) rfl (Th.onea _) ?_
    refine hK.out _ _ (row_below (B := p3) rfl (Nat.le_refl _) (Nat.le_of_lt b3.lt)) (fun h1 => ?_)
    clear hHeld hK K
    try simp only [Act.put]
    refine wpAnyH_done (by kernel_rfl) ?_ _
    refine NoPanic.normal ?_
    obtain ⟨wz, ez⟩ : ∃ W, wd.setRow p3 ({ x with k := 0, i := 0, n := 0, se := noS, bg := ⟨B2, r, d2⟩, sn := ⟨A3, x.sn.n, c3⟩, old := x.old } : Th).cs.toArray = W := ⟨_, rfl⟩
    rw [ez]
    replace o1 := row_own o1 b3 (by decide) ez
    replace o2 := row_own o2 b3 (by decide) ez
    replace o3 := row_own o3 b3 (by decide) ez
    replace g1 := row_own g1 b3 (by decide) ez
    replace g2 := row_own g2 b3 (by decide) ez
    have kk := kk.trans (row_below ez hp3 kk.size)
    have b3 : Blk wz p3 35 ({ x with k := 0, i := 0, n := 0, se := noS, bg := ⟨B2, r, d2⟩, sn := ⟨A3, x.sn.n, c3⟩, old := x.old } : Th).cs.toArray := row_named b3 ez
    go_wp2
    refine bodyPost_ret (resTT rfl _ _ p3 ({ x with k := 0, i := 0, n := 0, se := noS, bg := ⟨B2, r, d2⟩, sn := ⟨A3, x.sn.n, c3⟩, old := x.old } : Th) (.slice B1 f d1) rfl rfl b3) rfl ?_
    exact ⟨B1, d1, B2, d2, A3, c3, rfl, g1, ⟨World.ownsRow_nil _ _ _ _, g2, o3⟩, kk⟩
end Go.Proofs.Ytllcgidachbnlaa
