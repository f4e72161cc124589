/- A guard seen. Conditions: as each states. -/
import Derived.Test.YtllcgidachbnlaaSee
namespace Go.Proofs.Ytllcgidachbnlaa
open Go.RowKit Go.ChangeShapes Go.WideShapes Go.Great

theorem blk_app {w w' : World} {B k n cap g : Nat} {t t' : TypeId} {A : Option Addr} {vs : List Value} {cs : Array Value} (h : w.ownsRow B t k (.slice A n cap) n vs) (hb : Blk w g t' cs) (ht : t ≠ t') (hg : w.grownBy w' (Value.slice A n cap).ownBlock) : Blk w' g t' cs :=
  blk_grown hb hg (fun e => (own_blocks h hb ht).elim (fun h0 => by rw [h0] at e; cases e) (fun h1 => h1 e.symm))
theorem row_belowZ {w0 w : World} {g : Nat} {cs : Array Value} (h : Below g w0 w) (hs : g ≤ w.heap.size) : Below g w0 (w.setRow g cs) := h.trans (row_below rfl (Nat.le_refl _) hs)
theorem seesI_one {w : World} {g : Nat} {v : Int} (h : Blk w g 2 #[.int .i64 v]) : SeesI w (some ⟨g, 0, none⟩) 1 1 [v] :=
  ⟨rfl, Nat.le_refl _, by unfold maxLen; omega, fun e => (by cases e), fun ad' e _ => by
    cases e
    exact ⟨g, 0, rfl, h.lt, range_blk (cs := ints [v]) h⟩⟩
set_option maxRecDepth 100000 in
set_option maxHeartbeats 4000000 in
theorem seeg_any {w : World} {B : Nat} {z : List Int} (p : Pg) (m : Mi) (v : Int) (hp : p.Ok) (hmw : Wide m.i) (hq : 1 ≤ sloZ p) (h : w.ownsRow B 2 1 (.slice m.se.A m.se.n m.se.cap) m.se.n (ints z)) (hB : B ≤ w.heap.size) (hn : m.se.n ≤ 1000) :
    Calls Try.prog 33 #[.agg p.cs.toArray, .agg m.cs.toArray, .int .i64 v] w fun e w' => ∃ A' c', e = .returned (.agg (nextM ⟨m.k, m.i, m.n, ⟨A', m.se.n + 1, c'⟩⟩ ⟨3, 0, 0, ⟨A', m.se.n + 1, c'⟩⟩ (sloZ p)).cs.toArray) ∧ w'.ownsRow B 2 1 (.slice A' (m.se.n + 1) c') (m.se.n + 1) (ints (z ++ [v])) ∧ Kept (fun g => lies m.se.A g) w w' := by
  obtain ⟨j0, hj, hy0, hy1, hy2⟩ := info_parts info2
  have o1 := h
  obtain ⟨p1, f1⟩ : ∃ p, w.heap.size = p := ⟨_, rfl⟩
  obtain ⟨W1, ea1⟩ : ∃ W, w.alloc (.cells p.cs.toArray 24) = W := ⟨_, rfl⟩
  have ka1 : Below w.heap.size w W1 := by rw [← ea1]; exact (Below.refl _ w).alloc (Nat.le_refl _) _
  have b1 : Blk W1 p1 24 p.cs.toArray := by rw [← ea1]; exact blk_new w _ 24 _ f1
  replace o1 := ownB_below o1 ka1
  have kk : Below w.heap.size w W1 := ka1
  have hp1 : w.heap.size ≤ p1 := Nat.le_of_eq f1
  clear ka1
  obtain ⟨p2, f2⟩ : ∃ p, W1.heap.size = p := ⟨_, rfl⟩
  obtain ⟨W2, ea2⟩ : ∃ W, W1.alloc (.cells m.cs.toArray 32) = W := ⟨_, rfl⟩
  have ka2 : Below W1.heap.size W1 W2 := by rw [← ea2]; exact (Below.refl _ W1).alloc (Nat.le_refl _) _
  have b2 : Blk W2 p2 32 m.cs.toArray := by rw [← ea2]; exact blk_new W1 _ 32 _ f2
  have q1_2 : p1 < p2 := by rw [← f2]; exact b1.lt
  replace b1 := b1.on ka2
  replace o1 := ownB_below o1 ka2
  have kk0 := kk
  replace kk := kk.trans (ka2.mono kk.size)
  have hp2 : w.heap.size ≤ p2 := by rw [← f2]; exact kk0.size
  clear ka2 kk0
  obtain ⟨p3, f3⟩ : ∃ p, W2.heap.size = p := ⟨_, rfl⟩
  obtain ⟨W3, ea3⟩ : ∃ W, W2.alloc (.cells #[.int .i64 0, .int .i64 0, .int .i64 0, .slice none 0 0] 32) = W := ⟨_, rfl⟩
  have ka3 : Below W2.heap.size W2 W3 := by rw [← ea3]; exact (Below.refl _ W2).alloc (Nat.le_refl _) _
  have b3 : Blk W3 p3 32 #[.int .i64 0, .int .i64 0, .int .i64 0, .slice none 0 0] := by rw [← ea3]; exact blk_new W2 _ 32 _ f3
  have q1_3 : p1 < p3 := by rw [← f3]; exact b1.lt
  replace b1 := b1.on ka3
  have q2_3 : p2 < p3 := by rw [← f3]; exact b2.lt
  replace b2 := b2.on ka3
  replace o1 := ownB_below o1 ka3
  have kk0 := kk
  replace kk := kk.trans (ka3.mono kk.size)
  have hp3 : w.heap.size ≤ p3 := by rw [← f3]; exact kk0.size
  clear ka3 kk0
  have c3_2_3 : W3.cell? ⟨p2, 3, none⟩ = some (.slice m.se.A m.se.n m.se.cap) := b2.cell 3
  have hq8 : sloZ p ≤ 8 := (all_of p.co.n p.s).2
  clear c3_2_3
  obtain ⟨p4, f4⟩ : ∃ p, W3.heap.size = p := ⟨_, rfl⟩
  obtain ⟨W4, ea4⟩ : ∃ W, W3.alloc (.cells #[.int .i64 v] 2) = W := ⟨_, rfl⟩
  have ka4 : Below W3.heap.size W3 W4 := by rw [← ea4]; exact (Below.refl _ W3).alloc (Nat.le_refl _) _
  have b4 : Blk W4 p4 2 #[.int .i64 v] := by rw [← ea4]; exact blk_new W3 _ 2 _ f4
  have q1_4 : p1 < p4 := by rw [← f4]; exact b1.lt
  replace b1 := b1.on ka4
  have q2_4 : p2 < p4 := by rw [← f4]; exact b2.lt
  replace b2 := b2.on ka4
  have q3_4 : p3 < p4 := by rw [← f4]; exact b3.lt
  replace b3 := b3.on ka4
  replace o1 := ownB_below o1 ka4
  have kk0 := kk
  replace kk := kk.trans (ka4.mono kk.size)
  have hp4 : w.heap.size ≤ p4 := by rw [← f4]; exact kk0.size
  clear ka4 kk0
  have c3 : W4.cell? ⟨p2, 3, none⟩ = some (.slice m.se.A m.se.n m.se.cap) := b2.cell 3
  have c3a : W3.cell? ⟨p2, 3, none⟩ = some (.slice m.se.A m.se.n m.se.cap) := by rw [← c3, ← ea4]; exact (World.cell?_alloc_lt _ _ _ (by show p2 < W3.heap.size; omega)).symm
  have hv := seesI_one b4
  go_enter Try.func33, Try.ntmps33
  go_wp2_with (at_builtin; refine wpList_app rfl _ _ 30 rfl B 2 j0 (.int .i64 0) 1 8 Try.underlying30 hj hy0 hy1 hy2 rfl (by decide) m.se.A m.se.n m.se.cap (ints z) rfl o1 (some ⟨p4, 0, none⟩) 1 1 (ints [v]) rfl hv (flat_one int1_one [v]) (by unfold maxLen; omega) (by omega) (Nat.le_trans hB kk.size) ?_)
  intro A' c' W5 o5 g5 _
  have kB := (kept_below (fun g => lies m.se.A g) kk).next (kept_grown g5) (fun g h => .inl ((own_lies _ _ _ _).1 h))
  replace b1 := blk_app o1 b1 (by decide) g5
  replace b2 := blk_app o1 b2 (by decide) g5
  replace b3 := blk_app o1 b3 (by decide) g5
  clear g5 o1 kk c3 c3a b4 hv
  have y3 : W5.cell? ⟨p2, 3, none⟩ = some (.slice m.se.A m.se.n m.se.cap) := b2.cell 3
  have fr := b2.free 3
  obtain ⟨W6, es6⟩ : ∃ W, W5.setCell ⟨p2, 3, none⟩ (.slice A' (m.se.n + 1) c') = W := ⟨_, rfl⟩
  have hl : (ints z ++ ints [v]) = ints (z ++ [v]) := by simp [ints]
  rw [hl] at o5
  have o6 : OwnI B W6 A' (m.se.n + 1) c' (z ++ [v]) := set_own o5 b2 (by decide) es6
  replace b1 := set_far b1 es6 (by omega)
  replace b3 := set_far b3 es6 (by omega)
  replace b2 : Blk W6 p2 32 (Mi.cs ⟨m.k, m.i, m.n, ⟨A', m.se.n + 1, c'⟩⟩).toArray := set_named b2 es6 rfl
  replace kB := kB.next (show Kept (fun k => k = p2) W5 W6 by rw [← es6]; exact kept_cell W5 ⟨p2, 3, none⟩ _) (fun g hg => .inr (by rw [hg]; exact hp2))
  clear o5 hl
  go_wp2_with fail
  clear y3 fr es6
  obtain ⟨wd, ed⟩ : ∃ W, W6.drew = W := ⟨_, rfl⟩
  have hd : Below W6.heap.size W6 wd := by rw [← ed]; exact (Below.refl _ _).drew
  replace b1 := b1.on hd
  replace b2 := b2.on hd
  replace b3 := b3.on hd
  replace o6 := o6.on hd
  replace kB := kB.next (kept_below (fun _ => False) hd) (fun _ h => h.elim)
  clear hd
  have kS : Below p3 wd wd := Below.refl _ _
  have tS : ∀ W, Below p3 wd W → W.cell? ⟨p2, 3, none⟩ = some (.slice A' (m.se.n + 1) c') := fun W hW => (b2.below hW q2_3).cell 3
  have q3l : p3 ≤ wd.heap.size := Nat.le_of_lt b3.lt
  refine wp_region_noPanic ?_
  refine wp_region_held_drew (S := (fun W => Below p3 wd W)) (by kernel_rfl) (show Below p3 wd W6.drew by rw [ed]; exact kS) (fun hHeld => ?_)
  rw [ed] at hHeld ⊢
  refine wpAnyH_take (i := 0) (oi := ⟨some 13, _, _, _, _, _⟩) (v := .agg (List.toArray ((Mi.cs ⟨m.k, m.i, m.n, ⟨A', m.se.n + 1, c'⟩⟩)))) rfl (by kernel_rfl) (by kernel_rfl) (by kernel_rfl) (fun _ _ _ h => h) (yieldsIf_load_mid (by rfl) 32 (.tmp 4) rfl p2 (0) rfl ((Mi.cs ⟨m.k, m.i, m.n, ⟨A', m.se.n + 1, c'⟩⟩)) _ (fun W hW => range_part (b2.below hW q2_3) 0 (Mi.cs ⟨m.k, m.i, m.n, ⟨A', m.se.n + 1, c'⟩⟩) rfl) Try.underlying32 rfl size32) (by assumption) ?_
  try simp only [Act.put, List.setIfInBounds_toArray, List.set_cons_zero, List.set_cons_succ]
  refine wpAnyH_take (i := 1) (oi := ⟨some 14, _, _, _, _, _⟩) (v := .agg (List.toArray (p.cs))) rfl (by kernel_rfl) (by kernel_rfl) (by kernel_rfl) (fun _ _ _ h => h) (yieldsIf_load_mid (by rfl) 24 (.tmp 3) rfl p1 (0) rfl (p.cs) _ (fun W hW => range_part (b1.below hW q1_3) 0 p.cs rfl) Try.underlying24 rfl size24) (by assumption) ?_
  try simp only [Act.put, List.setIfInBounds_toArray, List.set_cons_zero, List.set_cons_succ]
  refine wpAnyH_take (i := 3) (oi := ⟨some 16, _, _, _, _, _⟩) (v := ?_) rfl (by kernel_rfl) (by kernel_rfl) (by kernel_rfl) (fun _ _ _ h => h) (Or.inl ⟨by rfl, ?_⟩) (by assumption) ?_
  rotate_left 1
  · (intro W hSw; go_simp <;> with_reducible rfl)
  try simp only [Act.put, List.setIfInBounds_toArray, List.set_cons_zero, List.set_cons_succ]
  refine wpAnyH_take (i := 4) (oi := ⟨some 17, _, _, _, _, _⟩) (v := ?_) rfl (by kernel_rfl) (by kernel_rfl) (by kernel_rfl) (fun _ _ _ h => h) (Or.inl ⟨by rfl, ?_⟩) (by assumption) ?_
  rotate_left 1
  · (intro W hSw; obtain f3 := tS W hSw; go_simp <;> with_reducible rfl)
  try simp only [Act.put, List.setIfInBounds_toArray, List.set_cons_zero, List.set_cons_succ]
  refine wpAnyH_take (i := 5) (oi := ⟨some 18, _, _, _, _, _⟩) (v := ?_) rfl (by kernel_rfl) (by kernel_rfl) (by kernel_rfl) (fun _ _ _ h => h) (Or.inl ⟨by rfl, ?_⟩) (by assumption) ?_
  rotate_left 1
  · (intro W hSw; go_simp <;> with_reducible rfl)
  try simp only [Act.put, List.setIfInBounds_toArray, List.set_cons_zero, List.set_cons_succ]
  refine wpAnyH_ready (rs := [2]) (by kernel_rfl) (by simp) ?_
  refine AllReadyH.cons (o := ⟨some 15, _, _, _, _, _⟩) rfl (fun K hK => ?_) AllReadyH.nil
  go_simp
  refine (slots_any p hp wd).mono ?_
  rintro e w1 ⟨rfl, hb1⟩
  have o_1 := o6.on hb1
  have b3_1 := b3.on hb1
  have k_1 := kB.next (kept_below (fun _ => False) hb1) (fun _ h => h.elim)
  have S1 : (fun W => Below p3 wd W) w1 := (show Below p3 wd _ from kS).trans (hb1.mono (Nat.le_trans q3l (Below.size kS)))
  refine hK.out _ _ S1 (fun h1 => ?_)
  clear hHeld hK K
  try simp only [Act.put, List.setIfInBounds_toArray, List.set_cons_zero, List.set_cons_succ]
  refine wpAnyH_ready (rs := [6]) (by kernel_rfl) (by simp) ?_
  refine AllReadyH.cons (o := ⟨some 19, _, _, _, _, _⟩) rfl (fun K hK => ?_) AllReadyH.nil
  go_simp
  refine (next_any ⟨m.k, m.i, m.n, ⟨A', m.se.n + 1, c'⟩⟩ ⟨3, 0, 0, ⟨A', m.se.n + 1, c'⟩⟩ hmw (sloZ p) hq hq8 w1).mono ?_
  rintro e w2 ⟨rfl, hb2⟩
  have o_2 := o_1.on hb2
  have b3_2 := b3_1.on hb2
  have k_2 := k_1.next (kept_below (fun _ => False) hb2) (fun _ h => h.elim)
  have S2 : (fun W => Below p3 wd W) w2 := (show Below p3 wd _ from S1).trans (hb2.mono (Nat.le_trans q3l (Below.size S1)))
  refine hK.out _ _ S2 (fun h2 => ?_)
  clear h1 hK K
  try simp only [Act.put, List.setIfInBounds_toArray, List.set_cons_zero, List.set_cons_succ]
  refine wpAnyH_ready (rs := [7]) (by kernel_rfl) (by simp) ?_
  refine AllReadyH.cons (o := ⟨none, _, _, _, _, _⟩) rfl (fun K hK => ?_) AllReadyH.nil
  rw [if_pos (by rfl)]
  have b3z := b3_2
  refine wp_store_row 32 (.tmp 6) (.tmp 19) rfl p3 (nextM ⟨m.k, m.i, m.n, ⟨A', m.se.n + 1, c'⟩⟩ ⟨3, 0, 0, ⟨A', m.se.n + 1, c'⟩⟩ (sloZ p)).cs.toArray rfl rfl 32 #[.int .i64 0, .int .i64 0, .int .i64 0, .slice none 0 0] b3z size32 rfl (Mi.onea _) ?_
  refine hK.out _ _ (row_belowZ S2 (Nat.le_of_lt b3z.lt)) (fun h3 => ?_)
  clear h2 hK K
  try simp only [Act.put]
  refine wpAnyH_done (by kernel_rfl) ?_ _
  refine NoPanic.normal ?_
  obtain ⟨wz, ez⟩ : ∃ W, w2.setRow p3 (nextM ⟨m.k, m.i, m.n, ⟨A', m.se.n + 1, c'⟩⟩ ⟨3, 0, 0, ⟨A', m.se.n + 1, c'⟩⟩ (sloZ p)).cs.toArray = W := ⟨_, rfl⟩
  rw [ez]
  have oz := row_own o_2 b3_2 (by decide) ez
  have bz := row_named b3_2 ez
  have kz := k_2.next (show Kept (fun k => k = p3) w2 wz by rw [← ez]; exact kept_row _ p3 _) (fun g hg => .inr (by rw [hg]; exact hp3))
  go_wp2_with fail
  refine bodyPost_ret (results_cell_row (cs := (nextM ⟨m.k, m.i, m.n, ⟨A', m.se.n + 1, c'⟩⟩ ⟨3, 0, 0, ⟨A', m.se.n + 1, c'⟩⟩ (sloZ p)).cs.toArray) rfl _ _ p3 32 (0, 0) _ rfl bz Try.underlying32 rfl size32) rfl ?_
  exact ⟨A', c', rfl, oz, kz⟩
end Go.Proofs.Ytllcgidachbnlaa
