/- The foot of an act that reads through a pointer; the small trial that each statement begins with. Conditions: the variable 'rows' lies as it is laid, for the trial. -/
import Derived.Test.YtfadfdfpocpelaaDoorFeet
import Derived.Test.YtfadfdfpocpelaaDoorActOf
namespace Go.Proofs.YtfadfdfpocpelaaDoor
set_option linter.unusedSimpArgs false
set_option linter.unusedVariables false
open Go.RowKit Go.ChangeShapes Go.WideShapes

theorem Ft.onea (f : Ft) : f.cs.toArray.all (·.oneCell') = true := by simp [Ft.cs, Sl.v, Value.oneCell']
/-- An own row of places. -/
structure Hds (B : Nat) (w : World) (A : Option Addr) (cap : Nat) (c : Int) : Prop where
  own : w.ownsRow B 23 3 (.slice A 1 cap) 1 (flatP [⟨2, c, 0⟩])
theorem Hds.on {B : Nat} {w w' : World} {A : Option Addr} {cap : Nat} {c : Int} (h : Hds B w A cap c) (hb : Below w.heap.size w w') : Hds B w' A cap c := ⟨ownB_below h.own hb⟩
set_option maxRecDepth 100000 in
set_option maxHeartbeats 4000000 in
theorem reads_read (a : Ac) (hk : a.k = 2) (hc : 1 ≤ a.a.c) (hp : a.p.k ≠ 0) (w : World) : Calls Tryd.prog 18 #[.agg a.cs.toArray] w fun e w' => ∃ A cap, e = .returned (.slice A 2 cap) ∧ SeesP w' ⟨A, 2, cap⟩ [⟨2, a.a.c, 0⟩, a.p] ∧ Below w.heap.size w w' := by
  obtain ⟨i0, hi, hz0, hz1, hz2⟩ := info_parts info23b
  have HI := Lib.hid hi
  have HZ0 := Lib.hid hz0
  have HZ1 := Lib.hid hz1
  have HZ2 := Lib.hid hz2
  clear hi hz0 hz1 hz2
  have t0 : (a.k == 2) = true := by rw [hk]; rfl
  clear hk
  obtain ⟨p1, f1⟩ : ∃ p, w.heap.size = p := ⟨_, rfl⟩
  obtain ⟨W1, ea1⟩ : ∃ W, w.alloc (.cells a.cs.toArray 27) = W := ⟨_, rfl⟩
  have ka1 : Below w.heap.size w W1 := by rw [← ea1]; exact (Below.refl _ w).alloc (Nat.le_refl _) _
  have b1 : Blk W1 p1 27 a.cs.toArray := by rw [← ea1]; exact blk_new w _ 27 _ f1
  have kk : Below w.heap.size w W1 := ka1
  have hp1 : w.heap.size ≤ p1 := Nat.le_of_eq f1
  clear ka1
  have c1_1_0 : W1.cell? ⟨p1, 0, none⟩ = some (.int .i64 a.k) := b1.cell 0
  go_enter Tryd.func18, Tryd.ntmps18
  go_wp2_with fail
  clear c1_1_0
  clear f1
  obtain ⟨wd, ed⟩ : ∃ W, W1.drew = W := ⟨_, rfl⟩
  have hd : Below W1.heap.size W1 wd := by rw [← ed]; exact (Below.refl _ _).drew
  replace b1 := b1.on hd
  replace kk := kk.trans (hd.mono kk.size)
  clear hd
  have kS : Kept (fun g => p1 < g) wd wd := Kept.refl _ _
  refine wp_region_noPanic ?_
  refine wp_region_held_drew (S := (fun W => Kept (fun g => p1 < g) wd W)) (by kernel_rfl) (by rw [ed]; exact kS) (fun hHeld => ?_)
  rw [ed] at hHeld ⊢
  refine wpAnyH_take (i := 0) (oi := ⟨some 8, _, _, _, _, _⟩) (v := ?_) rfl (by kernel_rfl) (by kernel_rfl) (by kernel_rfl) (fun _ _ _ h => h) (Or.inl ⟨by rfl, ?_⟩) (by assumption) ?_
  rotate_left 1
  · (intro W hSw; go_simp <;> with_reducible rfl)
  try simp only [Act.put, List.setIfInBounds_toArray, List.set_cons_zero, List.set_cons_succ]
  refine wpAnyH_take (i := 1) (oi := ⟨some 9, _, _, _, _, _⟩) (v := .agg (List.toArray (a.a.cs))) rfl (by kernel_rfl) (by kernel_rfl) (by kernel_rfl) (fun _ _ _ h => h) (yieldsIf_load_mid (by rfl) 25 (.tmp 8) rfl p1 (4) rfl (a.a.cs) _ (fun W hW => range_part (b1.kept hW (by omega)) 4 a.a.cs rfl) Tryd.underlying25 rfl size25) (by assumption) ?_
  try simp only [Act.put, List.setIfInBounds_toArray, List.set_cons_zero, List.set_cons_succ]
  refine wpAnyH_take (i := 4) (oi := ⟨some 12, _, _, _, _, _⟩) (v := ?_) rfl (by kernel_rfl) (by kernel_rfl) (by kernel_rfl) (fun _ _ _ h => h) (Or.inl ⟨by rfl, ?_⟩) (by assumption) ?_
  rotate_left 1
  · (intro W hSw; go_simp <;> with_reducible rfl)
  try simp only [Act.put, List.setIfInBounds_toArray, List.set_cons_zero, List.set_cons_succ]
  refine wpAnyH_take (i := 5) (oi := ⟨some 13, _, _, _, _, _⟩) (v := .agg (List.toArray (a.p.cs))) rfl (by kernel_rfl) (by kernel_rfl) (by kernel_rfl) (fun _ _ _ h => h) (yieldsIf_load_mid (by rfl) 23 (.tmp 12) rfl p1 (1) rfl (a.p.cs) _ (fun W hW => range_part (b1.kept hW (by omega)) 1 a.p.cs rfl) Tryd.underlying23 rfl size23) (by assumption) ?_
  try simp only [Act.put, List.setIfInBounds_toArray, List.set_cons_zero, List.set_cons_succ]
  refine wpAnyH_ready (rs := [2]) (by kernel_rfl) (by simp) ?_
  refine AllReadyH.cons (o := ⟨some 10, _, _, _, _, _⟩) rfl (fun K hK => ?_) AllReadyH.nil
  go_simp
  refine (pointed_some a.a hc wd).mono ?_
  rintro e w1 ⟨g1, rfl, bg1, hb1⟩
  have b1_1 := b1.on hb1
  have kk_1 := kk.trans (hb1.mono kk.size)
  have S1 : (fun W => Kept (fun g => p1 < g) wd W) w1 := Kept.next kS (kept_below (fun _ => False) hb1) (fun _ h => h.elim)
  refine hK.out _ _ S1 (fun h1 => ?_)
  clear hHeld hK K
  try simp only [Act.put, List.setIfInBounds_toArray, List.set_cons_zero, List.set_cons_succ]
  refine wpAnyH_ready (rs := [3]) (by kernel_rfl) (by simp) ?_
  refine AllReadyH.cons (o := ⟨some 11, _, _, _, _, _⟩) rfl (fun K hK => ?_) AllReadyH.nil
  go_simp
  refine (heads_one bg1).mono ?_
  rintro e w2 ⟨A2, cap2, rfl, ho2, hb2⟩
  have hh2 : Hds wd.heap.size w2 A2 cap2 a.a.c := ⟨own_mono ho2 (Kept.size S1)⟩
  have b1_2 := b1_1.on hb2
  have kk_2 := kk_1.trans (hb2.mono kk_1.size)
  have bg_2 := bg1.on hb2
  have S2 : (fun W => Kept (fun g => p1 < g) wd W) w2 := Kept.next S1 (kept_below (fun _ => False) hb2) (fun _ h => h.elim)
  refine hK.out _ _ S2 (fun h2 => ?_)
  clear h1 hK K
  try simp only [Act.put, List.setIfInBounds_toArray, List.set_cons_zero, List.set_cons_succ]
  refine wpAnyH_ready (rs := [6]) (by kernel_rfl) (by simp) ?_
  refine AllReadyH.cons (o := ⟨some 14, _, _, _, _, _⟩) rfl (fun K hK => ?_) AllReadyH.nil
  go_simp
  refine (told_some a.p hp w2).mono ?_
  rintro e w3 ⟨g3, rfl, bt3, hb3⟩
  have b1_3 := b1_2.on hb3
  have kk_3 := kk_2.trans (hb3.mono kk_2.size)
  have bg_3 := bg_2.on hb3
  have ho_3 := hh2.on hb3
  have S3 : (fun W => Kept (fun g => p1 < g) wd W) w3 := Kept.next S2 (kept_below (fun _ => False) hb3) (fun _ h => h.elim)
  refine hK.out _ _ S3 (fun h3 => ?_)
  clear h2 hK K
  try simp only [Act.put, List.setIfInBounds_toArray, List.set_cons_zero, List.set_cons_succ]
  refine wpAnyH_ready (rs := [7]) (by kernel_rfl) (by simp) ?_
  refine AllReadyH.cons (o := ⟨some 15, _, _, _, _, _⟩) rfl (fun K hK => ?_) AllReadyH.nil
  rw [if_pos (by rfl)]
  refine wp_append_lies w3 (.tmp 11) (.tmp 14) 48 rfl wd.heap.size 23 i0 _ 3 24 Tryd.underlying48 HI.out HZ0.out HZ1.out HZ2.out rfl (by decide) (.slice A2 1 cap2) 1 (flatP [⟨2, a.a.c, 0⟩]) rfl ho_3.own ⟨g3, 0, none⟩ 1 1 a.p.cs rfl rfl (World.news_of_block (cs := a.p.cs.toArray) (t := 23) (fr := (0, 0)) bt3) (Pl.one _) (by decide) (by unfold maxLen; omega) (by omega) (Kept.size S3) w3.heap.size rfl ?_
  intro g4 cp4 w4 ho4 hg4 hat4 hlt4
  have kk4 : Below w.heap.size w w4 := kk_3.grown hg4 kk_3.size (fun g h => Nat.le_trans kk.size (ho_3.own.lt g h).1)
  have S4 : Kept (fun g => p1 < g) wd w4 := Kept.next S3 (kept_grown hg4) (fun g h => by have := (ho_3.own.lt g (by first | exact h | exact h.symm)).1; have := b1.lt; exact .inl (by omega))
  refine hK.out _ _ S4 (fun h4 => ?_)
  clear h3 hK K
  try simp only [Act.put, List.setIfInBounds_toArray, List.set_cons_zero, List.set_cons_succ]
  refine wpAnyH_take (i := 8) (oi := ⟨some 2, _, _, _, _, _⟩) (v := ?_) rfl (by kernel_rfl) (by kernel_rfl) (by kernel_rfl) (fun _ _ _ h => h) (Or.inl ⟨by rfl, ?_⟩) (by assumption) ?_
  rotate_left 1
  · (intro W hSw; go_simp <;> with_reducible rfl)
  try simp only [Act.put, List.setIfInBounds_toArray, List.set_cons_zero, List.set_cons_succ]
  refine wpAnyH_done (by kernel_rfl) ?_ _
  refine NoPanic.normal ?_
  go_wp2_with fail
  go_ret
  exact ⟨some ⟨g4, 0, none⟩, cp4, rfl, own_sees ho4, kk4⟩
set_option maxRecDepth 100000 in
set_option maxHeartbeats 4000000 in
theorem writes_read (ord : Int) (a : Ac) (hk : a.k = 2) (v : Value) (w : World) : Calls Tryd.prog 19 #[.int .i64 ord, .agg a.cs.toArray, v] w fun e w' => e = .returned (.slice none 0 0) ∧ Below w.heap.size w w' := by
  have t4 : (a.k == 4) = false := by rw [hk]; rfl
  have t3 : (a.k == 3) = false := by rw [hk]; rfl
  have t11 : (a.k == 11) = false := by rw [hk]; rfl
  have t6 : (a.k == 6) = false := by rw [hk]; rfl
  have t7 : (a.k == 7) = false := by rw [hk]; rfl
  have t8 : (a.k == 8) = false := by rw [hk]; rfl
  have t10 : (a.k == 10) = false := by rw [hk]; rfl
  clear hk
  obtain ⟨p1, f1⟩ : ∃ p, w.heap.size = p := ⟨_, rfl⟩
  obtain ⟨W1, ea1⟩ : ∃ W, w.alloc (.cells a.cs.toArray 27) = W := ⟨_, rfl⟩
  have ka1 : Below w.heap.size w W1 := by rw [← ea1]; exact (Below.refl _ w).alloc (Nat.le_refl _) _
  have b1 : Blk W1 p1 27 a.cs.toArray := by rw [← ea1]; exact blk_new w _ 27 _ f1
  have kk : Below w.heap.size w W1 := ka1
  have hp1 : w.heap.size ≤ p1 := Nat.le_of_eq f1
  clear ka1
  have c1_1_0 : W1.cell? ⟨p1, 0, none⟩ = some (.int .i64 a.k) := b1.cell 0
  go_enter Tryd.func19, Tryd.ntmps19
  go_wp2_with fail
  go_ret
  first | exact ⟨rfl, kk⟩ | (rw [f1] at kk; exact ⟨rfl, kk⟩)
set_option maxRecDepth 100000 in
set_option maxHeartbeats 4000000 in
theorem foot_read (ord : Int) (a : Ac) (hk : a.k = 2) (hc : 1 ≤ a.a.c) (hp : a.p.k ≠ 0) (v : Value) (hv : v = .slice none 0 0) (w : World) : Calls Tryd.prog 9 #[.int .i64 ord, .agg a.cs.toArray, v] w fun e w' => ∃ f : Ft, e = .returned (.agg f.cs.toArray) ∧ (normP [⟨2, a.a.c, 0⟩, a.p]).length = f.r.n ∧ f.w.n = 0 ∧ Below w.heap.size w w' := by
  subst hv
  obtain ⟨p1, f1⟩ : ∃ p, w.heap.size = p := ⟨_, rfl⟩
  obtain ⟨W1, ea1⟩ : ∃ W, w.alloc (.cells a.cs.toArray 27) = W := ⟨_, rfl⟩
  have ka1 : Below w.heap.size w W1 := by rw [← ea1]; exact (Below.refl _ w).alloc (Nat.le_refl _) _
  have b1 : Blk W1 p1 27 a.cs.toArray := by rw [← ea1]; exact blk_new w _ 27 _ f1
  have kk : Below w.heap.size w W1 := ka1
  have hp1 : w.heap.size ≤ p1 := Nat.le_of_eq f1
  clear ka1
  obtain ⟨p2, f2⟩ : ∃ p, W1.heap.size = p := ⟨_, rfl⟩
  obtain ⟨W2, ea2⟩ : ∃ W, W1.alloc (.cells #[.slice none 0 0, .slice none 0 0] 50) = W := ⟨_, rfl⟩
  have ka2 : Below W1.heap.size W1 W2 := by rw [← ea2]; exact (Below.refl _ W1).alloc (Nat.le_refl _) _
  have b2 : Blk W2 p2 50 #[.slice none 0 0, .slice none 0 0] := by rw [← ea2]; exact blk_new W1 _ 50 _ f2
  have q1_2 : p1 < p2 := by rw [← f2]; exact b1.lt
  replace b1 := b1.on ka2
  have kk0 := kk
  replace kk := kk.trans (ka2.mono kk.size)
  have hp2 : w.heap.size ≤ p2 := by rw [← f2]; exact kk0.size
  clear ka2 kk0
  have h12 : p1 ≠ p2 := by omega
  go_enter Tryd.func9, Tryd.ntmps9
  go_wp2_with fail
  clear f1
  obtain ⟨wd, ed⟩ : ∃ W, W2.drew = W := ⟨_, rfl⟩
  have hd : Below W2.heap.size W2 wd := by rw [← ed]; exact (Below.refl _ _).drew
  replace b1 := b1.on hd
  replace b2 := b2.on hd
  replace kk := kk.trans (hd.mono kk.size)
  clear hd
  have kS : Kept (fun g => g = p2) wd wd := Kept.refl _ _
  refine wp_region_noPanic ?_
  refine wp_region_held_drew (S := (fun W => Kept (fun g => g = p2) wd W)) (by kernel_rfl) (by rw [ed]; exact kS) (fun hHeld => ?_)
  rw [ed] at hHeld ⊢
  refine wpAnyH_take (i := 0) (oi := ⟨some 7, _, _, _, _, _⟩) (v := .agg (List.toArray (a.cs))) rfl (by kernel_rfl) (by kernel_rfl) (by kernel_rfl) (fun _ _ _ h => h) (yieldsIf_load_mid (by rfl) 27 (.tmp 4) rfl p1 (0) rfl (a.cs) _ (fun W hW => range_part (b1.kept hW h12) 0 a.cs rfl) Tryd.underlying27 rfl size27) (by assumption) ?_
  try simp only [Act.put, List.setIfInBounds_toArray, List.set_cons_zero, List.set_cons_succ]
  refine wpAnyH_take (i := 2) (oi := ⟨some 9, _, _, _, _, _⟩) (v := ?_) rfl (by kernel_rfl) (by kernel_rfl) (by kernel_rfl) (fun _ _ _ h => h) (Or.inl ⟨by rfl, ?_⟩) (by assumption) ?_
  rotate_left 1
  · (intro W hSw; go_simp <;> with_reducible rfl)
  try simp only [Act.put, List.setIfInBounds_toArray, List.set_cons_zero, List.set_cons_succ]
  refine wpAnyH_take (i := 3) (oi := ⟨some 10, _, _, _, _, _⟩) (v := .agg (List.toArray (a.cs))) rfl (by kernel_rfl) (by kernel_rfl) (by kernel_rfl) (fun _ _ _ h => h) (yieldsIf_load_mid (by rfl) 27 (.tmp 4) rfl p1 (0) rfl (a.cs) _ (fun W hW => range_part (b1.kept hW h12) 0 a.cs rfl) Tryd.underlying27 rfl size27) (by assumption) ?_
  try simp only [Act.put, List.setIfInBounds_toArray, List.set_cons_zero, List.set_cons_succ]
  refine wpAnyH_take (i := 4) (oi := ⟨some 11, _, _, _, _, _⟩) (v := ?_) rfl (by kernel_rfl) (by kernel_rfl) (by kernel_rfl) (fun _ _ _ h => h) (Or.inl ⟨by rfl, ?_⟩) (by assumption) ?_
  rotate_left 1
  · (intro W hSw; go_simp <;> with_reducible rfl)
  try simp only [Act.put, List.setIfInBounds_toArray, List.set_cons_zero, List.set_cons_succ]
  refine wpAnyH_ready (rs := [1]) (by kernel_rfl) (by simp) ?_
  refine AllReadyH.cons (o := ⟨some 8, _, _, _, _, _⟩) rfl (fun K hK => ?_) AllReadyH.nil
  go_simp
  refine (reads_read a hk hc hp wd).mono ?_
  rintro e w1 ⟨A1, cap1, rfl, hse1, hb1⟩
  have b1_1 := b1.on hb1
  have b2_1 := b2.on hb1
  have kk_1 := kk.trans (hb1.mono kk.size)
  have S1 : (fun W => Kept (fun g => g = p2) wd W) w1 := Kept.next kS (kept_below (fun _ => False) hb1) (fun _ h => h.elim)
  refine hK.out _ _ S1 (fun h1 => ?_)
  clear hHeld hK K
  try simp only [Act.put, List.setIfInBounds_toArray, List.set_cons_zero, List.set_cons_succ]
  refine wpAnyH_ready (rs := [5]) (by kernel_rfl) (by simp) ?_
  refine AllReadyH.cons (o := ⟨some 12, _, _, _, _, _⟩) rfl (fun K hK => ?_) AllReadyH.nil
  go_simp
  refine (writes_read ord a hk _ w1).mono ?_
  rintro e w2 ⟨rfl, hb2⟩
  have b1_2 := b1_1.on hb2
  have b2_2 := b2_1.on hb2
  have kk_2 := kk_1.trans (hb2.mono kk_1.size)
  have se_2 := hse1.on hb2
  have S2 : (fun W => Kept (fun g => g = p2) wd W) w2 := Kept.next S1 (kept_below (fun _ => False) hb2) (fun _ h => h.elim)
  refine hK.out _ _ S2 (fun h2 => ?_)
  clear h1 hK K
  try simp only [Act.put, List.setIfInBounds_toArray, List.set_cons_zero, List.set_cons_succ]
  refine wpAnyH_ready (rs := [6]) (by kernel_rfl) (by simp) ?_
  refine AllReadyH.cons (o := ⟨some 13, _, _, _, _, _⟩) rfl (fun K hK => ?_) AllReadyH.nil
  go_simp
  refine (of_any (w := w2) se_2 (sees_nil _) (by decide) (by decide)).mono ?_
  rintro e w3 ⟨f3, rfl, hf3, hb3⟩
  have len3 : (normP [⟨2, a.a.c, 0⟩, a.p]).length = f3.r.n := hf3.r.len
  have lew3 : f3.w.n = 0 := hf3.w.len.symm
  have b1_3 := b1_2.on hb3
  have b2_3 := b2_2.on hb3
  have kk_3 := kk_2.trans (hb3.mono kk_2.size)
  have se_3 := se_2.on hb3
  have S3 : (fun W => Kept (fun g => g = p2) wd W) w3 := Kept.next S2 (kept_below (fun _ => False) hb3) (fun _ h => h.elim)
  refine hK.out _ _ S3 (fun h3 => ?_)
  clear h2 hK K
  try simp only [Act.put, List.setIfInBounds_toArray, List.set_cons_zero, List.set_cons_succ]
  refine wpAnyH_ready (rs := [7]) (by kernel_rfl) (by simp) ?_
  refine AllReadyH.cons (o := ⟨none, _, _, _, _, _⟩) rfl (fun K hK => ?_) AllReadyH.nil
  rw [if_pos (by rfl)]
  refine wp_store_row 50 (.tmp 6) (.tmp 13) rfl p2 f3.cs.toArray rfl rfl 50 #[.slice none 0 0, .slice none 0 0] b2_3 size50 rfl (Ft.onea _) ?_
  refine hK.out _ _ (Kept.next S3 (kept_row _ p2 _) (fun g h => .inl h)) (fun h4 => ?_)
  clear h3 hK K
  have S4 : Kept (fun g => g = p2) wd (w3.setRow p2 f3.cs.toArray) := Kept.next S3 (kept_row _ p2 _) (fun g h => .inl h)
  have b2_4 : Blk (w3.setRow p2 f3.cs.toArray) p2 50 f3.cs.toArray := row_named b2_3 rfl
  have kk_4 := kk_3.trans (row_below (W := (w3.setRow p2 f3.cs.toArray)) rfl hp2 kk_3.size)
  try simp only [Act.put]
  refine wpAnyH_done (by kernel_rfl) ?_ _
  refine NoPanic.normal ?_
  go_wp2_with fail
  refine bodyPost_ret (results_cell_row (cs := f3.cs.toArray) rfl _ _ p2 50 (0, 0) _ rfl b2_4 Tryd.underlying50 rfl size50) rfl ?_
  exact ⟨f3, rfl, (by first | exact len3 | rfl), (by first | exact lew3 | rfl), kk_4⟩
def xssA : List (List P.Ins) := [[⟨14, 0, 1, 0, 1⟩]]
def thA : Th := { noT with fu := 1, a3 := 2, a4 := 2, a5 := 1 }
def actA : Ac := ⟨2, ⟨3, 2, 1⟩, ⟨2, 2, 1⟩, noW, noW, 1⟩
theorem alive_of (A : Option Addr) : ofA ⟨0, 2, 0, ⟨A, 1, 1⟩⟩ xssA 0 thA 0 = actA := by
  have h : P.chkP 0 2 0 xssA = 0 := by decide +kernel
  have h1 : xssA.length = 1 := rfl
  have hd : doneB thA 1 = false := by decide
  unfold ofA
  rw [if_pos ⟨h, by decide, by rw [h1]; decide⟩]
  show (if doneB thA 1 = true then noA else if thA.k = 0 then actI 0 thA ⟨14, 0, 1, 0, 1⟩ 0 else micA _ 0 thA.mi) = actA
  rw [hd, if_neg (by decide), if_pos (by decide)]
  decide +kernel
theorem mat_one {w : World} {g1 g2 : Nat} (b1 : Blk w g1 35 #[.int .i64 14, .int .i64 0, .int .i64 1, .int .i64 0, .int .i64 1]) (b2 : Blk w g2 36 #[.slice (some ⟨g1, 0, none⟩) 1 1]) : P.Mat w (fun g => g < w.heap.size) (some ⟨g2, 0, none⟩) 1 1 xssA := by
  refine ⟨rfl, Nat.le_refl _, by unfold maxLen; omega, fun h => (by cases h), fun ad ha i xs hx => ?_⟩
  injection ha with ha
  subst ha
  match i, hx with
  | 0, hx =>
    have hx : [(⟨14, 0, 1, 0, 1⟩ : P.Ins)] = xs := by simpa [xssA] using hx
    subst hx
    refine ⟨g2, 0, some ⟨g1, 0, none⟩, 1, 1, rfl, b2.lt, b2.cell 0, ⟨rfl, Nat.le_refl _, by unfold maxLen; omega, fun h => (by cases h), fun ad' ha' j x hj => ?_⟩⟩
    injection ha' with ha'
    subst ha'
    match j, hj with
    | 0, hj =>
      have hj : (⟨14, 0, 1, 0, 1⟩ : P.Ins) = x := by simpa using hj
      subst hj
      exact ⟨g1, 0, rfl, b1.lt, ⟨b1.cell 0, b1.cell 1, b1.cell 2, b1.cell 3, b1.cell 4⟩⟩
    | j + 1, hj => simp at hj
  | i + 1, hx => simp [xssA] at hx
theorem two_len : (normP [⟨2, 2, 0⟩, ⟨3, 2, 1⟩]).length = 2 := by decide +kernel
set_option maxRecDepth 100000 in
set_option maxHeartbeats 4000000 in
theorem alive_any {w : World} (hL : P.Laid w) : Calls Tryd.prog 4 #[] w fun e w' => e = .returned (.bool true) ∧ Below w.heap.size w w' := by
  obtain ⟨p1, f1⟩ : ∃ p, w.heap.size = p := ⟨_, rfl⟩
  obtain ⟨W1, ea1⟩ : ∃ W, w.alloc (.cells #[.int .i64 14, .int .i64 0, .int .i64 1, .int .i64 0, .int .i64 1] 35) = W := ⟨_, rfl⟩
  have ka1 : Below w.heap.size w W1 := by rw [← ea1]; exact (Below.refl _ w).alloc (Nat.le_refl _) _
  have b1 : Blk W1 p1 35 #[.int .i64 14, .int .i64 0, .int .i64 1, .int .i64 0, .int .i64 1] := by rw [← ea1]; exact blk_new w _ 35 _ f1
  have kk : Below w.heap.size w W1 := ka1
  have hp1 : w.heap.size ≤ p1 := Nat.le_of_eq f1
  clear ka1
  obtain ⟨p2, f2⟩ : ∃ p, W1.heap.size = p := ⟨_, rfl⟩
  obtain ⟨W2, ea2⟩ : ∃ W, W1.alloc (.cells #[.slice (some ⟨p1, 0, none⟩) 1 1] 36) = W := ⟨_, rfl⟩
  have ka2 : Below W1.heap.size W1 W2 := by rw [← ea2]; exact (Below.refl _ W1).alloc (Nat.le_refl _) _
  have b2 : Blk W2 p2 36 #[.slice (some ⟨p1, 0, none⟩) 1 1] := by rw [← ea2]; exact blk_new W1 _ 36 _ f2
  have q1_2 : p1 < p2 := by rw [← f2]; exact b1.lt
  replace b1 := b1.on ka2
  have kk0 := kk
  replace kk := kk.trans (ka2.mono kk.size)
  have hp2 : w.heap.size ≤ p2 := by rw [← f2]; exact kk0.size
  clear ka2 kk0
  obtain ⟨p3, f3⟩ : ∃ p, W2.heap.size = p := ⟨_, rfl⟩
  obtain ⟨W3, ea3⟩ : ∃ W, W2.alloc (.cells #[.int .i64 0, .int .i64 0, .int .i64 0, .slice none 0 0] 39) = W := ⟨_, rfl⟩
  have ka3 : Below W2.heap.size W2 W3 := by rw [← ea3]; exact (Below.refl _ W2).alloc (Nat.le_refl _) _
  have b3 : Blk W3 p3 39 #[.int .i64 0, .int .i64 0, .int .i64 0, .slice none 0 0] := by rw [← ea3]; exact blk_new W2 _ 39 _ f3
  have q1_3 : p1 < p3 := by rw [← f3]; exact b1.lt
  replace b1 := b1.on ka3
  have q2_3 : p2 < p3 := by rw [← f3]; exact b2.lt
  replace b2 := b2.on ka3
  have kk0 := kk
  replace kk := kk.trans (ka3.mono kk.size)
  have hp3 : w.heap.size ≤ p3 := by rw [← f3]; exact kk0.size
  clear ka3 kk0
  obtain ⟨W4, es4⟩ : ∃ W, W3.setRow p3 (Pg.mk 0 2 0 ⟨some ⟨p2, 0, none⟩, 1, 1⟩).cs.toArray = W := ⟨_, rfl⟩
  have bo3 := b3
  replace b1 := row_far b1 es4 (by omega)
  replace b2 := row_far b2 es4 (by omega)
  replace b3 : Blk W4 p3 39 (Pg.mk 0 2 0 ⟨some ⟨p2, 0, none⟩, 1, 1⟩).cs.toArray := row_named b3 es4
  replace kk := kk.trans (row_below es4 hp3 kk.size)
  obtain ⟨p4, f4⟩ : ∃ p, W4.heap.size = p := ⟨_, rfl⟩
  obtain ⟨W5, ea5⟩ : ∃ W, W4.alloc (.cells #[.int .i64 0, .int .i64 0, .int .i64 0, .int .i64 0, .int .i64 0, .int .i64 0, .int .i64 0, .int .i64 0, .int .i64 0, .int .i64 0, .int .i64 0, .int .i64 0, .int .i64 0, .int .i64 0, .int .i64 0, .int .i64 0, .int .i64 0, .int .i64 0, .slice none 0 0, .slice none 0 0, .slice none 0 0, .int .i64 0] 46) = W := ⟨_, rfl⟩
  have ka5 : Below W4.heap.size W4 W5 := by rw [← ea5]; exact (Below.refl _ W4).alloc (Nat.le_refl _) _
  have b4 : Blk W5 p4 46 #[.int .i64 0, .int .i64 0, .int .i64 0, .int .i64 0, .int .i64 0, .int .i64 0, .int .i64 0, .int .i64 0, .int .i64 0, .int .i64 0, .int .i64 0, .int .i64 0, .int .i64 0, .int .i64 0, .int .i64 0, .int .i64 0, .int .i64 0, .int .i64 0, .slice none 0 0, .slice none 0 0, .slice none 0 0, .int .i64 0] := by rw [← ea5]; exact blk_new W4 _ 46 _ f4
  have q1_4 : p1 < p4 := by rw [← f4]; exact b1.lt
  replace b1 := b1.on ka5
  have q2_4 : p2 < p4 := by rw [← f4]; exact b2.lt
  replace b2 := b2.on ka5
  have q3_4 : p3 < p4 := by rw [← f4]; exact b3.lt
  replace b3 := b3.on ka5
  have kk0 := kk
  replace kk := kk.trans (ka5.mono kk.size)
  have hp4 : w.heap.size ≤ p4 := by rw [← f4]; exact kk0.size
  clear ka5 kk0
  obtain ⟨W6, es6⟩ : ∃ W, W5.setRow p4 ({ noT with fu := 1 } : Th).cs.toArray = W := ⟨_, rfl⟩
  have bo4 := b4
  replace b1 := row_far b1 es6 (by omega)
  replace b2 := row_far b2 es6 (by omega)
  replace b3 := row_far b3 es6 (by omega)
  replace b4 : Blk W6 p4 46 ({ noT with fu := 1 } : Th).cs.toArray := row_named b4 es6
  replace kk := kk.trans (row_below es6 hp4 kk.size)
  obtain ⟨W7, es7⟩ : ∃ W, W6.setCells p4 6 (Wd.mk 2 2 1).cs.toArray.toList = W := ⟨_, rfl⟩
  have bm4 := b4
  replace b1 := mid_far b1 es7 (by omega)
  replace b2 := mid_far b2 es7 (by omega)
  replace b3 := mid_far b3 es7 (by omega)
  replace b4 : Blk W7 p4 46 thA.cs.toArray := mid_named b4 es7 rfl
  replace kk := kk.trans (mid_below es7 hp4 kk.size)
  go_enter Tryd.func4, Tryd.ntmps4
  go_wp2_with (first | ((with_reducible refine at_store 39 (.tmp 1) (.tmp 8) ?_); refine wpList_store_row rfl 39 (.tmp 1) (.tmp 8) rfl p3 (Pg.mk 0 2 0 ⟨some ⟨p2, 0, none⟩, 1, 1⟩).cs.toArray rfl rfl 39 #[.int .i64 0, .int .i64 0, .int .i64 0, .slice none 0 0] bo3 size39 rfl (Pg.onea _) ?_; rw [es4]) | ((with_reducible refine at_store 46 (.tmp 2) (.tmp 9) ?_); refine wpList_store_row rfl 46 (.tmp 2) (.tmp 9) rfl p4 ({ noT with fu := 1 } : Th).cs.toArray rfl rfl 46 #[.int .i64 0, .int .i64 0, .int .i64 0, .int .i64 0, .int .i64 0, .int .i64 0, .int .i64 0, .int .i64 0, .int .i64 0, .int .i64 0, .int .i64 0, .int .i64 0, .int .i64 0, .int .i64 0, .int .i64 0, .int .i64 0, .int .i64 0, .int .i64 0, .slice none 0 0, .slice none 0 0, .slice none 0 0, .int .i64 0] bo4 (sizeT _) rfl (Th.onea _) ?_; rw [es6]) | ((with_reducible refine at_store 25 (.tmp 12) (.tmp 10) ?_); refine wpList_store_mid rfl 25 (.tmp 12) (.tmp 10) rfl p4 6 (Wd.mk 2 2 1).cs.toArray rfl rfl (there_blk bm4 6 _ (Nat.le_of_ble_eq_true rfl)) size25 (Wd.onea _) ?_; rw [es7]) | ((with_reducible refine at_load 39 (.tmp 1) ?_); refine wpList_load_row rfl 39 (.tmp 1) rfl p3 rfl 39 (Pg.mk 0 2 0 ⟨some ⟨p2, 0, none⟩, 1, 1⟩).cs.toArray (0, 0) _ b3 Tryd.underlying39 rfl size39 ?_) | ((with_reducible refine at_load 46 (.tmp 2) ?_); refine wpList_load_row rfl 46 (.tmp 2) rfl p4 rfl 46 thA.cs.toArray (0, 0) _ b4 Tryd.underlying46 rfl (sizeT _) ?_))
  have d1 : Calls Tryd.prog 8 #[.agg (Pg.mk 0 2 0 ⟨some ⟨p2, 0, none⟩, 1, 1⟩).cs.toArray, .int .i64 0, .agg thA.cs.toArray, .int .i64 0] W7 fun e w' => e = .returned (.agg actA.cs.toArray) ∧ Below W7.heap.size W7 w' := by
    have := actof_any (p := ⟨0, 2, 0, ⟨some ⟨p2, 0, none⟩, 1, 1⟩⟩) (mat_one b1 b2) (fun g hg => hg) (hL.on kk) 0 thA 0
    rw [alive_of] at this
    exact this
  refine (d1).mono ?_
  rintro e W8 ⟨rfl, k1⟩
  replace b1 := b1.on k1
  replace b2 := b2.on k1
  replace b3 := b3.on k1
  replace b4 := b4.on k1
  replace kk := kk.trans (k1.mono kk.size)
  clear k1
  clear d1
  obtain ⟨p5, f5⟩ : ∃ p, W8.heap.size = p := ⟨_, rfl⟩
  obtain ⟨W9, ea9⟩ : ∃ W, W8.alloc (.cells #[.int .i64 0, .int .i64 0, .int .i64 0, .int .i64 0, .int .i64 0, .int .i64 0, .int .i64 0, .int .i64 0, .int .i64 0, .int .i64 0, .int .i64 0, .int .i64 0, .int .i64 0, .int .i64 0] 27) = W := ⟨_, rfl⟩
  have ka9 : Below W8.heap.size W8 W9 := by rw [← ea9]; exact (Below.refl _ W8).alloc (Nat.le_refl _) _
  have b5 : Blk W9 p5 27 #[.int .i64 0, .int .i64 0, .int .i64 0, .int .i64 0, .int .i64 0, .int .i64 0, .int .i64 0, .int .i64 0, .int .i64 0, .int .i64 0, .int .i64 0, .int .i64 0, .int .i64 0, .int .i64 0] := by rw [← ea9]; exact blk_new W8 _ 27 _ f5
  have q1_5 : p1 < p5 := by rw [← f5]; exact b1.lt
  replace b1 := b1.on ka9
  have q2_5 : p2 < p5 := by rw [← f5]; exact b2.lt
  replace b2 := b2.on ka9
  have q3_5 : p3 < p5 := by rw [← f5]; exact b3.lt
  replace b3 := b3.on ka9
  have q4_5 : p4 < p5 := by rw [← f5]; exact b4.lt
  replace b4 := b4.on ka9
  have kk0 := kk
  replace kk := kk.trans (ka9.mono kk.size)
  have hp5 : w.heap.size ≤ p5 := by rw [← f5]; exact kk0.size
  clear ka9 kk0
  obtain ⟨W10, es10⟩ : ∃ W, W9.setRow p5 actA.cs.toArray = W := ⟨_, rfl⟩
  have bo5 := b5
  replace b1 := row_far b1 es10 (by omega)
  replace b2 := row_far b2 es10 (by omega)
  replace b3 := row_far b3 es10 (by omega)
  replace b4 := row_far b4 es10 (by omega)
  replace b5 : Blk W10 p5 27 actA.cs.toArray := row_named b5 es10
  replace kk := kk.trans (row_below es10 hp5 kk.size)
  go_wp2_with (first | ((with_reducible refine at_store 27 (.tmp 3) (.tmp 15) ?_); refine wpList_store_row rfl 27 (.tmp 3) (.tmp 15) rfl p5 actA.cs.toArray rfl rfl 27 #[.int .i64 0, .int .i64 0, .int .i64 0, .int .i64 0, .int .i64 0, .int .i64 0, .int .i64 0, .int .i64 0, .int .i64 0, .int .i64 0, .int .i64 0, .int .i64 0, .int .i64 0, .int .i64 0] bo5 size27 rfl (Ac.onea _) ?_; rw [es10]) | ((with_reducible refine at_load 27 (.tmp 3) ?_); refine wpList_load_row rfl 27 (.tmp 3) rfl p5 rfl 27 actA.cs.toArray (0, 0) _ b5 Tryd.underlying27 rfl size27 ?_))
  refine (foot_read 0 actA rfl (by decide) (by decide) _ rfl _).mono ?_
  rintro e W11 ⟨F, rfl, l1, l2, k1⟩
  replace b1 := b1.on k1
  replace b2 := b2.on k1
  replace b3 := b3.on k1
  replace b4 := b4.on k1
  replace b5 := b5.on k1
  replace kk := kk.trans (k1.mono kk.size)
  clear k1
  obtain ⟨⟨A1, n1, c1⟩, ⟨A2, n2, c2⟩⟩ := F
  have l3 : n1 = 2 := l1.symm.trans two_len
  have l4 : n2 = 0 := l2
  clear l1 l2
  subst l3 l4
  obtain ⟨p6, f6⟩ : ∃ p, W11.heap.size = p := ⟨_, rfl⟩
  obtain ⟨W12, ea12⟩ : ∃ W, W11.alloc (.cells #[.slice none 0 0, .slice none 0 0] 50) = W := ⟨_, rfl⟩
  have ka12 : Below W11.heap.size W11 W12 := by rw [← ea12]; exact (Below.refl _ W11).alloc (Nat.le_refl _) _
  have b6 : Blk W12 p6 50 #[.slice none 0 0, .slice none 0 0] := by rw [← ea12]; exact blk_new W11 _ 50 _ f6
  have q1_6 : p1 < p6 := by rw [← f6]; exact b1.lt
  replace b1 := b1.on ka12
  have q2_6 : p2 < p6 := by rw [← f6]; exact b2.lt
  replace b2 := b2.on ka12
  have q3_6 : p3 < p6 := by rw [← f6]; exact b3.lt
  replace b3 := b3.on ka12
  have q4_6 : p4 < p6 := by rw [← f6]; exact b4.lt
  replace b4 := b4.on ka12
  have q5_6 : p5 < p6 := by rw [← f6]; exact b5.lt
  replace b5 := b5.on ka12
  have kk0 := kk
  replace kk := kk.trans (ka12.mono kk.size)
  have hp6 : w.heap.size ≤ p6 := by rw [← f6]; exact kk0.size
  clear ka12 kk0
  obtain ⟨W13, es13⟩ : ∃ W, W12.setRow p6 (Ft.mk ⟨A1, 2, c1⟩ ⟨A2, 0, c2⟩).cs.toArray = W := ⟨_, rfl⟩
  have bo6 := b6
  replace b1 := row_far b1 es13 (by omega)
  replace b2 := row_far b2 es13 (by omega)
  replace b3 := row_far b3 es13 (by omega)
  replace b4 := row_far b4 es13 (by omega)
  replace b5 := row_far b5 es13 (by omega)
  replace b6 : Blk W13 p6 50 (Ft.mk ⟨A1, 2, c1⟩ ⟨A2, 0, c2⟩).cs.toArray := row_named b6 es13
  replace kk := kk.trans (row_below es13 hp6 kk.size)
  have c13_5_0 : W13.cell? ⟨p5, 0, none⟩ = some (.int .i64 2) := b5.cell 0
  have c13_6_0 : W13.cell? ⟨p6, 0, none⟩ = some (.slice A1 2 c1) := b6.cell 0
  have c13_6_1 : W13.cell? ⟨p6, 1, none⟩ = some (.slice A2 0 c2) := b6.cell 1
  have e38 : ∀ W, (binOp BinOp.eql 23 (.agg #[.int .i64 3, .int .i64 2, .int .i64 1]) (.agg #[.int .i64 3, .int .i64 2, .int .i64 1])).run Tryd.prog W = .ok (.bool true) W := fun W => by have := eq32 ⟨3, 2, 1⟩ ⟨3, 2, 1⟩ W; simpa [Pl.cs] using this
  have dR : ∀ W, Calls Tryd.prog 6 #[.agg #[.int .i64 3, .int .i64 0, .int .i64 0, .int .i64 0, .int .i64 0, .int .i64 0, .int .i64 0, .int .i64 0, .int .i64 0, .int .i64 0, .int .i64 0, .int .i64 0, .int .i64 0, .int .i64 0]] W fun e w' => e = .returned (.bool true) ∧ Below W.heap.size W w' := fun W => room_any ⟨3, noP, noW, noW, noW, 0⟩ W
  have dD : ∀ W, Calls Tryd.prog 7 #[.agg #[.int .i64 5, .int .i64 0, .int .i64 0, .int .i64 0, .int .i64 0, .int .i64 0, .int .i64 0, .int .i64 0, .int .i64 0, .int .i64 0, .int .i64 0, .int .i64 0, .int .i64 0, .int .i64 0]] W fun e w' => e = .returned (.bool true) ∧ Below W.heap.size W w' := fun W => drained_any ⟨5, noP, noW, noW, noW, 0⟩ W
  go_wp2_with (first | ((with_reducible refine at_store 50 (.tmp 4) (.tmp 17) ?_); refine wpList_store_row rfl 50 (.tmp 4) (.tmp 17) rfl p6 (Ft.mk ⟨A1, 2, c1⟩ ⟨A2, 0, c2⟩).cs.toArray rfl rfl 50 #[.slice none 0 0, .slice none 0 0] bo6 size50 rfl (Ft.onea _) ?_; rw [es13]) | ((with_reducible refine at_load 23 (.tmp 22) ?_); refine wpList_mid (by rfl) 23 (.tmp 22) rfl p5 (1) rfl [.int .i64 3, .int .i64 2, .int .i64 1] _ (range_part b5 1 [.int .i64 3, .int .i64 2, .int .i64 1] rfl) Tryd.underlying23 rfl size23 ?_))
  refine (dR _).mono ?_
  rintro e W14 ⟨rfl, k1⟩
  clear c13_5_0 c13_6_0 c13_6_1
  replace b1 := b1.on k1
  replace b2 := b2.on k1
  replace b3 := b3.on k1
  replace b4 := b4.on k1
  replace b5 := b5.on k1
  replace b6 := b6.on k1
  replace kk := kk.trans (k1.mono kk.size)
  clear k1
  go_wp2_with fail
  refine (dD _).mono ?_
  rintro e W15 ⟨rfl, k1⟩
  replace b1 := b1.on k1
  replace b2 := b2.on k1
  replace b3 := b3.on k1
  replace b4 := b4.on k1
  replace b5 := b5.on k1
  replace b6 := b6.on k1
  replace kk := kk.trans (k1.mono kk.size)
  clear k1
  go_wp2_with fail
  go_ret
  first | exact ⟨rfl, kk⟩ | (rw [f1] at kk; exact ⟨rfl, kk⟩)
end Go.Proofs.YtfadfdfpocpelaaDoor
