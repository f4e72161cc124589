/- Any register of any thread is got, and set, as told; what is answered is its own memory. Conditions: none. -/
import Derived.Test.YtcajoekmigkhjaaAlive
import Derived.Test.YtcajoekmigkhjaaSame
import Derived.Deep.DeepCutAuto
namespace Go.Proofs.Ytcajoekmigkhjaa
open Go.RowKit Go.ChangeShapes Go.WideShapes Go.Great

/-- A slice's elements are there, in a block of one type, from its head. -/
def Room (w : World) (A : Option Addr) (n k : Nat) (t : TypeId) : Prop := ∀ j, j < n → ∃ g cur, A = some ⟨g, 0, none⟩ ∧ Blk w g t cur ∧ j * k + k ≤ cur.size
theorem own_room {w : World} {B k n cap : Nat} {t : TypeId} {A : Option Addr} {vs : List Value} (h : w.ownsRow B t k (.slice A n cap) n vs) : Room w A n k t := fun j hj => by
  rcases h.2 with ⟨_, h0⟩ | ⟨g, c, cur, e, hb, hh, h1, h2, h3, h4⟩
  · omega
  · injection e with e1 e2 e3
    refine ⟨g, cur, e1, hh, ?_⟩
    rw [h3]
    calc j * k + k = (j + 1) * k := by rw [Nat.add_mul]; omega
      _ ≤ c * k := Nat.mul_le_mul_right _ (by omega)
theorem Room.mid {w : World} {n k g o : Nat} {t : TypeId} (h : Room w (some ⟨g, 0, none⟩) n k t) (vs : List Value) : Room (w.setCells g o vs) (some ⟨g, 0, none⟩) n k t := fun j hj => by
  obtain ⟨g', cur, e, hb, hs⟩ := h j hj
  have e2 : g = g' := by simpa using e
  subst e2
  exact ⟨g, _, rfl, heap_cells vs o w cur hb, by rw [splice_size]; exact hs⟩
theorem Room.set {w : World} {n k g o : Nat} {t : TypeId} {v : Value} (h : Room w (some ⟨g, 0, none⟩) n k t) : Room (w.setCell ⟨g, o, none⟩ v) (some ⟨g, 0, none⟩) n k t := fun j hj => by
  obtain ⟨g', cur, e, hb, hs⟩ := h j hj
  have e2 : g = g' := by simpa using e
  subst e2
  exact ⟨g, _, rfl, blk_set hb o v, by simpa using hs⟩
theorem Room.kept {w w' : World} {S : Nat → Prop} {A : Option Addr} {n k : Nat} {t : TypeId} (h : Room w A n k t) (hk : Kept S w w') (hS : ∀ g, lies A g → ¬ S g) : Room w' A n k t := fun j hj => by
  obtain ⟨g, cur, e, hb, hs⟩ := h j hj
  exact ⟨g, cur, e, hb.kept hk (hS g (by rw [e]; rfl)), hs⟩
theorem Reads.kept {w w' : World} {S : Nat → Prop} {x : Th} {z s : List Int} {l : List Bg} (h : Reads w x z l s) (hk : Kept S w w') (h1 : ∀ g, holds x.se.A x.se.n g → ¬ S g) (h2 : ∀ g, holds x.bg.A x.bg.n g → ¬ S g) (h3 : ∀ g, holds x.sn.A x.sn.n g → ¬ S g) : Reads w' x z l s :=
  ⟨Sees.kept h.se hk h1, Sees.kept h.bg hk h2, Sees.kept h.sn hk h3⟩
theorem own_at' {w : World} {B k n cap g : Nat} {t : TypeId} {A : Option Addr} {vs : List Value} (h : w.ownsRow B t k (.slice A n cap) n vs) (hg : lies A g) : B ≤ g ∧ g < w.heap.size := h.lt g ((own_lies A n cap g).2 hg)
theorem neq25 (u : Wd) (w : World) : (binOp BinOp.neq 25 (.agg u.cs.toArray) (.agg u.cs.toArray)).run Try.prog w = .ok (.bool false) w := by
  unfold Wd.cs
  go_simp
theorem same_put {w : World} {B B' : Nat} {y : Th} {A1 A2 A3 D1 D2 D3 : Option Addr} {n1 n2 n3 c1 c2 c3 e1 e2 e3 : Nat} {z s : List Int} {l : List Bg} (h : Own B w (y.put ⟨A1, n1, c1⟩ ⟨A2, n2, c2⟩ ⟨A3, n3, c3⟩) z l s) (h' : Own B' w (y.put ⟨D1, n1, e1⟩ ⟨D2, n2, e2⟩ ⟨D3, n3, e3⟩) z l s) :
    Calls Try.prog 11 #[.agg (y.put ⟨A1, n1, c1⟩ ⟨A2, n2, c2⟩ ⟨A3, n3, c3⟩).cs.toArray, .agg (y.put ⟨D1, n1, e1⟩ ⟨D2, n2, e2⟩ ⟨D3, n3, e3⟩).cs.toArray] w fun e w' => e = .returned (.bool true) ∧ Below w.heap.size w w' :=
  thread_same (x := y.put ⟨A1, n1, c1⟩ ⟨A2, n2, c2⟩ ⟨A3, n3, c3⟩) (A1 := D1) (c1 := e1) (A2 := D2) (c2 := e2) (A3 := D3) (c3 := e3) h.reads h'.reads
set_option maxRecDepth 100000 in
set_option maxHeartbeats 4000000 in
theorem regs_any {w : World} {x : Th} {z s : List Int} {l : List Bg} (r : Int) (v : Wd) (t : Int) (h : Reads w x z l s) : Calls Try.prog 5 #[.agg x.cs.toArray, .int .i64 r, .agg v.cs.toArray, .int .i64 t] w fun e w' => e = .returned (.bool true) ∧ Below w.heap.size w w' := by
  obtain ⟨p1, f1⟩ : ∃ p, w.heap.size = p := ⟨_, rfl⟩
  obtain ⟨W1, ea1⟩ : ∃ W, w.alloc (.cells x.cs.toArray 32) = W := ⟨_, rfl⟩
  have ka1 : Below w.heap.size w W1 := by rw [← ea1]; exact (Below.refl _ w).alloc (Nat.le_refl _) _
  have b1 : Blk W1 p1 32 x.cs.toArray := by rw [← ea1]; exact blk_new w _ 32 _ f1
  have kk : Below w.heap.size w W1 := ka1
  have hp1 : w.heap.size ≤ p1 := Nat.le_of_eq f1
  clear ka1
  obtain ⟨p2, f2⟩ : ∃ p, W1.heap.size = p := ⟨_, rfl⟩
  obtain ⟨W2, ea2⟩ : ∃ W, W1.alloc (.cells v.cs.toArray 25) = W := ⟨_, rfl⟩
  have ka2 : Below W1.heap.size W1 W2 := by rw [← ea2]; exact (Below.refl _ W1).alloc (Nat.le_refl _) _
  have b2 : Blk W2 p2 25 v.cs.toArray := by rw [← ea2]; exact blk_new W1 _ 25 _ f2
  have q1_2 : p1 < p2 := by rw [← f2]; exact b1.lt
  replace b1 := b1.on ka2
  have kk0 := kk
  replace kk := kk.trans (ka2.mono kk.size)
  have hp2 : w.heap.size ≤ p2 := by rw [← f2]; exact kk0.size
  clear ka2 kk0
  have hR0 := fewT_reads h
  have u1 : (fewT x).se.n ≤ 1000 := Nat.le_trans (Sl.cut_n _ 12) (by omega)
  have u2 : (fewT x).bg.n ≤ 1000 := Nat.le_trans (Sl.cut_n _ 12) (by omega)
  have u3 : (fewT x).sn.n ≤ 1000 := Nat.le_trans (Sl.cut_n _ 8) (by omega)
  go_enter Try.func5, Try.ntmps5
  go_wp2_with fail
  clear f1
  refine (alive_any _).mono ?_
  rintro e W3 ⟨rfl, k1⟩
  replace b1 := b1.on k1
  replace b2 := b2.on k1
  replace kk := kk.trans (k1.mono kk.size)
  clear k1
  have d1 := fewt_any (h.on kk)
  go_wp2_with (((with_reducible refine at_load 32 (.tmp 4) ?_); refine wpList_load_row rfl 32 (.tmp 4) rfl p1 rfl 32 x.cs.toArray (0, 0) _ b1 Try.underlying32 rfl (sizeT _) ?_))
  refine (d1).mono ?_
  rintro e W4 ⟨rfl, k1⟩
  replace b1 := b1.on k1
  replace b2 := b2.on k1
  replace kk := kk.trans (k1.mono kk.size)
  clear k1
  clear d1
  obtain ⟨W5, es5⟩ : ∃ W, W4.setRow p1 (fewT x).cs.toArray = W := ⟨_, rfl⟩
  have bo1 := b1
  replace b2 := row_far b2 es5 (by omega)
  replace b1 : Blk W5 p1 32 (fewT x).cs.toArray := row_named b1 es5
  replace kk := kk.trans (row_below es5 hp1 kk.size)
  have bo1_ := bo1
  have d1 := set_any r v (hR0.on kk) u1 u2 u3
  go_wp2_with (first | ((with_reducible refine at_store 32 (.tmp 4) (.tmp 15) ?_); refine wpList_store_row rfl 32 (.tmp 4) (.tmp 15) rfl p1 (fewT x).cs.toArray rfl rfl 32 x.cs.toArray bo1_ (sizeT _) rfl (Th.onea _) ?_; rw [es5]) | ((with_reducible refine at_load 32 (.tmp 4) ?_); refine wpList_load_row rfl 32 (.tmp 4) rfl p1 rfl 32 (fewT x).cs.toArray (0, 0) _ b1 Try.underlying32 rfl (sizeT _) ?_) | ((with_reducible refine at_load 25 (.tmp 6) ?_); refine wpList_load_row rfl 25 (.tmp 6) rfl p2 rfl 25 v.cs.toArray (0, 0) _ b2 Try.underlying25 rfl size25 ?_))
  refine (d1).mono ?_
  rintro e W6 ⟨A1, ac1, A2, ac2, A3, ac3, rfl, ow, k2⟩
  replace ow := ow.mono kk.size
  replace b1 := b1.on k2
  replace b2 := b2.on k2
  replace kk := kk.trans (k2.mono kk.size)
  clear k2
  clear d1
  obtain ⟨p3, f3⟩ : ∃ p, W6.heap.size = p := ⟨_, rfl⟩
  obtain ⟨W7, ea7⟩ : ∃ W, W6.alloc (.cells #[.int .i64 0, .int .i64 0, .int .i64 0, .int .i64 0, .int .i64 0, .int .i64 0, .int .i64 0, .int .i64 0, .int .i64 0, .int .i64 0, .int .i64 0, .int .i64 0, .int .i64 0, .int .i64 0, .int .i64 0, .int .i64 0, .int .i64 0, .int .i64 0, .slice none 0 0, .slice none 0 0, .slice none 0 0, .int .i64 0] 32) = W := ⟨_, rfl⟩
  have ka7 : Below W6.heap.size W6 W7 := by rw [← ea7]; exact (Below.refl _ W6).alloc (Nat.le_refl _) _
  have b3 : Blk W7 p3 32 #[.int .i64 0, .int .i64 0, .int .i64 0, .int .i64 0, .int .i64 0, .int .i64 0, .int .i64 0, .int .i64 0, .int .i64 0, .int .i64 0, .int .i64 0, .int .i64 0, .int .i64 0, .int .i64 0, .int .i64 0, .int .i64 0, .int .i64 0, .int .i64 0, .slice none 0 0, .slice none 0 0, .slice none 0 0, .int .i64 0] := by rw [← ea7]; exact blk_new W6 _ 32 _ f3
  have q1_3 : p1 < p3 := by rw [← f3]; exact b1.lt
  replace b1 := b1.on ka7
  have q2_3 : p2 < p3 := by rw [← f3]; exact b2.lt
  replace b2 := b2.on ka7
  have kk0 := kk
  replace kk := kk.trans (ka7.mono kk.size)
  have hp3 : w.heap.size ≤ p3 := by rw [← f3]; exact kk0.size
  replace ow := ow.on ka7
  clear ka7 kk0
  obtain ⟨W8, es8⟩ : ∃ W, W7.setRow p3 ((setI (fewT x) r v).put ⟨A1, (fewT x).se.n, ac1⟩ ⟨A2, (fewT x).bg.n, ac2⟩ ⟨A3, (fewT x).sn.n, ac3⟩).cs.toArray = W := ⟨_, rfl⟩
  have bo3 := b3
  replace b1 := row_far b1 es8 (by omega)
  replace b2 := row_far b2 es8 (by omega)
  replace b3 : Blk W8 p3 32 ((setI (fewT x) r v).put ⟨A1, (fewT x).se.n, ac1⟩ ⟨A2, (fewT x).bg.n, ac2⟩ ⟨A3, (fewT x).sn.n, ac3⟩).cs.toArray := row_named b3 es8
  replace kk := kk.trans (row_below es8 hp3 kk.size)
  replace ow := ow.off bo3 (by decide) (by decide) es8 rfl rfl rfl
  have bo3_ := bo3
  go_wp2_with (((with_reducible refine at_store 32 (.tmp 9) (.tmp 19) ?_); refine wpList_store_row rfl 32 (.tmp 9) (.tmp 19) rfl p3 ((setI (fewT x) r v).put ⟨A1, (fewT x).se.n, ac1⟩ ⟨A2, (fewT x).bg.n, ac2⟩ ⟨A3, (fewT x).sn.n, ac3⟩).cs.toArray rfl rfl 32 #[.int .i64 0, .int .i64 0, .int .i64 0, .int .i64 0, .int .i64 0, .int .i64 0, .int .i64 0, .int .i64 0, .int .i64 0, .int .i64 0, .int .i64 0, .int .i64 0, .int .i64 0, .int .i64 0, .int .i64 0, .int .i64 0, .int .i64 0, .int .i64 0, .slice none 0 0, .slice none 0 0, .slice none 0 0, .int .i64 0] bo3_ (sizeT _) rfl (Th.onea _) ?_; rw [es8]))
  simp only [Act.put]
  go_cut [44] (fun s44 wx => s44 = .bool false ∧ Below w.heap.size w wx ∧ Blk wx p1 32 (fewT x).cs.toArray ∧ Blk wx p3 32 ((setI (fewT x) r v).put ⟨A1, (fewT x).se.n, ac1⟩ ⟨A2, (fewT x).bg.n, ac2⟩ ⟨A3, (fewT x).sn.n, ac3⟩).cs.toArray ∧ Own w.heap.size wx ((setI (fewT x) r v).put ⟨A1, (fewT x).se.n, ac1⟩ ⟨A2, (fewT x).bg.n, ac2⟩ ⟨A3, (fewT x).sn.n, ac3⟩) (z.take 12) (l.take 12) (s.take 8))
  case first =>
    have hq1 := neq25 (regI (fewT x) t)
    have hq2 := neq25 (regI ((setI (fewT x) r v).put ⟨A1, (fewT x).se.n, ac1⟩ ⟨A2, (fewT x).bg.n, ac2⟩ ⟨A3, (fewT x).sn.n, ac3⟩) t)
    obtain ⟨wd, ed⟩ : ∃ W, W8.drew = W := ⟨_, rfl⟩
    have hd : Below W8.heap.size W8 wd := by rw [← ed]; exact (Below.refl _ _).drew
    replace b1 := b1.on hd
    replace b2 := b2.on hd
    replace b3 := b3.on hd
    replace ow := ow.on hd
    replace kk := kk.trans (hd.mono kk.size)
    clear hd
    have kS : Kept (fun g => False) wd wd := Kept.refl _ _
    refine wp_region_noPanic ?_
    refine wp_region_held_drew (S := (fun W => Kept (fun g => False) wd W)) (by kernel_rfl) (by rw [ed]; exact kS) (fun hHeld => ?_)
    rw [ed] at hHeld ⊢
    refine wpAnyH_take (i := 0) (oi := ⟨some 20, _, _, _, _, _⟩) (v := .agg (List.toArray (((setI (fewT x) r v).put ⟨A1, (fewT x).se.n, ac1⟩ ⟨A2, (fewT x).bg.n, ac2⟩ ⟨A3, (fewT x).sn.n, ac3⟩).cs))) rfl (by kernel_rfl) (by kernel_rfl) (by kernel_rfl) (fun _ _ _ h => h) (yieldsIf_load_mid (by rfl) 32 (.tmp 9) rfl p3 (0) rfl (((setI (fewT x) r v).put ⟨A1, (fewT x).se.n, ac1⟩ ⟨A2, (fewT x).bg.n, ac2⟩ ⟨A3, (fewT x).sn.n, ac3⟩).cs) _ (fun W hW => range_part (b3.kept hW id) 0 ((setI (fewT x) r v).put ⟨A1, (fewT x).se.n, ac1⟩ ⟨A2, (fewT x).bg.n, ac2⟩ ⟨A3, (fewT x).sn.n, ac3⟩).cs rfl) Try.underlying32 rfl (sizeT _)) (by assumption) ?_
    try simp only [Act.put, List.setIfInBounds_toArray, List.set_cons_zero, List.set_cons_succ]
    refine wpAnyH_take (i := 1) (oi := ⟨some 21, _, _, _, _, _⟩) (v := .agg (List.toArray ((fewT x).cs))) rfl (by kernel_rfl) (by kernel_rfl) (by kernel_rfl) (fun _ _ _ h => h) (yieldsIf_load_mid (by rfl) 32 (.tmp 4) rfl p1 (0) rfl ((fewT x).cs) _ (fun W hW => range_part (b1.kept hW id) 0 (fewT x).cs rfl) Try.underlying32 rfl (sizeT _)) (by assumption) ?_
    try simp only [Act.put, List.setIfInBounds_toArray, List.set_cons_zero, List.set_cons_succ]
    refine wpAnyH_take (i := 2) (oi := ⟨some 22, _, _, _, _, _⟩) (v := ?_) rfl (by kernel_rfl) (by kernel_rfl) (by kernel_rfl) (fun _ _ _ h => h) (Or.inl ⟨by rfl, ?_⟩) (by assumption) ?_
    rotate_left 1
    · (intro W hSw; go_simp <;> with_reducible rfl)
    try simp only [Act.put, List.setIfInBounds_toArray, List.set_cons_zero, List.set_cons_succ]
    refine wpAnyH_take (i := 3) (oi := ⟨some 23, _, _, _, _, _⟩) (v := .agg (List.toArray (v.cs))) rfl (by kernel_rfl) (by kernel_rfl) (by kernel_rfl) (fun _ _ _ h => h) (yieldsIf_load_mid (by rfl) 25 (.tmp 6) rfl p2 (0) rfl (v.cs) _ (fun W hW => range_part (b2.kept hW id) 0 v.cs rfl) Try.underlying25 rfl size25) (by assumption) ?_
    try simp only [Act.put, List.setIfInBounds_toArray, List.set_cons_zero, List.set_cons_succ]
    refine wpAnyH_ready (rs := [4]) (by kernel_rfl) (by simp) ?_
    refine AllReadyH.cons (o := ⟨some 24, _, _, _, _, _⟩) rfl (fun K hK => ?_) AllReadyH.nil
    go_simp
    refine (rset_any r v (hR0.on kk) u1 u2 u3).mono ?_
    rintro e w1 ⟨D1, dc1, D2, dc2, D3, dc3, rfl, gw1, hb1⟩
    have b1_1 := b1.on hb1
    have b2_1 := b2.on hb1
    have b3_1 := b3.on hb1
    have ow_1 := ow.on hb1
    have kk_1 := kk.trans (hb1.mono kk.size)
    have S1 : (fun W => Kept (fun g => False) wd W) w1 := Kept.next kS (kept_below (fun _ => False) hb1) (fun _ h => h.elim)
    refine hK.out _ _ S1 (fun h1 => ?_)
    clear hHeld hK K
    try simp only [Act.put, List.setIfInBounds_toArray, List.set_cons_zero, List.set_cons_succ]
    refine wpAnyH_ready (rs := [5]) (by kernel_rfl) (by simp) ?_
    refine AllReadyH.cons (o := ⟨some 25, _, _, _, _, _⟩) rfl (fun K hK => ?_) AllReadyH.nil
    go_simp
    refine (same_put ow_1 gw1).mono ?_
    rintro e w2 ⟨rfl, hb2⟩
    have b1_2 := b1_1.on hb2
    have b2_2 := b2_1.on hb2
    have b3_2 := b3_1.on hb2
    have ow_2 := ow_1.on hb2
    have kk_2 := kk_1.trans (hb2.mono kk_1.size)
    have gw_2 := gw1.on hb2
    have S2 : (fun W => Kept (fun g => False) wd W) w2 := Kept.next S1 (kept_below (fun _ => False) hb2) (fun _ h => h.elim)
    refine hK.out _ _ S2 (fun h2 => ?_)
    clear h1 hK K
    try simp only [Act.put, List.setIfInBounds_toArray, List.set_cons_zero, List.set_cons_succ]
    refine wpAnyH_take (i := 6) (oi := ⟨some 26, _, _, _, _, _⟩) (v := ?_) rfl (by kernel_rfl) (by kernel_rfl) (by kernel_rfl) (fun _ _ _ h => h) (Or.inl ⟨by rfl, ?_⟩) (by assumption) ?_
    rotate_left 1
    · (intro W hSw; go_simp <;> with_reducible rfl)
    try simp only [Act.put, List.setIfInBounds_toArray, List.set_cons_zero, List.set_cons_succ]
    refine wpAnyH_take (i := 7) (oi := ⟨some 27, _, _, _, _, _⟩) (v := ?_) rfl (by kernel_rfl) (by kernel_rfl) (by kernel_rfl) (fun _ _ _ h => h) (Or.inl ⟨by rfl, ?_⟩) (by assumption) ?_
    rotate_left 1
    · (intro W hSw; go_simp <;> with_reducible rfl)
    try simp only [Act.put, List.setIfInBounds_toArray, List.set_cons_zero, List.set_cons_succ]
    refine wpAnyH_take (i := 8) (oi := ⟨some 28, _, _, _, _, _⟩) (v := .agg (List.toArray ((fewT x).cs))) rfl (by kernel_rfl) (by kernel_rfl) (by kernel_rfl) (fun _ _ _ h => h) (yieldsIf_load_mid (by rfl) 32 (.tmp 4) rfl p1 (0) rfl ((fewT x).cs) _ (fun W hW => range_part (b1.kept hW id) 0 (fewT x).cs rfl) Try.underlying32 rfl (sizeT _)) (by assumption) ?_
    try simp only [Act.put, List.setIfInBounds_toArray, List.set_cons_zero, List.set_cons_succ]
    refine wpAnyH_take (i := 9) (oi := ⟨some 29, _, _, _, _, _⟩) (v := ?_) rfl (by kernel_rfl) (by kernel_rfl) (by kernel_rfl) (fun _ _ _ h => h) (Or.inl ⟨by rfl, ?_⟩) (by assumption) ?_
    rotate_left 1
    · (intro W hSw; go_simp <;> with_reducible rfl)
    try simp only [Act.put, List.setIfInBounds_toArray, List.set_cons_zero, List.set_cons_succ]
    refine wpAnyH_take (i := 11) (oi := ⟨some 31, _, _, _, _, _⟩) (v := .agg (List.toArray ((fewT x).cs))) rfl (by kernel_rfl) (by kernel_rfl) (by kernel_rfl) (fun _ _ _ h => h) (yieldsIf_load_mid (by rfl) 32 (.tmp 4) rfl p1 (0) rfl ((fewT x).cs) _ (fun W hW => range_part (b1.kept hW id) 0 (fewT x).cs rfl) Try.underlying32 rfl (sizeT _)) (by assumption) ?_
    try simp only [Act.put, List.setIfInBounds_toArray, List.set_cons_zero, List.set_cons_succ]
    refine wpAnyH_take (i := 12) (oi := ⟨some 32, _, _, _, _, _⟩) (v := ?_) rfl (by kernel_rfl) (by kernel_rfl) (by kernel_rfl) (fun _ _ _ h => h) (Or.inl ⟨by rfl, ?_⟩) (by assumption) ?_
    rotate_left 1
    · (intro W hSw; go_simp <;> with_reducible rfl)
    try simp only [Act.put, List.setIfInBounds_toArray, List.set_cons_zero, List.set_cons_succ]
    refine wpAnyH_ready (rs := [10]) (by kernel_rfl) (by simp) ?_
    refine AllReadyH.cons (o := ⟨some 30, _, _, _, _, _⟩) rfl (fun K hK => ?_) AllReadyH.nil
    go_simp
    refine (get_any (fewT x) t w2).mono ?_
    rintro e w3 ⟨rfl, hb3⟩
    have b1_3 := b1_2.on hb3
    have b2_3 := b2_2.on hb3
    have b3_3 := b3_2.on hb3
    have ow_3 := ow_2.on hb3
    have kk_3 := kk_2.trans (hb3.mono kk_2.size)
    have gw_3 := gw_2.on hb3
    have S3 : (fun W => Kept (fun g => False) wd W) w3 := Kept.next S2 (kept_below (fun _ => False) hb3) (fun _ h => h.elim)
    refine hK.out _ _ S3 (fun h3 => ?_)
    clear h2 hK K
    try simp only [Act.put, List.setIfInBounds_toArray, List.set_cons_zero, List.set_cons_succ]
    refine wpAnyH_ready (rs := [13]) (by kernel_rfl) (by simp) ?_
    refine AllReadyH.cons (o := ⟨some 33, _, _, _, _, _⟩) rfl (fun K hK => ?_) AllReadyH.nil
    go_simp
    refine (rget_any (fewT x) t w3).mono ?_
    rintro e w4 ⟨rfl, hb4⟩
    have b1_4 := b1_3.on hb4
    have b2_4 := b2_3.on hb4
    have b3_4 := b3_3.on hb4
    have ow_4 := ow_3.on hb4
    have kk_4 := kk_3.trans (hb4.mono kk_3.size)
    have gw_4 := gw_3.on hb4
    have S4 : (fun W => Kept (fun g => False) wd W) w4 := Kept.next S3 (kept_below (fun _ => False) hb4) (fun _ h => h.elim)
    refine hK.out _ _ S4 (fun h4 => ?_)
    clear h3 hK K
    try simp only [Act.put, List.setIfInBounds_toArray, List.set_cons_zero, List.set_cons_succ]
    refine wpAnyH_take (i := 14) (oi := ⟨some 34, _, _, _, _, _⟩) (v := ?_) rfl (by kernel_rfl) (by kernel_rfl) (by kernel_rfl) (fun _ _ _ h => h) (Or.inl ⟨by rfl, ?_⟩) (by assumption) ?_
    rotate_left 1
    · (intro W hSw; go_simp <;> with_reducible rfl)
    try simp only [Act.put, List.setIfInBounds_toArray, List.set_cons_zero, List.set_cons_succ]
    refine wpAnyH_take (i := 15) (oi := ⟨some 35, _, _, _, _, _⟩) (v := ?_) rfl (by kernel_rfl) (by kernel_rfl) (by kernel_rfl) (fun _ _ _ h => h) (Or.inl ⟨by rfl, ?_⟩) (by assumption) ?_
    rotate_left 1
    · (intro W hSw; go_simp <;> with_reducible rfl)
    try simp only [Act.put, List.setIfInBounds_toArray, List.set_cons_zero, List.set_cons_succ]
    refine wpAnyH_take (i := 16) (oi := ⟨some 36, _, _, _, _, _⟩) (v := ?_) rfl (by kernel_rfl) (by kernel_rfl) (by kernel_rfl) (fun _ _ _ h => h) (Or.inl ⟨by rfl, ?_⟩) (by assumption) ?_
    rotate_left 1
    · (intro W hSw; go_simp <;> with_reducible rfl)
    try simp only [Act.put, List.setIfInBounds_toArray, List.set_cons_zero, List.set_cons_succ]
    refine wpAnyH_take (i := 17) (oi := ⟨some 37, _, _, _, _, _⟩) (v := .agg (List.toArray (((setI (fewT x) r v).put ⟨A1, (fewT x).se.n, ac1⟩ ⟨A2, (fewT x).bg.n, ac2⟩ ⟨A3, (fewT x).sn.n, ac3⟩).cs))) rfl (by kernel_rfl) (by kernel_rfl) (by kernel_rfl) (fun _ _ _ h => h) (yieldsIf_load_mid (by rfl) 32 (.tmp 9) rfl p3 (0) rfl (((setI (fewT x) r v).put ⟨A1, (fewT x).se.n, ac1⟩ ⟨A2, (fewT x).bg.n, ac2⟩ ⟨A3, (fewT x).sn.n, ac3⟩).cs) _ (fun W hW => range_part (b3.kept hW id) 0 ((setI (fewT x) r v).put ⟨A1, (fewT x).se.n, ac1⟩ ⟨A2, (fewT x).bg.n, ac2⟩ ⟨A3, (fewT x).sn.n, ac3⟩).cs rfl) Try.underlying32 rfl (sizeT _)) (by assumption) ?_
    try simp only [Act.put, List.setIfInBounds_toArray, List.set_cons_zero, List.set_cons_succ]
    refine wpAnyH_take (i := 18) (oi := ⟨some 38, _, _, _, _, _⟩) (v := ?_) rfl (by kernel_rfl) (by kernel_rfl) (by kernel_rfl) (fun _ _ _ h => h) (Or.inl ⟨by rfl, ?_⟩) (by assumption) ?_
    rotate_left 1
    · (intro W hSw; go_simp <;> with_reducible rfl)
    try simp only [Act.put, List.setIfInBounds_toArray, List.set_cons_zero, List.set_cons_succ]
    refine wpAnyH_take (i := 20) (oi := ⟨some 40, _, _, _, _, _⟩) (v := .agg (List.toArray (((setI (fewT x) r v).put ⟨A1, (fewT x).se.n, ac1⟩ ⟨A2, (fewT x).bg.n, ac2⟩ ⟨A3, (fewT x).sn.n, ac3⟩).cs))) rfl (by kernel_rfl) (by kernel_rfl) (by kernel_rfl) (fun _ _ _ h => h) (yieldsIf_load_mid (by rfl) 32 (.tmp 9) rfl p3 (0) rfl (((setI (fewT x) r v).put ⟨A1, (fewT x).se.n, ac1⟩ ⟨A2, (fewT x).bg.n, ac2⟩ ⟨A3, (fewT x).sn.n, ac3⟩).cs) _ (fun W hW => range_part (b3.kept hW id) 0 ((setI (fewT x) r v).put ⟨A1, (fewT x).se.n, ac1⟩ ⟨A2, (fewT x).bg.n, ac2⟩ ⟨A3, (fewT x).sn.n, ac3⟩).cs rfl) Try.underlying32 rfl (sizeT _)) (by assumption) ?_
    try simp only [Act.put, List.setIfInBounds_toArray, List.set_cons_zero, List.set_cons_succ]
    refine wpAnyH_take (i := 21) (oi := ⟨some 41, _, _, _, _, _⟩) (v := ?_) rfl (by kernel_rfl) (by kernel_rfl) (by kernel_rfl) (fun _ _ _ h => h) (Or.inl ⟨by rfl, ?_⟩) (by assumption) ?_
    rotate_left 1
    · (intro W hSw; go_simp <;> with_reducible rfl)
    try simp only [Act.put, List.setIfInBounds_toArray, List.set_cons_zero, List.set_cons_succ]
    refine wpAnyH_ready (rs := [19]) (by kernel_rfl) (by simp) ?_
    refine AllReadyH.cons (o := ⟨some 39, _, _, _, _, _⟩) rfl (fun K hK => ?_) AllReadyH.nil
    go_simp
    refine (get_any ((setI (fewT x) r v).put ⟨A1, (fewT x).se.n, ac1⟩ ⟨A2, (fewT x).bg.n, ac2⟩ ⟨A3, (fewT x).sn.n, ac3⟩) t w4).mono ?_
    rintro e w5 ⟨rfl, hb5⟩
    have b1_5 := b1_4.on hb5
    have b2_5 := b2_4.on hb5
    have b3_5 := b3_4.on hb5
    have ow_5 := ow_4.on hb5
    have kk_5 := kk_4.trans (hb5.mono kk_4.size)
    have gw_5 := gw_4.on hb5
    have S5 : (fun W => Kept (fun g => False) wd W) w5 := Kept.next S4 (kept_below (fun _ => False) hb5) (fun _ h => h.elim)
    refine hK.out _ _ S5 (fun h5 => ?_)
    clear h4 hK K
    try simp only [Act.put, List.setIfInBounds_toArray, List.set_cons_zero, List.set_cons_succ]
    refine wpAnyH_ready (rs := [22]) (by kernel_rfl) (by simp) ?_
    refine AllReadyH.cons (o := ⟨some 42, _, _, _, _, _⟩) rfl (fun K hK => ?_) AllReadyH.nil
    go_simp
    refine (rget_any ((setI (fewT x) r v).put ⟨A1, (fewT x).se.n, ac1⟩ ⟨A2, (fewT x).bg.n, ac2⟩ ⟨A3, (fewT x).sn.n, ac3⟩) t w5).mono ?_
    rintro e w6 ⟨rfl, hb6⟩
    have b1_6 := b1_5.on hb6
    have b2_6 := b2_5.on hb6
    have b3_6 := b3_5.on hb6
    have ow_6 := ow_5.on hb6
    have kk_6 := kk_5.trans (hb6.mono kk_5.size)
    have gw_6 := gw_5.on hb6
    have S6 : (fun W => Kept (fun g => False) wd W) w6 := Kept.next S5 (kept_below (fun _ => False) hb6) (fun _ h => h.elim)
    refine hK.out _ _ S6 (fun h6 => ?_)
    clear h5 hK K
    try simp only [Act.put, List.setIfInBounds_toArray, List.set_cons_zero, List.set_cons_succ]
    refine wpAnyH_take (i := 23) (oi := ⟨some 43, _, _, _, _, _⟩) (v := ?_) rfl (by kernel_rfl) (by kernel_rfl) (by kernel_rfl) (fun _ _ _ h => h) (Or.inl ⟨by rfl, ?_⟩) (by assumption) ?_
    rotate_left 1
    · (intro W hSw; go_simp <;> with_reducible rfl)
    try simp only [Act.put, List.setIfInBounds_toArray, List.set_cons_zero, List.set_cons_succ]
    refine wpAnyH_take (i := 24) (oi := ⟨some 44, _, _, _, _, _⟩) (v := ?_) rfl (by kernel_rfl) (by kernel_rfl) (by kernel_rfl) (fun _ _ _ h => h) (Or.inl ⟨by rfl, ?_⟩) (by assumption) ?_
    rotate_left 1
    · (intro W hSw; go_simp <;> with_reducible rfl)
    try simp only [Act.put, List.setIfInBounds_toArray, List.set_cons_zero, List.set_cons_succ]
    refine wpAnyH_done (by kernel_rfl) ?_ _
    refine NoPanic.normal ?_
    go_wp2_with fail
    go_meet
    exact ⟨rfl, kk_6, b1_6, b3_6, ow_6⟩
  case rest =>
    clear kk b1 b2 b3 ow
    obtain ⟨rfl, kk, b1, b3, ow⟩ := hcut
    have d1 := copy_any (hR0.on kk) u1 u2 u3
    obtain ⟨BC, eBC⟩ : ∃ b, wc.heap.size = b := ⟨_, rfl⟩
    have lt2 : ∀ g, lies A2 g → w.heap.size ≤ g ∧ g < BC := fun g hg => by rw [← eBC]; exact own_at' ow.bg hg
    go_wp2_with (((with_reducible refine at_load 32 (.tmp 4) ?_); refine wpList_load_row rfl 32 (.tmp 4) rfl p1 rfl 32 (fewT x).cs.toArray (0, 0) _ b1 Try.underlying32 rfl (sizeT _) ?_))
    refine (d1).mono ?_
    rintro e W41 ⟨C1, cc1, C2, cc2, C3, cc3, rfl, og, k3⟩
    replace ow := ow.on k3
    replace b1 := b1.on k3
    replace b3 := b3.on k3
    replace kk := kk.trans (k3.mono kk.size)
    clear k3
    clear d1
    rw [eBC] at og
    clear eBC
    obtain ⟨p4, f4⟩ : ∃ p, W41.heap.size = p := ⟨_, rfl⟩
    obtain ⟨W42, ea42⟩ : ∃ W, W41.alloc (.cells #[.int .i64 0, .int .i64 0, .int .i64 0, .int .i64 0, .int .i64 0, .int .i64 0, .int .i64 0, .int .i64 0, .int .i64 0, .int .i64 0, .int .i64 0, .int .i64 0, .int .i64 0, .int .i64 0, .int .i64 0, .int .i64 0, .int .i64 0, .int .i64 0, .slice none 0 0, .slice none 0 0, .slice none 0 0, .int .i64 0] 32) = W := ⟨_, rfl⟩
    have ka42 : Below W41.heap.size W41 W42 := by rw [← ea42]; exact (Below.refl _ W41).alloc (Nat.le_refl _) _
    have b4 : Blk W42 p4 32 #[.int .i64 0, .int .i64 0, .int .i64 0, .int .i64 0, .int .i64 0, .int .i64 0, .int .i64 0, .int .i64 0, .int .i64 0, .int .i64 0, .int .i64 0, .int .i64 0, .int .i64 0, .int .i64 0, .int .i64 0, .int .i64 0, .int .i64 0, .int .i64 0, .slice none 0 0, .slice none 0 0, .slice none 0 0, .int .i64 0] := by rw [← ea42]; exact blk_new W41 _ 32 _ f4
    have q1_4 : p1 < p4 := by rw [← f4]; exact b1.lt
    replace b1 := b1.on ka42
    have q3_4 : p3 < p4 := by rw [← f4]; exact b3.lt
    replace b3 := b3.on ka42
    have kk0 := kk
    replace kk := kk.trans (ka42.mono kk.size)
    have hp4 : w.heap.size ≤ p4 := by rw [← f4]; exact kk0.size
    replace ow := ow.on ka42
    replace og := og.on ka42
    clear ka42 kk0
    obtain ⟨W43, es43⟩ : ∃ W, W42.setRow p4 ((fewT x).put ⟨C1, (fewT x).se.n, cc1⟩ ⟨C2, (fewT x).bg.n, cc2⟩ ⟨C3, (fewT x).sn.n, cc3⟩).cs.toArray = W := ⟨_, rfl⟩
    have bo4 := b4
    replace b1 := row_far b1 es43 (by omega)
    replace b3 := row_far b3 es43 (by omega)
    replace b4 : Blk W43 p4 32 ((fewT x).put ⟨C1, (fewT x).se.n, cc1⟩ ⟨C2, (fewT x).bg.n, cc2⟩ ⟨C3, (fewT x).sn.n, cc3⟩).cs.toArray := row_named b4 es43
    replace kk := kk.trans (row_below es43 hp4 kk.size)
    replace ow := ow.off bo4 (by decide) (by decide) es43 rfl rfl rfl
    replace og := og.off bo4 (by decide) (by decide) es43 rfl rfl rfl
    have bo4_ := bo4
    go_wp2_with (((with_reducible refine at_store 32 (.tmp 10) (.tmp 46) ?_); refine wpList_store_row rfl 32 (.tmp 10) (.tmp 46) rfl p4 ((fewT x).put ⟨C1, (fewT x).se.n, cc1⟩ ⟨C2, (fewT x).bg.n, cc2⟩ ⟨C3, (fewT x).sn.n, cc3⟩).cs.toArray rfl rfl 32 #[.int .i64 0, .int .i64 0, .int .i64 0, .int .i64 0, .int .i64 0, .int .i64 0, .int .i64 0, .int .i64 0, .int .i64 0, .int .i64 0, .int .i64 0, .int .i64 0, .int .i64 0, .int .i64 0, .int .i64 0, .int .i64 0, .int .i64 0, .int .i64 0, .slice none 0 0, .slice none 0 0, .slice none 0 0, .int .i64 0] bo4_ (sizeT _) rfl (Th.onea _) ?_; rw [es43]))
    have no1 : ¬ lies A2 p1 := own_off (own_low ow.bg) b1 (by decide)
    have no3 : ¬ lies A2 p3 := own_off (own_low ow.bg) b3 (by decide)
    have no4 : ¬ lies A2 p4 := own_off (own_low ow.bg) b4 (by decide)
    have R2 : Room W43 A2 (fewT x).bg.n 3 48 := own_room ow.bg
    have rX := hR0.on kk
    have rY : Reads W43 ((fewT x).put ⟨C1, (fewT x).se.n, cc1⟩ ⟨C2, (fewT x).bg.n, cc2⟩ ⟨C3, (fewT x).sn.n, cc3⟩) (z.take 12) (l.take 12) (s.take 8) := og.reads
    have lo1 := fun g (hg : holds (fewT x).se.A (fewT x).se.n g) => Sees.lt hR0.se g hg
    have lo2 := fun g (hg : holds (fewT x).bg.A (fewT x).bg.n g) => Sees.lt hR0.bg g hg
    have lo3 := fun g (hg : holds (fewT x).sn.A (fewT x).sn.n g) => Sees.lt hR0.sn g hg
    have ho1 := own_new og.se
    have ho2 := own_new og.bg
    have ho3 := own_new og.sn
    have HK := Lib.hid (And.intro rX (And.intro rY (And.intro kk (And.intro b1 b4))))
    have HL := Lib.hid (And.intro (And.intro lo1 (And.intro lo2 lo3)) (And.intro ho1 (And.intro ho2 ho3)))
    have HT := Lib.hid lt2
    have z19 : ∀ W, Kept (fun g => lies A2 g) W43 W → W.cell? ⟨p3, 19, none⟩ = some (.slice A2 (fewT x).bg.n ac2) := fun W hW => (b3.kept hW no3).cell 19
    clear rX rY kk b1 b3 b4 ow og lo1 lo2 lo3 ho1 ho2 ho3 lt2 hR0 no3
    have hn12 : (fewT x).bg.n ≤ 1000 := u2
    obtain ⟨n, hn⟩ : ∃ n, (fewT x).bg.n = n := ⟨_, rfl⟩
    rw [hn] at R2 hn12
    simp only [hn] at z19
    have HN := Lib.hid hn
    clear hn u1 u2 u3
    go_loopw [11] (fun u wr => ∃ j : Nat, j ≤ n ∧ u = .int .i64 (j : Int) ∧ Kept (fun g => lies A2 g) W43 wr ∧ Room wr A2 n 3 48) (fun u _ => n - (intOf u).toNat)
    case atStart => exact ⟨0, Nat.zero_le _, rfl, Kept.refl _ _, R2⟩
    case round =>
      obtain ⟨j, hj, rfl, hk, hRm⟩ := hrel
      have c19 := z19 wr hk
      by_cases hlt : j < n
      · obtain ⟨g, cur, eA, hb, hs⟩ := hRm j hlt
        rw [eA] at c19
        have hRm' : Room wr (some ⟨g, 0, none⟩) n 3 48 := by rw [← eA]; exact hRm
        have hlg : lies A2 g := by rw [eA]; rfl
        have hc := hb.cell (j * 3)
        rw [Array.getElem?_eq_getElem (by omega)] at hc
        generalize cur[j * 3] = q at hc
        have hf := hb.free (j * 3)
        have HR := Lib.hid (And.intro eA (And.intro hRm' hlg))
        have hjI : (j : Int) < (n : Int) := by omega
        have hj0 : (0 : Int) ≤ (j : Int) := by omega
        clear hRm hRm' hs hb eA hlg z19
        go_wp2
        obtain ⟨eA, hRm', hlg⟩ := HR.out
        go_roundw
        case rel => exact ⟨j + 1, by omega, by go_num, hk.next (kept_cell wr ⟨g, j * 3, none⟩ _) (fun g' e => .inl (by rw [e]; exact hlg)), by rw [eA]; exact hRm'.set⟩
        case measure => simp [intOf]; omega
      · have hjI : ¬ (j : Int) < (n : Int) := by omega
        obtain ⟨rX, rY, kk, b1, b4⟩ := HK.out
        obtain ⟨⟨lo1, lo2, lo3⟩, ho1, ho2, ho3⟩ := HL.out
        have lt2 := HT.out
        have nX : ∀ g, g < w.heap.size → ¬ lies A2 g := fun g hg e => by have := (lt2 g e).1; omega
        have nY : ∀ g, BC ≤ g → ¬ lies A2 g := fun g hg e => by have := (lt2 g e).2; omega
        replace rX := rX.kept hk (fun g hg => nX g (lo1 g hg)) (fun g hg => nX g (lo2 g hg)) (fun g hg => nX g (lo3 g hg))
        replace rY := rY.kept hk (fun g hg => nY g (ho1 g hg.2)) (fun g hg => nY g (ho2 g hg.2)) (fun g hg => nY g (ho3 g hg.2))
        replace b1 := b1.kept hk no1
        replace b4 := b4.kept hk no4
        replace kk := kk.trans (hk.under w.heap.size kk.size (fun g e => (lt2 g e).1))
        have d1 : Calls Try.prog 11 #[.agg (fewT x).cs.toArray, .agg ((fewT x).put ⟨C1, (fewT x).se.n, cc1⟩ ⟨C2, (fewT x).bg.n, cc2⟩ ⟨C3, (fewT x).sn.n, cc3⟩).cs.toArray] wr fun e w' => e = .returned (.bool true) ∧ Below wr.heap.size wr w' := thread_same rX rY
        clear rX rY lo1 lo2 lo3 ho1 ho2 ho3 lt2 nX nY z19 hRm hk
        go_wp2_with (first | ((with_reducible refine at_load 32 (.tmp 4) ?_); refine wpList_load_row rfl 32 (.tmp 4) rfl p1 rfl 32 (fewT x).cs.toArray (0, 0) _ b1 Try.underlying32 rfl (sizeT _) ?_) | ((with_reducible refine at_load 32 (.tmp 10) ?_); refine wpList_load_row rfl 32 (.tmp 10) rfl p4 rfl 32 ((fewT x).put ⟨C1, (fewT x).se.n, cc1⟩ ⟨C2, (fewT x).bg.n, cc2⟩ ⟨C3, (fewT x).sn.n, cc3⟩).cs.toArray (0, 0) _ b4 Try.underlying32 rfl (sizeT _) ?_))
        refine d1.mono ?_
        rintro e wz ⟨rfl, k9⟩
        replace kk := kk.trans (k9.mono kk.size)
        clear d1 k9
        go_wp2
        go_ret
        exact ⟨rfl, kk⟩
end Go.Proofs.Ytcajoekmigkhjaa
