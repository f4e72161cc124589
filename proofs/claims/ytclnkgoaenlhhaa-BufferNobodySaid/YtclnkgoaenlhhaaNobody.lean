/- nil, and a buffer that New did not make: the walk. Conditions: none. -/
import Derived.Test.YtclnkgoaenlhhaaRuns
namespace Go.Proofs.Ytclnkgoaenlhhaa
open Go.RowKit Go.Conc Go.Shelf Go.ChangeShapes Go.WideShapes
attribute [local go_sem] Oper.semAt_some

/-- nil, or a buffer that New did not make. -/
def Nob (w : World) (v : Value) : Prop := v = .pointer none ∨ ∃ p, v = .pointer (some ⟨p, 0, none⟩) ∧ w.cell? ⟨p, 0, none⟩ = some (.chan none)
theorem Nob.below {w w' : World} {v : Value} (h : Nob w v) (hb : Below w.heap.size w w') : Nob w' v := by
  rcases h with h | ⟨p, hv, hp⟩
  · exact .inl h
  · exact .inr ⟨p, hv, (hb.cell (World.block_lt_of_cell? w _ hp)).trans hp⟩
theorem row_nob (v : Value) (w : World) (h : Nob w v) : Calls Try.prog 23 #[v] w fun e w' => e = .returned (.chan none) ∧ w = w' := by
  rcases h with rfl | ⟨p, rfl, hp⟩
  · exact row_nil w
  · exact row_any p none w hp
theorem two_below {a b c : World} (h : Below a.heap.size a b) (k : Below b.heap.size b c) : Below a.heap.size a c := h.trans (k.mono h.size)

set_option maxHeartbeats 4000000 in
theorem pop_nob (v : Value) (w : World) (h : Nob w v) : Calls Try.prog 12 #[v] w fun e w' => e = .returned (.tuple #[.agg #[.int .i64 0, .int .i64 0, .int .i64 0, .int .i64 0, .int .i64 0, .int .i64 0, .int .i64 0, .int .i64 0], .bool false]) ∧ Below w.heap.size w w' := by
  have hb0 : Below w.heap.size w (w.alloc (.cells noE.cs.toArray 35)) := (Below.refl _ w).alloc (Nat.le_refl _) _
  have hr := row_nob v _ (h.below hb0)
  have ht := take_nil (w.alloc (.cells noE.cs.toArray 35))
  have hx0 : Blk (w.alloc (.cells noE.cs.toArray 35)) w.heap.size 35 noE.cs.toArray := blk_new w _ _ _ rfl
  clear h
  go_enter Try.func12, Try.ntmps12
  go_wp2_with fail
  refine hr.mono ?_
  rintro e w1 ⟨rfl, rfl⟩
  go_wp2_with fail
  refine ht.mono ?_
  rintro e w2 ⟨rfl, hb2⟩
  have hx2 := hx0.on hb2
  go_wp2_with (refine wpList_store_row rfl 35 (.tmp 2) (.tmp 7) rfl w.heap.size noE.cs.toArray rfl rfl 35 noE.cs.toArray hx2 (load35 noE) rfl noE.onea ?_)
  have hx3 : Blk (w2.setRow w.heap.size noE.cs.toArray) w.heap.size 35 noE.cs.toArray := setRow_heap _ _ _ _ _ _ hx2
  have hb3 : Below w.heap.size w2 (w2.setRow w.heap.size noE.cs.toArray) := below_setRow (Below.refl _ _) (Nat.le_refl _) _
  have hres := run_loadVar_row (P := Try.prog) _ w.heap.size 35 35 _ (0, 0) _ hx3 Try.underlying35 rfl (load35 noE)
  refine bodyPost_ret (v := .tuple #[.agg noE.cs.toArray, .bool false]) (by simp [results, Try.f12, asAddr, hres]) rfl ?_
  exact ⟨rfl, (two_below hb0 hb2).trans hb3⟩
set_option maxHeartbeats 4000000 in
theorem push_nob (v : Value) (x : Ent) (w : World) (h : Nob w v) : Calls Try.prog 14 #[v, .agg x.cs.toArray] w fun e w' => e = .returned (.bool false) ∧ Below w.heap.size w w' := by
  obtain ⟨W0, eW0⟩ : ∃ W, W = w.alloc (.cells x.cs.toArray 35) := ⟨_, rfl⟩
  have hb0 : Below w.heap.size w W0 := by rw [eW0]; exact (Below.refl _ w).alloc (Nat.le_refl _) _
  have hx0 : Blk W0 w.heap.size 35 x.cs.toArray := by rw [eW0]; exact blk_new w _ _ _ rfl
  have h0 := h.below hb0
  clear h
  go_enter Try.func14, Try.ntmps14
  go_wp2_with fail
  rw [← eW0]
  generalize hz : w.heap.size = z at hx0 hb0 ⊢
  refine wp_region_noPanic ?_
  refine wp_region_held_drew (S := (fun W => Blk W z 35 x.cs.toArray)) (by kernel_rfl) hx0 (fun hHeld => ?_)
  have hgr : Below W0.heap.size W0 W0.drew := (Below.refl _ _).drew
  have h1 : Nob W0.drew v := h0.below hgr
  have hS1 : Blk W0.drew z 35 x.cs.toArray := hx0.on hgr
  have hr1 := row_nob v _ h1
  generalize W0.drew = W1 at hHeld h1 hgr hS1 hr1 ⊢
  refine wpAnyH_take (i := 0) (oi := ⟨some 5, _, _, _, _, _⟩) (v := ?_) rfl (by kernel_rfl) (by kernel_rfl) (by kernel_rfl) (fun _ _ _ h => h) (Or.inl ⟨by rfl, ?_⟩) (by assumption) ?_
  rotate_left 1
  · (intro W hSw; go_simp <;> with_reducible rfl)
  try simp only [Act.put, List.setIfInBounds_toArray, List.set_cons_zero, List.set_cons_succ]
  refine wpAnyH_take (i := 2) (oi := ⟨some 7, _, _, _, _, _⟩) (v := .agg (List.toArray (x.cs))) rfl (by kernel_rfl) (by kernel_rfl) (by kernel_rfl) (fun _ _ _ h => h) (yieldsIf_load_mid (by rfl) 35 (.tmp 3) rfl z (0) rfl (x.cs) _ (fun W hW => range_blk hW) Try.underlying35 rfl (load35 x)) (by assumption) ?_
  try simp only [Act.put, List.setIfInBounds_toArray, List.set_cons_zero, List.set_cons_succ]
  refine wpAnyH_ready (rs := [1]) (by kernel_rfl) (by simp) ?_
  refine AllReadyH.cons rfl (fun K hK => ?_) AllReadyH.nil
  go_simp
  refine (hr1).mono ?_
  rintro e W2 ⟨rfl, rfl⟩
  have hKeep := hS1
  refine hK.out _ _ ?_ (fun hHeld1 => ?_)
  · exact hKeep
  clear hHeld hK K hKeep
  try simp only [Act.put, List.setIfInBounds_toArray, List.set_cons_zero, List.set_cons_succ]
  have hput1 := put_nil x W1
  refine wpAnyH_ready (rs := [3]) (by kernel_rfl) (by simp) ?_
  refine AllReadyH.cons rfl (fun K hK => ?_) AllReadyH.nil
  go_simp
  refine (hput1).mono ?_
  rintro e W2 ⟨rfl, hg2⟩
  have hKeep : Blk W2 z 35 x.cs.toArray := hS1.on hg2
  refine hK.out _ _ ?_ (fun hHeld2 => ?_)
  · exact hKeep
  clear hHeld1 hK K hKeep
  try simp only [Act.put, List.setIfInBounds_toArray, List.set_cons_zero, List.set_cons_succ]
  refine wpAnyH_take (i := 4) (oi := ⟨some 4, _, _, _, _, _⟩) (v := ?_) rfl (by kernel_rfl) (by kernel_rfl) (by kernel_rfl) (fun _ _ _ h => h) (Or.inl ⟨by rfl, ?_⟩) (by assumption) ?_
  rotate_left 1
  · (intro W hSw; go_simp <;> with_reducible rfl)
  try simp only [Act.put, List.setIfInBounds_toArray, List.set_cons_zero, List.set_cons_succ]
  refine wpAnyH_done (by kernel_rfl) ?_ _
  refine NoPanic.normal ?_
  go_wp2
  go_ret
  refine ⟨rfl, ?_⟩
  have hs := hb0.size
  have hs2 := hgr.size
  rw [hz] at *
  exact hb0.trans ((hgr.mono hs).trans (hg2.mono (Nat.le_trans hs hs2)))
theorem len_nob (v : Value) (w : World) (h : Nob w v) : Calls Try.prog 15 #[v] w fun e w' => e = .returned (.int .i64 0) ∧ w = w' := by
  have hr := row_nob v w h
  clear h
  go_enter Try.func15, Try.ntmps15
  go_wp2_with (first
    | (go_at_call 23; refine hr.mono ?_; rintro e w1 ⟨rfl, rfl⟩)
    | (go_at_call 30; refine (length_nil _).mono ?_; rintro e w2 ⟨rfl, rfl⟩))
  go_ret
  exact ⟨rfl, rfl⟩
theorem full_nob (v : Value) (w : World) (h : Nob w v) : Calls Try.prog 17 #[v] w fun e w' => e = .returned (.bool true) ∧ w = w' := by
  have hr := row_nob v w h
  clear h
  go_enter Try.func17, Try.ntmps17
  go_wp2_with (first
    | (go_at_call 23; refine hr.mono ?_; rintro e w1 ⟨rfl, rfl⟩)
    | (go_at_call 25; refine (size_nil _).mono ?_; rintro e w1 ⟨rfl, rfl⟩)
    | (go_at_call 30; refine (length_nil _).mono ?_; rintro e w2 ⟨rfl, rfl⟩))
  go_ret
  exact ⟨rfl, rfl⟩
theorem clone_nob (v : Value) (w : World) (h : Nob w v) : Calls Try.prog 11 #[v] w fun e w' => e = .returned (.pointer none) ∧ w = w' := by
  have hr := row_nob v w h
  clear h
  go_enter Try.func11, Try.ntmps11
  go_wp2_with (first
    | (go_at_call 23; refine hr.mono ?_; rintro e w1 ⟨rfl, rfl⟩)
    | (go_at_call 24; refine (made_nil _).mono ?_; rintro e w2 ⟨rfl, rfl⟩))
  go_ret
  exact ⟨rfl, rfl⟩
theorem all_nil (w : World) : Calls Try.prog 31 #[.chan none] w fun e w' => ∃ A cp, e = .returned (.slice A 0 cp) ∧ SeesE w' A 0 cp [] ∧ Below w.heap.size w w' := by
  obtain ⟨i0, hi, hz0, hz1, hz2⟩ := info_parts info35
  have HI := Lib.hid hi
  have HZ0 := Lib.hid hz0
  have HZ1 := Lib.hid hz1
  have HZ2 := Lib.hid hz2
  clear hi hz0 hz1 hz2
  go_enter Try.func31, Try.ntmps31
  go_wp2_with fail
  refine (length_nil _).mono ?_
  rintro e w1 ⟨rfl, rfl⟩
  go_wp2_with (first
    | (at_make; refine wpList_make_own _ rfl _ _ 27 rfl w.heap.size 35 i0 (.agg noE.cs.toArray) 8 Try.underlying27 HI.out HZ0.out HZ1.out .i64 .i64 _ 0 rfl rfl (by omega) (by rw [HZ2.out]; omega) (by unfold maxLen; omega) (Nat.le_refl _) ?_; intro w2 hown2 hg2))
  have hB2 : Below w.heap.size w w2 := ⟨hg2.os, hg2.tape, hg2.output, hg2.size, fun k hk => hg2.block k hk (by simp)⟩
  have hS2 : SeesE w2 (some ⟨w.heap.size, 0, none⟩) 0 0 [] := own_seesE (B := w.heap.size) (by simpa [flatE] using hown2)
  clear hown2 hg2
  refine (length_nil _).mono ?_
  rintro e w3 ⟨rfl, rfl⟩
  go_wp2_with fail
  go_loopw [3, 11] (fun v i wr => v = .slice (some ⟨w.heap.size, 0, none⟩) 0 0 ∧ i = .int .i64 0 ∧ wr = w2) (fun _ _ _ => 0)
  case atStart => exact ⟨rfl, rfl, rfl⟩
  case round =>
    obtain ⟨rfl, rfl, rfl⟩ := hrel
    go_wp2
    go_ret
    exact ⟨_, _, rfl, hS2, hB2⟩
theorem all_nob (v : Value) (w : World) (h : Nob w v) : Calls Try.prog 16 #[v] w fun e w' => ∃ A cp, e = .returned (.slice A 0 cp) ∧ SeesE w' A 0 cp [] ∧ Below w.heap.size w w' := by
  have hr := row_nob v w h
  clear h
  go_enter Try.func16, Try.ntmps16
  go_wp2_with (first
    | (go_at_call 23; refine hr.mono ?_; rintro e w1 ⟨rfl, rfl⟩)
    | (go_at_call 31; refine (all_nil _).mono ?_; rintro e w2 ⟨A, cp, rfl, hs2, hb2⟩))
  go_ret
  exact ⟨A, cp, rfl, hs2, hb2⟩

/-- How it stands within the loop of Last. -/
structure LooksN (w : World) (x : Pl) (g : Int) (z : Nat) (v : Wd) (b : Bool) (W : World) : Prop where
  place : Blk W z 31 x.cs.toArray
  gen : Blk W (z + 1) 3 #[.int .i64 g]
  word : Blk W (z + 2) 33 v.cs.toArray
  is : Blk W (z + 3) 4 #[.bool b]
  below : Below w.heap.size w W
theorem looksN_own {w w2 : World} {x : Pl} {g : Int} {z : Nat} {v : Wd} {b : Bool} (hw : w.heap.size ≤ w2.heap.size) :
    OwnFrom w2.heap.size (fun (_ : Unit) W => LooksN w x g z v b W) := by
  intro u X Y row h hg hr
  exact ⟨blk_ownF _ _ _ _ u X Y row h.place hg hr, blk_ownF _ _ _ _ u X Y row h.gen hg hr, blk_ownF _ _ _ _ u X Y row h.word hg hr, blk_ownF _ _ _ _ u X Y row h.is hg hr,
    h.below.grown hg h.below.size (fun j hj => by have := (hr j hj).1; omega)⟩
/-- The results set. -/
theorem looksN_set {w W : World} {x : Pl} {g : Int} {v : Wd} {b : Bool} (h : LooksN w x g w.heap.size v b W) (u : Wd) (t : Bool) :
    LooksN w x g w.heap.size u t ((((W.setCell ⟨w.heap.size + 2, 0, none⟩ (.int .i64 u.n)).setCell ⟨w.heap.size + 2, 1, none⟩ (.int .i64 u.c)).setCell ⟨w.heap.size + 2, 2, none⟩ (.int .i64 u.g)).setCell ⟨w.heap.size + 3, 0, none⟩ (.bool t)) ∧
    KeepsOthers W ((((W.setCell ⟨w.heap.size + 2, 0, none⟩ (.int .i64 u.n)).setCell ⟨w.heap.size + 2, 1, none⟩ (.int .i64 u.c)).setCell ⟨w.heap.size + 2, 2, none⟩ (.int .i64 u.g)).setCell ⟨w.heap.size + 3, 0, none⟩ (.bool t)) := by
  have hk : Kept (fun k => k = w.heap.size + 2 ∨ k = w.heap.size + 3) W ((((W.setCell ⟨w.heap.size + 2, 0, none⟩ (.int .i64 u.n)).setCell ⟨w.heap.size + 2, 1, none⟩ (.int .i64 u.c)).setCell ⟨w.heap.size + 2, 2, none⟩ (.int .i64 u.g)).setCell ⟨w.heap.size + 3, 0, none⟩ (.bool t)) :=
    ((((kept_cell W ⟨w.heap.size + 2, 0, none⟩ (.int .i64 u.n)).more (fun _ e => .inl e)).next (kept_cell _ ⟨w.heap.size + 2, 1, none⟩ (.int .i64 u.c)) (fun _ e => .inl (.inl e))).next (kept_cell _ ⟨w.heap.size + 2, 2, none⟩ (.int .i64 u.g)) (fun _ e => .inl (.inl e))).next (kept_cell _ ⟨w.heap.size + 3, 0, none⟩ (.bool t)) (fun _ e => .inl (.inr e))
  refine ⟨⟨h.place.kept hk (by omega), h.gen.kept hk (by omega), ?_, ?_, h.below.trans (hk.under w.heap.size h.below.size (by omega))⟩, (((KeepsOthers.setCell _ _ _).trans (KeepsOthers.setCell _ _ _)).trans (KeepsOthers.setCell _ _ _)).trans (KeepsOthers.setCell _ _ _)⟩
  · exact blk_far (blk_set (blk_set (blk_set h.word 0 (.int .i64 u.n)) 1 (.int .i64 u.c)) 2 (.int .i64 u.g)) (by omega) 0 _
  · exact blk_set (blk_far (blk_far (blk_far h.is (by omega) 0 _) (by omega) 1 _) (by omega) 2 _) 0 (.bool t)
set_option maxRecDepth 100000 in
set_option maxHeartbeats 4000000 in
theorem last_nob (p : Nat) (x : Pl) (g : Int) (w : World) (h : Nob w (.pointer (some ⟨p, 0, none⟩))) :
    Calls Try.prog 13 #[.pointer (some ⟨p, 0, none⟩), .agg #[.int .i64 x.k, .int .i64 x.i, .int .i64 x.j], .int .i64 g] w fun e w' => e = .returned (.tuple #[.agg noW.cs.toArray, .bool false]) ∧ Below w.heap.size w w' := by
  refine (callsIn_wide (n := 9)).1 ?_
  refine callsIn_of_wp_marks Try.func13 rfl trivial ?_ rfl
  simp only [Try.ntmps13, List.size_toArray, List.length_cons, List.length_nil, Nat.reduceAdd, Nat.reduceSub, Array.replicate_succ, Array.replicate_zero, List.push_toArray, List.append_toArray, List.nil_append, List.cons_append]
  obtain ⟨W0, eW0⟩ : ∃ W, (((w.alloc (.cells #[.int .i64 x.k, .int .i64 x.i, .int .i64 x.j] 31)).alloc (.cells #[.int .i64 g] 3)).alloc (.cells #[.int .i64 0, .int .i64 0, .int .i64 0] 33)).alloc (.cells #[.bool false] 4) = W := ⟨_, rfl⟩
  have hb0 : Below w.heap.size w W0 := by rw [← eW0]; exact ((((Below.refl _ w).alloc (Nat.le_refl _) _).alloc (by simp) _).alloc (by simp; omega) _).alloc (by simp; omega) _
  have hsz : W0.heap.size = w.heap.size + 4 := by rw [← eW0]; simp
  have b0 : Blk W0 w.heap.size 31 x.cs.toArray := by rw [← eW0]; exact (((blk_new w #[.int .i64 x.k, .int .i64 x.i, .int .i64 x.j] 31 _ rfl).on ((Below.refl _ _).alloc (Nat.le_refl _) _)).on ((Below.refl _ _).alloc (Nat.le_refl _) _)).on ((Below.refl _ _).alloc (Nat.le_refl _) _)
  have b1 : Blk W0 (w.heap.size + 1) 3 #[.int .i64 g] := by rw [← eW0]; exact ((blk_new _ #[.int .i64 g] 3 _ (by simp)).on ((Below.refl _ _).alloc (Nat.le_refl _) _)).on ((Below.refl _ _).alloc (Nat.le_refl _) _)
  have b2 : Blk W0 (w.heap.size + 2) 33 noW.cs.toArray := by rw [← eW0]; exact (blk_new _ #[.int .i64 0, .int .i64 0, .int .i64 0] 33 _ (by simp)).on ((Below.refl _ _).alloc (Nat.le_refl _) _)
  have b3 : Blk W0 (w.heap.size + 3) 4 #[.bool false] := by rw [← eW0]; exact blk_new _ #[.bool false] 4 _ (by simp)
  have ha := all_nob _ W0 (h.below hb0)
  have HB0 := Lib.hid hb0
  have hNob := Lib.hid h
  clear h
  gi_wp2_with (first
    | (refine ⟨trivial, ?_⟩; gi_at_call 16; refine (callsIn_wide.2 ha).mono ?_; rintro e w2 ⟨A, cp, rfl, ho2, hg2⟩)
    | (refine ⟨trivial, ?_⟩; gi_at_call 27; refine (back_any _ _ _ _ _).mono ?_; rintro e w' ⟨rfl, rfl⟩))
  have hBox : Blk (w2.alloc (.cells #[.slice A 0 cp] 27)) w2.heap.size 27 #[.slice A 0 cp] := blk_new _ _ _ _ rfl
  have hb3 : Below w2.heap.size w2 (w2.alloc (.cells #[.slice A 0 cp] 27)) := (Below.refl _ _).alloc (Nat.le_refl _) _
  have hsz3 : (w2.alloc (.cells #[.slice A 0 cp] 27)).heap.size = w2.heap.size + 1 := by simp
  obtain ⟨W3, eW3⟩ : ∃ W, w2.alloc (.cells #[.slice A 0 cp] 27) = W := ⟨_, rfl⟩
  rw [eW3] at hBox hb3 hsz3 ⊢
  clear eW3
  have hS3 : SeesE W3 A 0 cp [] := ho2.on hb3
  have hg3 : Below W0.heap.size W0 W3 := hg2.trans (hb3.mono hg2.size)
  have hLooks : LooksN w x g w.heap.size noW false W3 :=
    ⟨b0.on hg3, b1.on hg3, b2.on hg3, b3.on hg3, HB0.out.trans (hg3.mono (by omega))⟩
  have hw3 : w.heap.size + 4 ≤ W3.heap.size := by have := hg2.size; omega
  have hbs : w2.heap.size < W3.heap.size := by omega
  have hHold : ∀ j, holds A 0 j → j < W3.heap.size := fun j hj => absurd hj.1 (Nat.lt_irrefl 0)
  generalize w2.heap.size = bs at hBox hbs hsz3 ⊢
  clear ho2 hg2 hg3 hb3 b0 b1 b2 b3 hsz3 ha w2 eW0 hsz
  refine wpIn_rangeFunc_ownH rfl (by decide) (gf := 32) (lb := #[.pointer (some ⟨bs, 0, none⟩)]) rfl trivial (enters_of Try.func32 (by kernel_rfl) rfl)
    (back_stops 8 (by decide) bs W3.heap.size A 0 cp [] W3 hBox hbs hS3 hHold) belowK_t (belowK_b (Nat.le_refl _)) (Below.refl _ _) (fun _ => rfl)
    (fun _ W => LooksN w x g w.heap.size noW false W ∧ W3.heap.size ≤ W.heap.size)
    (fun _ _ _ => False)
    (fun s X Y row hs hg hr => ⟨looksN_own (by omega) () X Y row hs.1 hg hr, Nat.le_trans hs.2 hg.size⟩)
    (fun _ _ _ _ _ hs _ _ => hs)
    ⟨hLooks, Nat.le_refl _⟩
    (fun k a' W => AxE p x g w.heap.size bs A 0 cp [] k a' W)
    (fun k a' => axE_own _ _ _ _ _ _ _ _ _ _ _ _)
    ?assign ?body ?done ?stop
  case assign =>
    rintro y pre k W K ⟨h2, h3⟩ hK
    unfold AxE at hK
    unfold encE
    generalize ([] : List Ent).getD k noE = E at hK ⊢
    gi_wp2
    have hnw : Blk (W.alloc (.cells #[.int .i64 E.x.k, .int .i64 E.x.i, .int .i64 E.x.j, .int .i64 E.v.n, .int .i64 E.v.c, .int .i64 E.v.g, .int .i64 E.g, .int .i64 E.p] 35)) W.heap.size 35 E.cs.toArray := blk_new _ _ _ _ rfl
    have hbw : Below W.heap.size W (W.alloc (.cells #[.int .i64 E.x.k, .int .i64 E.x.i, .int .i64 E.x.j, .int .i64 E.v.n, .int .i64 E.v.c, .int .i64 E.v.g, .int .i64 E.g, .int .i64 E.p] 35)) := (Below.refl _ W).alloc (Nat.le_refl _) _
    exact hK _ _ ((KeepsOthers.alloc _ _).from _) (hbw.mono h3) ⟨looksN_own (w2 := W) (by omega) () W _ none h2 (grown_below hbw none) (fun r e => by cases e), Nat.le_trans h3 hbw.size⟩ ⟨W.heap.size, hnw, rfl⟩
  case body =>
    rintro y pre k a' W hl hr _ _ hlt
    exact absurd hlt (Nat.not_lt_zero _)
  case done =>
    rintro D ys W hD rfl ⟨h2, h3⟩ hK
    gi_wp2_with (refine ⟨trivial, ?_⟩; gi_at_call 28; refine (callsIn_wide.2 (plain_any 0 _)).mono ?_; rintro e W5 ⟨rfl, hb5⟩; have h5 : LooksN w x g w.heap.size noW false W5 := looksN_own (w2 := W3) (by omega) () W _ none h2 (grown_below hb5 none) (fun r e => by cases e); have z0 : W5.cell? ⟨w.heap.size + 1 + 1, 0, none⟩ = some (.int .i64 0) := h5.word.cell 0; have z1 : W5.cell? ⟨w.heap.size + 1 + 1, 1, none⟩ = some (.int .i64 0) := h5.word.cell 1; have z2 : W5.cell? ⟨w.heap.size + 1 + 1, 2, none⟩ = some (.int .i64 0) := h5.word.cell 2; have z3 : W5.cell? ⟨w.heap.size + 1 + 1 + 1, 0, none⟩ = some (.bool false) := h5.is.cell 0; have f0 : W5.frozen? ⟨w.heap.size + 1 + 1, 0, none⟩ = false := h5.word.free 0; have f1 : W5.frozen? ⟨w.heap.size + 1 + 1, 1, none⟩ = false := h5.word.free 1; have f2 : W5.frozen? ⟨w.heap.size + 1 + 1, 2, none⟩ = false := h5.word.free 2; have f3 : W5.frozen? ⟨w.heap.size + 1 + 1 + 1, 0, none⟩ = false := h5.is.free 0)
    obtain ⟨k1, k2⟩ := looksN_set h5 noW false
    obtain ⟨W6, eW6⟩ : ∃ W, (((W5.setCell ⟨w.heap.size + 1 + 1, 0, none⟩ (.int .i64 0)).setCell ⟨w.heap.size + 1 + 1, 1, none⟩ (.int .i64 0)).setCell ⟨w.heap.size + 1 + 1, 2, none⟩ (.int .i64 0)).setCell ⟨w.heap.size + 1 + 1 + 1, 0, none⟩ (.bool false) = W := ⟨_, rfl⟩
    have k1 : LooksN w x g w.heap.size noW false W6 := by rw [← eW6]; exact k1
    have hK6 : W6.heap[D]? = some (.deferred (some [])) := by rw [← eW6]; exact k2.same D _ ((hb5.block D (Array.getElem?_eq_some_iff.1 hK).1).trans hK) rfl
    rw [eW6]
    clear eW6 k2
    refine ⟨by simp, .inl ⟨_, _, rfl, run_takeDeferred hK6, ?_⟩⟩
    have h7 : LooksN w x g w.heap.size noW false ((W6).putObj D (.deferred none)) := looksN_own (w2 := W3) (by omega) () _ _ _ k1 (grownBy_putObj' _ D (.deferred none)) (fun r e => by cases e; exact ⟨hD, _, hK6, rfl⟩)
    have q0 : ((W6).putObj D (.deferred none)).cell? ⟨w.heap.size + 1 + 1, 0, none⟩ = some (.int .i64 (noW).n) := h7.word.cell 0
    have q1 : ((W6).putObj D (.deferred none)).cell? ⟨w.heap.size + 1 + 1, 1, none⟩ = some (.int .i64 (noW).c) := h7.word.cell 1
    have q2 : ((W6).putObj D (.deferred none)).cell? ⟨w.heap.size + 1 + 1, 2, none⟩ = some (.int .i64 (noW).g) := h7.word.cell 2
    have q3 : ((W6).putObj D (.deferred none)).cell? ⟨w.heap.size + 1 + 1 + 1, 0, none⟩ = some (.bool false) := h7.is.cell 0
    refine ⟨.tuple #[.agg #[.int .i64 (noW).n, .int .i64 (noW).c, .int .i64 (noW).g], .bool false], ?_, rfl, h7.below⟩
    simp [results, Try.f13, go_sem, q0, q1, q2, q3]
  case stop =>
    rintro D co pre W _ _ h _
    exact h.elim
end Go.Proofs.Ytclnkgoaenlhhaa
