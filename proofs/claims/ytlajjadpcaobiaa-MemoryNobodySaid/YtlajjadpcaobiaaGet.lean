/- Get. Conditions: a place of 64 bits. -/
import Derived.Test.YtlajjadpcaobiaaMem
namespace Go.Proofs.Ytlajjadpcaobiaa
open Go.RowKit Go.ChangeShapes Go.WideShapes

theorem res14 (tmps : Array Value) (w : World) (g : Nat) (cs : Array Value) (u : Value) (hp : tmps[4]?.getD undef = .pointer (some ⟨g, 0, none⟩)) (hu : tmps[5]?.getD undef = u) (hg : Blk w g 35 cs) (hs : (Try.prog.info? 35).map (·.size) = some cs.size) :
    (results Try.f14 tmps).run Try.prog w = .ok (.tuple #[.agg cs, u]) w := by
  have hr : Try.f14.results = #[.cell 4 35, .tmp 5] := by kernel_rfl
  rw [results_cell_tmp hr]
  have h2 : tmps.getD 4 undef = .pointer (some ⟨g, 0, none⟩) := by simpa using hp
  have h3 : tmps.getD 5 undef = u := by simpa using hu
  rw [h2, h3]
  have hl := run_loadVar_row w g 35 35 cs (0, 0) _ hg Try.underlying35 rfl hs
  simp [asAddr, Result.andThen, hl]
set_option maxRecDepth 100000 in
set_option maxHeartbeats 4000000 in
theorem get_any {w : World} {m h b : Nat} {sp sq : Sl} {p : Pg} {L : List Ch} (q : Mem w m h b sp sq p L) (x : Pl) (hx : x.Wide) : Calls Try.prog 14 #[.pointer (some ⟨m, 0, none⟩), .agg x.cs.toArray] w fun e w' => e = .returned (.tuple #[.agg (getP p L x).cs.toArray, .bool (thereP p x)]) ∧ Below w.heap.size w w' := by
  obtain ⟨p1, f1⟩ : ∃ p, w.heap.size = p := ⟨_, rfl⟩
  obtain ⟨W1, ea1⟩ : ∃ W, w.alloc (.cells x.cs.toArray 27) = W := ⟨_, rfl⟩
  have ka1 : Below w.heap.size w W1 := by rw [← ea1]; exact (Below.refl _ w).alloc (Nat.le_refl _) _
  have b1 : Blk W1 p1 27 x.cs.toArray := by rw [← ea1]; exact blk_new w _ 27 _ f1
  have kk : Below w.heap.size w W1 := ka1
  have hp1 : w.heap.size ≤ p1 := Nat.le_of_eq f1
  clear ka1
  obtain ⟨p2, f2⟩ : ∃ p, W1.heap.size = p := ⟨_, rfl⟩
  obtain ⟨W2, ea2⟩ : ∃ W, W1.alloc (.cells #[.int .i64 0, .int .i64 0, .int .i64 0] 35) = W := ⟨_, rfl⟩
  have ka2 : Below W1.heap.size W1 W2 := by rw [← ea2]; exact (Below.refl _ W1).alloc (Nat.le_refl _) _
  have b2 : Blk W2 p2 35 #[.int .i64 0, .int .i64 0, .int .i64 0] := by rw [← ea2]; exact blk_new W1 _ 35 _ f2
  have q1_2 : p1 < p2 := by rw [← f2]; exact b1.lt
  replace b1 := b1.on ka2
  have kk0 := kk
  replace kk := kk.trans (ka2.mono kk.size)
  have hp2 : w.heap.size ≤ p2 := by rw [← f2]; exact kk0.size
  clear ka2 kk0
  replace q := q.on kk
  have c1 := made_any q.mem
  have n2 : p2 ≠ p1 := by omega
  go_enter Try.func14, Try.ntmps14
  go_wp2_with fail
  refine c1.mono ?_
  rintro e w' ⟨rfl, rfl⟩
  clear c1 f1
  go_wp2_with fail
  obtain ⟨wd, ed⟩ : ∃ W, W2.drew = W := ⟨_, rfl⟩
  have hd : Below W2.heap.size W2 wd := by rw [← ed]; exact (Below.refl _ _).drew
  replace b1 := b1.on hd
  replace b2 := b2.on hd
  replace q := q.on hd
  replace kk := kk.trans (hd.mono kk.size)
  clear hd
  have kS : Kept (fun g => False) wd wd := Kept.refl _ _
  have tS : ∀ W, Kept (fun g => False) wd W → W.cell? ⟨m, 0, none⟩ = some (.pointer (some ⟨h, 0, none⟩)) ∧ W.cell? ⟨h, 1, none⟩ = some (.map (some b)) := fun W hW => ⟨(q.mem.kept hW (fun h => h)).cell 0, (q.held.kept hW (fun h => h)).cell 1⟩
  refine wp_region_noPanic ?_
  refine wp_region_held_drew (S := (fun W => Kept (fun g => False) wd W)) (by kernel_rfl) (by rw [ed]; exact kS) (fun hHeld => ?_)
  rw [ed] at hHeld ⊢
  refine wpAnyH_take (i := 0) (oi := ⟨some 13, _, _, _, _, _⟩) (v := ?_) rfl (by kernel_rfl) (by kernel_rfl) (by kernel_rfl) (fun _ _ _ h => h) (Or.inl ⟨by rfl, ?_⟩) (by assumption) ?_
  rotate_left 1
  · (intro W hSw; go_simp <;> with_reducible rfl)
  try simp only [Act.put, List.setIfInBounds_toArray, List.set_cons_zero, List.set_cons_succ]
  refine wpAnyH_take (i := 1) (oi := ⟨some 14, _, _, _, _, _⟩) (v := ?_) rfl (by kernel_rfl) (by kernel_rfl) (by kernel_rfl) (fun _ _ _ h => h) (Or.inl ⟨by rfl, ?_⟩) (by assumption) ?_
  rotate_left 1
  · (intro W hSw; go_simp <;> with_reducible rfl)
  try simp only [Act.put, List.setIfInBounds_toArray, List.set_cons_zero, List.set_cons_succ]
  refine wpAnyH_take (i := 2) (oi := ⟨some 15, _, _, _, _, _⟩) (v := ?_) rfl (by kernel_rfl) (by kernel_rfl) (by kernel_rfl) (fun _ _ _ h => h) (Or.inl ⟨by rfl, ?_⟩) (by assumption) ?_
  rotate_left 1
  · (intro W hSw; go_simp <;> with_reducible rfl)
  try simp only [Act.put, List.setIfInBounds_toArray, List.set_cons_zero, List.set_cons_succ]
  refine wpAnyH_take (i := 3) (oi := ⟨some 16, _, _, _, _, _⟩) (v := ?_) rfl (by kernel_rfl) (by kernel_rfl) (by kernel_rfl) (fun _ _ _ h => h) (Or.inl ⟨by rfl, ?_⟩) (by assumption) ?_
  rotate_left 1
  · (intro W hSw; obtain ⟨q0, q1⟩ := tS W hSw; go_simp <;> with_reducible rfl)
  try simp only [Act.put, List.setIfInBounds_toArray, List.set_cons_zero, List.set_cons_succ]
  refine wpAnyH_take (i := 4) (oi := ⟨some 17, _, _, _, _, _⟩) (v := ?_) rfl (by kernel_rfl) (by kernel_rfl) (by kernel_rfl) (fun _ _ _ h => h) (Or.inl ⟨by rfl, ?_⟩) (by assumption) ?_
  rotate_left 1
  · (intro W hSw; go_simp <;> with_reducible rfl)
  try simp only [Act.put, List.setIfInBounds_toArray, List.set_cons_zero, List.set_cons_succ]
  refine wpAnyH_take (i := 5) (oi := ⟨some 18, _, _, _, _, _⟩) (v := ?_) rfl (by kernel_rfl) (by kernel_rfl) (by kernel_rfl) (fun _ _ _ h => h) (Or.inl ⟨by rfl, ?_⟩) (by assumption) ?_
  rotate_left 1
  · (intro W hSw; go_simp <;> with_reducible rfl)
  try simp only [Act.put, List.setIfInBounds_toArray, List.set_cons_zero, List.set_cons_succ]
  refine wpAnyH_take (i := 6) (oi := ⟨some 19, _, _, _, _, _⟩) (v := ?_) rfl (by kernel_rfl) (by kernel_rfl) (by kernel_rfl) (fun _ _ _ h => h) (Or.inl ⟨by rfl, ?_⟩) (by assumption) ?_
  rotate_left 1
  · (intro W hSw; obtain ⟨q0, q1⟩ := tS W hSw; go_simp <;> with_reducible rfl)
  try simp only [Act.put, List.setIfInBounds_toArray, List.set_cons_zero, List.set_cons_succ]
  refine wpAnyH_take (i := 7) (oi := ⟨some 20, _, _, _, _, _⟩) (v := .agg (List.toArray (x.cs))) rfl (by kernel_rfl) (by kernel_rfl) (by kernel_rfl) (fun _ _ _ h => h) (yieldsIf_load_mid (by rfl) 27 (.tmp 3) rfl p1 (0) rfl (x.cs) _ (fun W hW => range_part (b1.kept hW (fun h => h)) 0 x.cs rfl) Try.underlying27 rfl size27) (by assumption) ?_
  try simp only [Act.put, List.setIfInBounds_toArray, List.set_cons_zero, List.set_cons_succ]
  refine wpAnyH_take (i := 8) (oi := ⟨some 21, _, _, _, _, _⟩) (v := (.tuple #[.agg (getP p L x).cs.toArray, .bool (thereP p x)])) rfl (by kernel_rfl) (by kernel_rfl) (by kernel_rfl) (fun _ _ _ h => h) (yieldsIf_look (by rfl) _ _ _ rfl b x _ rfl rfl (fun W hW => by have := (q.map.kept hW (fun h => h)).look hx; rw [memF_some] at this; exact this)) (by assumption) ?_
  try simp only [Act.put, List.setIfInBounds_toArray, List.set_cons_zero, List.set_cons_succ]
  refine wpAnyH_take (i := 9) (oi := ⟨some 12, _, _, _, _, _⟩) (v := ?_) rfl (by kernel_rfl) (by kernel_rfl) (by kernel_rfl) (fun _ _ _ h => h) (Or.inl ⟨by rfl, ?_⟩) (by assumption) ?_
  rotate_left 1
  · (intro W hSw; go_simp <;> with_reducible rfl)
  try simp only [Act.put, List.setIfInBounds_toArray, List.set_cons_zero, List.set_cons_succ]
  refine wpAnyH_take (i := 10) (oi := ⟨some 22, _, _, _, _, _⟩) (v := ?_) rfl (by kernel_rfl) (by kernel_rfl) (by kernel_rfl) (fun _ _ _ h => h) (Or.inl ⟨by rfl, ?_⟩) (by assumption) ?_
  rotate_left 1
  · (intro W hSw; go_simp <;> with_reducible rfl)
  try simp only [Act.put, List.setIfInBounds_toArray, List.set_cons_zero, List.set_cons_succ]
  refine wpAnyH_take (i := 11) (oi := ⟨some 23, _, _, _, _, _⟩) (v := ?_) rfl (by kernel_rfl) (by kernel_rfl) (by kernel_rfl) (fun _ _ _ h => h) (Or.inl ⟨by rfl, ?_⟩) (by assumption) ?_
  rotate_left 1
  · (intro W hSw; go_simp <;> with_reducible rfl)
  try simp only [Act.put, List.setIfInBounds_toArray, List.set_cons_zero, List.set_cons_succ]
  refine wpAnyH_ready (rs := [12]) (by kernel_rfl) (by simp) ?_
  refine AllReadyH.cons (o := ⟨some 6, _, _, _, _, _⟩) rfl (fun K hK => ?_) AllReadyH.nil
  go_simp
  obtain ⟨w1, ew1⟩ : ∃ zz, zz = wd.alloc (.cells #[.int .i64 0, .int .i64 0, .int .i64 0] 35) := ⟨_, rfl⟩
  have hb1 : Below wd.heap.size wd w1 := by rw [ew1]; exact (Below.refl _ _).alloc (Nat.le_refl _) _
  rw [← ew1]
  have nb1 : Blk w1 wd.heap.size 35 #[.int .i64 0, .int .i64 0, .int .i64 0] := by rw [ew1]; exact blk_new _ _ 35 _ rfl
  have b1_1 := b1.on hb1
  have b2_1 := b2.on hb1
  have q_1 := q.on hb1
  have kk_1 := kk.trans (hb1.mono kk.size)
  have S1 : (fun W => Kept (fun g => False) wd W) w1 := Kept.next kS (kept_below (fun _ => False) hb1) (fun _ h => h.elim)
  refine hK.out _ _ S1 (fun h1 => ?_)
  clear hHeld hK K ew1
  try simp only [Act.put, List.setIfInBounds_toArray, List.set_cons_zero, List.set_cons_succ]
  refine wpAnyH_ready (rs := [13]) (by kernel_rfl) (by simp) ?_
  refine AllReadyH.cons (o := ⟨none, _, _, _, _, _⟩) rfl (fun K hK => ?_) AllReadyH.nil
  rw [if_pos (by rfl)]
  refine wp_store_row 35 (.tmp 6) (.tmp 22) rfl _ (getP p L x).cs.toArray rfl rfl 35 #[.int .i64 0, .int .i64 0, .int .i64 0] nb1 size35 rfl (Wd.onea _) ?_
  refine hK.out _ _ (Kept.next S1 (kept_row _ _ _) (fun g h => .inr (by subst h; exact Nat.le_refl _))) (fun h2 => ?_)
  clear h1 hK K
  try simp only [Act.put]
  refine wpAnyH_take (i := 14) (oi := ⟨some 7, _, _, _, _, _⟩) (v := ?_) rfl (by kernel_rfl) (by kernel_rfl) (by kernel_rfl) (fun _ _ _ h => h) (Or.inl ⟨by rfl, ?_⟩) (by assumption) ?_
  rotate_left 1
  · (intro W hSw; go_simp <;> with_reducible rfl)
  try simp only [Act.put, List.setIfInBounds_toArray, List.set_cons_zero, List.set_cons_succ]
  refine wpAnyH_done (by kernel_rfl) ?_ _
  refine NoPanic.normal ?_
  obtain ⟨W3, es3⟩ : ∃ W, w1.setRow wd.heap.size (getP p L x).cs.toArray = W := ⟨_, rfl⟩
  rw [es3]
  have bz := row_named (cs' := (getP p L x).cs.toArray) nb1 es3
  have by2 := row_far b2_1 es3 (by have := b2.lt; omega)
  have ky := kk_1.trans (row_below es3 kk.size kk_1.size)
  obtain ⟨W4, es4⟩ : ∃ W, W3.setRow p2 (getP p L x).cs.toArray = W := ⟨_, rfl⟩
  have b4 := row_named (cs' := (getP p L x).cs.toArray) by2 es4
  go_wp2_with (first | ((with_reducible refine at_load 35 (.tmp 6) ?_); refine wpList_load_row rfl 35 (.tmp 6) rfl wd.heap.size rfl 35 (getP p L x).cs.toArray (0, 0) _ bz Try.underlying35 rfl size35 ?_) | ((with_reducible refine at_store 35 (.tmp 4) (.tmp 24) ?_); refine wpList_store_row rfl 35 (.tmp 4) (.tmp 24) rfl p2 (getP p L x).cs.toArray rfl rfl 35 #[.int .i64 0, .int .i64 0, .int .i64 0] by2 size35 rfl (Wd.onea _) ?_; rw [es4]))
  refine bodyPost_ret (res14 _ _ _ _ _ rfl rfl b4 size35) rfl ?_
  exact ⟨rfl, ky.trans (row_below es4 hp2 ky.size)⟩
end Go.Proofs.Ytlajjadpcaobiaa
