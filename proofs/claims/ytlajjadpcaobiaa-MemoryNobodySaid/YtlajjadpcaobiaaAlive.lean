/- The statements' small trial comes out true; what a law keeps of a memory that it made. Conditions: none. -/
import Derived.Test.YtlajjadpcaobiaaTold
namespace Go.Proofs.Ytlajjadpcaobiaa
open Go.RowKit Go.ChangeShapes Go.WideShapes

/-- A memory and a list of Puts that the call made, and that stand alike. -/
structure Run (w W : World) (m h b : Nat) (sp sq : Sl) (p : Pg) (A : Option Addr) (n cap : Nat) (L : List Ch) : Prop where
  mem : Mem W m h b sp sq p L
  lst : Own 37 W 0 A n cap L
  far : ∀ g, foot m h b sp sq g → w.heap.size ≤ g
  lfar : ∀ g, blk A = some g → w.heap.size ≤ g
  below : Below w.heap.size w W
section
variable {w W W' : World} {m h b n cap n' cap' : Nat} {sp sq sq' : Sl} {p : Pg} {A A' : Option Addr} {L L' : List Ch}
theorem Run.on (q : Run w W m h b sp sq p A n cap L) (hb : Below W.heap.size W W') : Run w W' m h b sp sq p A n cap L :=
  ⟨q.mem.on hb, q.lst.below hb, q.far, q.lfar, q.below.trans (hb.mono q.below.size)⟩
theorem foot_new (h1 : ∀ g, blk sq'.A = some g → blk sq.A = some g ∨ W.heap.size ≤ g) (hs : w.heap.size ≤ W.heap.size) (hf : ∀ g, foot m h b sp sq g → w.heap.size ≤ g) : ∀ g, foot m h b sp sq' g → w.heap.size ≤ g := fun g hg => by
  rcases hg with e | e | e | e | e
  · exact hf g (.inl e)
  · exact hf g (.inr (.inl e))
  · exact hf g (.inr (.inr (.inl e)))
  · exact hf g (.inr (.inr (.inr (.inl e))))
  · exact (h1 g e).elim (fun e => hf g (.inr (.inr (.inr (.inr e))))) (fun e => Nat.le_trans hs e)
theorem Run.put (q : Run w W m h b sp sq p A n cap L) (k : Both W W' m h b sp sq sq' p A A' n' cap' L') : Run w W' m h b sp sq' p A' n' cap' L' :=
  ⟨k.mem, k.list, foot_new k.past q.below.size q.far, fun g e => (k.lst g e).elim (q.lfar g) (fun e => Nat.le_trans q.below.size e),
    q.below.trans (k.kept.under _ q.below.size (fun g e => e.elim (fun e => q.far g (turned_foot e)) (fun e => q.lfar g e)))⟩
theorem Both.blk {g : Nat} {t : TypeId} {cs : Array Value} (k : Both W W' m h b sp sq sq' p A A' n' cap' L') (q : Mem W m h b sp sq p L) (hl : Own 37 W 0 A n cap L) (hg : Blk W g t cs) (ht : t ≠ 62 ∧ t ≠ 74) (ht2 : t ≠ 37) : Blk W' g t cs :=
  hg.kept k.kept (fun e => e.elim (q.noturned hg ht) (fun e => hl.box hg ht2 e.symm))
end
theorem kept_rowe {w W : World} {g : Nat} {cs : Array Value} (e : w.setRow g cs = W) : Kept (fun k => k = g) w W := by
  subst e
  exact kept_row w g cs
theorem there_root (A : Option Addr) : thereP ⟨1, 0, 0, A, 1, 1⟩ ⟨1, 0, 0⟩ = true := rfl
theorem at_five : atP [⟨⟨1, 0, 0⟩, ⟨5, 0, 0⟩⟩] ⟨1, 0, 0⟩ = ⟨5, 0, 0⟩ := by decide
theorem roots_one (A : Option Addr) : (allW ⟨1, 0, 0, A, 1, 1⟩ [] 1).length = 1 := by
  rw [all_root]
  rfl
set_option maxRecDepth 100000 in
set_option maxHeartbeats 4000000 in
theorem alive_any (w : World) : Calls Try.prog 7 #[] w fun e w' => e = .returned (.bool true) ∧ Below w.heap.size w w' := by
  go_enter Try.func7, Try.ntmps7
  go_wp2_with fail
  have kk : Below w.heap.size w ((w.alloc (.cells #[] 105)).alloc (.cells #[.slice (some ⟨w.heap.size, 0, none⟩) 0 0] 57)) := ((Below.refl _ w).alloc (Nat.le_refl _) _).alloc (by simp) _
  have hp : Pg.Ok ⟨1, 0, 0, some ⟨w.heap.size + 1, 0, none⟩, 1, 1⟩ := ⟨Nat.le_refl _, by show 1 ≤ maxLen; unfold maxLen; omega⟩
  refine (new_any ⟨1, 0, 0, some ⟨w.heap.size + 1, 0, none⟩, 1, 1⟩ hp _).mono ?_
  rintro e W1 ⟨m, h, b, sp, rfl, q, hfar, k1⟩
  have hfar2 : ∀ g, foot m h b sp ⟨none, 0, 0⟩ g → w.heap.size ≤ g := fun g hg => Nat.le_trans kk.size (hfar g hg)
  replace kk := kk.trans (k1.mono kk.size)
  clear k1 hfar
  have hth := there_root (some ⟨w.heap.size + 1, 0, none⟩)
  have hro := roots_one (some ⟨w.heap.size + 1, 0, none⟩)
  generalize hA : (some (⟨w.heap.size + 1, 0, none⟩ : Addr)) = AA at *
  have hxw : (⟨1, 0, 0⟩ : Pl).Wide := there_wide hth
  have nf0 : ∀ g, foot m h b sp ⟨none, 0, 0⟩ g → g < W1.heap.size := fun g hg => q.lt hg
  obtain ⟨p1, f1⟩ : ∃ p, W1.heap.size = p := ⟨_, rfl⟩
  obtain ⟨W2, ea2⟩ : ∃ W, W1.alloc (.cells #[.int .i64 0, .int .i64 0, .int .i64 0] 27) = W := ⟨_, rfl⟩
  have ka2 : Below W1.heap.size W1 W2 := by rw [← ea2]; exact (Below.refl _ W1).alloc (Nat.le_refl _) _
  have b1 : Blk W2 p1 27 #[.int .i64 0, .int .i64 0, .int .i64 0] := by rw [← ea2]; exact blk_new W1 _ 27 _ f1
  replace q := q.on ka2
  have kk0 := kk
  replace kk := kk.trans (ka2.mono kk.size)
  have hp1 : w.heap.size ≤ p1 := by rw [← f1]; exact kk0.size
  clear ka2 kk0
  have nf1 : ¬ foot m h b sp ⟨none, 0, 0⟩ p1 := fun e => by have := nf0 _ e; omega
  obtain ⟨W3, es3⟩ : ∃ W, W2.setRow p1 (Pl.mk 1 0 0).cs.toArray = W := ⟨_, rfl⟩
  have bo1 := b1
  replace b1 : Blk W3 p1 27 (Pl.mk 1 0 0).cs.toArray := row_named b1 es3
  replace q := q.kept (kept_rowe es3) (fun g hg e => nf1 (by rw [← e]; exact hg))
  replace kk := kk.trans (row_below es3 hp1 kk.size)
  have lb1 := b1
  go_wp2_with (first | ((with_reducible refine at_store 27 (.tmp 2) (.tmp 13) ?_); refine wpList_store_row rfl 27 (.tmp 2) (.tmp 13) rfl p1 (Pl.mk 1 0 0).cs.toArray rfl rfl 27 #[.int .i64 0, .int .i64 0, .int .i64 0] bo1 size27 rfl (Pl.onea _) ?_; rw [es3]) | ((with_reducible refine at_load 27 (.tmp 2) ?_); refine wpList_load_row rfl 27 (.tmp 2) rfl p1 rfl 27 (Pl.mk 1 0 0).cs.toArray (0, 0) _ lb1 Try.underlying27 rfl size27 ?_))
  refine (put_any q (by simp) ⟨1, 0, 0⟩ ⟨5, 0, 0⟩ hxw).mono ?_
  rintro e W4 ⟨rfl, _, h3⟩
  obtain ⟨A3, c3, q3, hp3, k3⟩ := h3 hth
  replace b1 := b1.kept k3 (q.noturned b1 (by decide))
  have hfar3 := foot_new (sq' := ⟨A3, 1, c3⟩) hp3 kk.size hfar2
  have kk3 := kk.trans (k3.under _ kk.size (fun g e => hfar2 g (turned_foot e)))
  clear h3 hp3 k3 q kk hfar2 lb1
  rw [hth]
  simp only [List.nil_append] at q3
  have kk := kk3
  clear kk3
  have q := q3
  clear q3
  go_wp2_with (((with_reducible refine at_load 27 (.tmp 2) ?_); refine wpList_load_row rfl 27 (.tmp 2) rfl p1 rfl 27 (Pl.mk 1 0 0).cs.toArray (0, 0) _ b1 Try.underlying27 rfl size27 ?_))
  have c4 := get_any q ⟨1, 0, 0⟩ hxw
  rw [getP_there hth, at_five, hth] at c4
  refine (c4).mono ?_
  rintro e W5 ⟨rfl, k4⟩
  replace b1 := b1.on k4
  replace q := q.on k4
  replace kk := kk.trans (k4.mono kk.size)
  clear k4
  clear c4
  obtain ⟨p2, f2⟩ : ∃ p, W5.heap.size = p := ⟨_, rfl⟩
  obtain ⟨W6, ea6⟩ : ∃ W, W5.alloc (.cells #[.int .i64 0, .int .i64 0, .int .i64 0] 35) = W := ⟨_, rfl⟩
  have ka6 : Below W5.heap.size W5 W6 := by rw [← ea6]; exact (Below.refl _ W5).alloc (Nat.le_refl _) _
  have b2 : Blk W6 p2 35 #[.int .i64 0, .int .i64 0, .int .i64 0] := by rw [← ea6]; exact blk_new W5 _ 35 _ f2
  have q1_2 : p1 < p2 := by rw [← f2]; exact b1.lt
  replace b1 := b1.on ka6
  replace q := q.on ka6
  have kk0 := kk
  replace kk := kk.trans (ka6.mono kk.size)
  have hp2 : w.heap.size ≤ p2 := by rw [← f2]; exact kk0.size
  clear ka6 kk0
  obtain ⟨W7, es7⟩ : ∃ W, W6.setRow p2 (Wd.mk 5 0 0).cs.toArray = W := ⟨_, rfl⟩
  have bo2 := b2
  replace q := q.row b2 (by decide) es7
  replace b1 := row_far b1 es7 (by omega)
  replace b2 : Blk W7 p2 35 (Wd.mk 5 0 0).cs.toArray := row_named b2 es7
  replace kk := kk.trans (row_below es7 hp2 kk.size)
  go_wp2_with (first | ((with_reducible refine at_store 35 (.tmp 4) (.tmp 22) ?_); refine wpList_store_row rfl 35 (.tmp 4) (.tmp 22) rfl p2 (Wd.mk 5 0 0).cs.toArray rfl rfl 35 #[.int .i64 0, .int .i64 0, .int .i64 0] bo2 size35 rfl (Wd.onea _) ?_; rw [es7]))
  refine (undo_yes q 0 (by simp) (Nat.zero_le _)).mono ?_
  rintro e W9 ⟨rfl, q9, k9⟩
  have nt1 := q.noturned b1 (by decide)
  have nt2 := q.noturned b2 (by decide)
  replace b1 := b1.kept k9 nt1
  replace b2 := b2.kept k9 nt2
  replace kk := kk.trans (k9.under _ kk.size (fun g e => hfar3 g (turned_foot e)))
  clear k9 q nt1 nt2
  have q : Mem W9 m h b sp ⟨A3, 0, c3⟩ _ [] := q9
  clear q9
  go_wp2_with (((with_reducible refine at_load 27 (.tmp 2) ?_); refine wpList_load_row rfl 27 (.tmp 2) rfl p1 rfl 27 (Pl.mk 1 0 0).cs.toArray (0, 0) _ b1 Try.underlying27 rfl size27 ?_))
  have c4 := get_any q ⟨1, 0, 0⟩ hxw
  rw [getP_there hth, at_nil, hth] at c4
  refine (c4).mono ?_
  rintro e W10 ⟨rfl, k4⟩
  replace b1 := b1.on k4
  replace b2 := b2.on k4
  replace q := q.on k4
  replace kk := kk.trans (k4.mono kk.size)
  clear k4
  clear c4
  obtain ⟨p3, f3⟩ : ∃ p, W10.heap.size = p := ⟨_, rfl⟩
  obtain ⟨W11, ea11⟩ : ∃ W, W10.alloc (.cells #[.int .i64 0, .int .i64 0, .int .i64 0] 35) = W := ⟨_, rfl⟩
  have ka11 : Below W10.heap.size W10 W11 := by rw [← ea11]; exact (Below.refl _ W10).alloc (Nat.le_refl _) _
  have b3 : Blk W11 p3 35 #[.int .i64 0, .int .i64 0, .int .i64 0] := by rw [← ea11]; exact blk_new W10 _ 35 _ f3
  have q1_3 : p1 < p3 := by rw [← f3]; exact b1.lt
  replace b1 := b1.on ka11
  have q2_3 : p2 < p3 := by rw [← f3]; exact b2.lt
  replace b2 := b2.on ka11
  replace q := q.on ka11
  have kk0 := kk
  replace kk := kk.trans (ka11.mono kk.size)
  have hp3 : w.heap.size ≤ p3 := by rw [← f3]; exact kk0.size
  clear ka11 kk0
  obtain ⟨W12, es12⟩ : ∃ W, W11.setRow p3 noW.cs.toArray = W := ⟨_, rfl⟩
  have bo3 := b3
  replace q := q.row b3 (by decide) es12
  replace b1 := row_far b1 es12 (by omega)
  replace b2 := row_far b2 es12 (by omega)
  replace b3 : Blk W12 p3 35 noW.cs.toArray := row_named b3 es12
  replace kk := kk.trans (row_below es12 hp3 kk.size)
  have u0 : W12.cell? ⟨p2, 0, none⟩ = some (.int .i64 5) := b2.cell 0
  have u1 : W12.cell? ⟨p3, 0, none⟩ = some (.int .i64 0) := b3.cell 0
  have c9 := roots_any q
  rw [hro] at c9
  go_wp2_with (first | ((with_reducible refine at_store 35 (.tmp 7) (.tmp 30) ?_); refine wpList_store_row rfl 35 (.tmp 7) (.tmp 30) rfl p3 noW.cs.toArray rfl rfl 35 #[.int .i64 0, .int .i64 0, .int .i64 0] bo3 size35 rfl (Wd.onea _) ?_; rw [es12]))
  refine c9.mono ?_
  rintro e wz ⟨Az, cz, rfl, _, kz⟩
  go_wp2
  go_ret
  exact ⟨rfl, kk.trans (kz.mono kk.size)⟩
end Go.Proofs.Ytlajjadpcaobiaa
