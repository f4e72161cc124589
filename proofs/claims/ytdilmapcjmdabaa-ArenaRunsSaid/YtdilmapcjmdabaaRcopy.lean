/- The reference's lists are copied. Conditions: at most 1000 elements. -/
import Derived.Test.YtdilmapcjmdabaaRef
namespace Go.Proofs.Ytdilmapcjmdabaa
open Go.ChangeShapes Go.WideShapes Go.RowKit
section
variable {w w' : World} {r : Rim} {s : Sta}
theorem load31 {g : Nat} {a b : Value} (hg : Blk w g 31 #[a, b]) : (loadVar 31 ⟨g, 0, none⟩).run Try.prog w = .ok (.agg #[a, b]) w :=
  run_loadVar_row w g 31 31 _ (0, 0) _ hg Try.underlying31 rfl size31
theorem blk_set {g : Nat} {t : TypeId} {cs : Array Value} (h : Blk w g t cs) (i : Nat) (v : Value) : Blk (w.setCell ⟨g, i, none⟩ v) g t (cs.setIfInBounds i v) := heap_setCell_same w g i cs t v h
theorem blk_far {g g' : Nat} {t : TypeId} {cs : Array Value} (h : Blk w g t cs) (hg : g ≠ g') (i : Nat) (v : Value) : Blk (w.setCell ⟨g', i, none⟩ v) g t cs := (Below.heap_setCell _ _ _ _ hg).trans h
theorem blk_new (w : World) (cs : Array Value) (t : TypeId) (n : Nat) (hn : w.heap.size = n) : Blk (w.alloc (.cells cs t)) n t cs := by
  subst hn
  exact heap_alloc_new w _
theorem blk_grown {g : Nat} {t : TypeId} {cs : Array Value} {row : Option Nat} (h : Blk w g t cs) (hg : w.grownBy w' row) (hr : some g ≠ row) : Blk w' g t cs := (hg.block g h.lt hr).trans h
set_option maxRecDepth 100000 in
set_option maxHeartbeats 1000000 in
theorem copy_any (h : Ref w r s) (hn : r.n ≤ 1000) (hm : r.m ≤ 1000) : Calls Try.prog 54 #[.agg r.cs] w fun e w' => ∃ r', e = .returned (.agg r'.cs) ∧ r'.n = r.n ∧ r'.m = r.m ∧ NewR s w r' w' := by
  obtain ⟨i0, hi, hz0, hz1, hz2⟩ := info_parts info45
  obtain ⟨i3, hi3, ha0, ha1, ha2⟩ := info_parts info3
  have bel : ∀ (W : World) o, Below W.heap.size W (W.alloc o) := fun W o => (Below.refl _ W).alloc (Nat.le_refl _) o
  obtain ⟨W0, eW0⟩ : ∃ W, W = ((w.alloc (.cells #[.slice r.Ac r.n r.cc, .slice r.Ar r.m r.cr] 31)).alloc (.cells #[.slice none 0 0, .slice none 0 0] 31)).alloc (.cells #[.slice none 0 0, .slice none 0 0] 31) := ⟨_, rfl⟩
  have hb0 : Below w.heap.size w W0 := by rw [eW0]; exact (((Below.refl _ w).alloc (Nat.le_refl _) _).alloc (by simp) _).alloc (by simp; omega) _
  have g1 : Blk W0 w.heap.size 31 #[.slice r.Ac r.n r.cc, .slice r.Ar r.m r.cr] := by rw [eW0]; exact ((blk_new w _ 31 w.heap.size rfl).on (bel _ _)).on (bel _ _)
  have g2 : Blk W0 (w.heap.size + 1) 31 #[.slice none 0 0, .slice none 0 0] := by rw [eW0]; exact (blk_new _ _ 31 _ (by simp)).on (bel _ _)
  have g3 : Blk W0 (w.heap.size + 1 + 1) 31 #[.slice none 0 0, .slice none 0 0] := by rw [eW0]; exact blk_new _ _ 31 _ (by simp)
  have h0 := h.below hb0
  have hs0 : W0.heap.size = w.heap.size + 3 := by rw [eW0]; simp
  have c10 : W0.cell? ⟨w.heap.size, 0, none⟩ = some (.slice r.Ac r.n r.cc) := g1.cell 0
  have c30 : W0.cell? ⟨w.heap.size + 1 + 1, 0, none⟩ = some (.slice none 0 0) := g3.cell 0
  have hsee := own_sees h0.cells
  have hle : w.heap.size ≤ W0.heap.size := by omega
  have d10 := c10
  have d30 := c30
  rw [eW0] at d10 d30
  have HG := Lib.hid (And.intro g1 (And.intro g2 g3))
  have HS := Lib.hid hs0
  clear g1 g2 g3 hs0
  unfold Rim.cs
  go_enter Try.func54, Try.ntmps54
  go_wp2_with (first
    | (rw [← eW0]; clear eW0 d10 d30
       refine wpList_app rfl _ _ 28 rfl w.heap.size 45 i0 (.agg noC.cs.toArray) 10 80 Try.underlying28 hi hz0 hz1 hz2 rfl (by decide) none 0 0 [] rfl (World.ownsRow_nil _ _ _ _) r.Ac r.n r.cc (flatC s.C) rfl hsee (flat_one Cel.one _) (by unfold maxLen; omega) (by omega) hle ?_
       intro A1 c1 w1 ho1 hg1 hl1
       obtain ⟨g1, g2, g3⟩ := HG.out
       have p1 := blk_grown g1 hg1 (by simp [Value.ownBlock])
       have p2 := blk_grown g2 hg1 (by simp [Value.ownBlock])
       have p3 := blk_grown g3 hg1 (by simp [Value.ownBlock])
       have q11 : w1.cell? ⟨w.heap.size, 1, none⟩ = some (.slice r.Ar r.m r.cr) := p1.cell 1
       have q30 : w1.cell? ⟨w.heap.size + 1 + 1, 0, none⟩ = some (.slice none 0 0) := p3.cell 0
       have q31 : w1.cell? ⟨w.heap.size + 1 + 1, 1, none⟩ = some (.slice none 0 0) := p3.cell 1
       have f30 := p3.free 0
       rw [Nat.zero_add, List.nil_append] at ho1
       have r1 : Sees w1 1 r.Ar r.m r.cr (ints s.R) := h0.row.kept (kept_grown hg1) (fun g _ e => by simp [Value.ownBlock] at e)
       have hz1 : W0.heap.size ≤ w1.heap.size := hg1.size
       have hb1 : Below w.heap.size w w1 := hb0.trans ((kept_grown hg1).under _ hle (fun k e => by simp [Value.ownBlock] at e))
       have p12 := blk_far p1 (by omega : w.heap.size ≠ w.heap.size + 1 + 1) 0 (.slice A1 r.n c1)
       have p22 := blk_far p2 (by omega : w.heap.size + 1 ≠ w.heap.size + 1 + 1) 0 (.slice A1 r.n c1)
       have p32 : Blk (w1.setCell ⟨w.heap.size + 1 + 1, 0, none⟩ (.slice A1 r.n c1)) (w.heap.size + 1 + 1) 31 #[.slice A1 r.n c1, .slice none 0 0] := blk_set p3 0 _
       have k2 := kept_cell w1 ⟨w.heap.size + 1 + 1, 0, none⟩ (.slice A1 r.n c1)
       have r2 := r1.kept k2 (fun g hg e => by have := h.row.lt g hg; have e : g = w.heap.size + 1 + 1 := e; omega)
       have ho2 := own_kept (own_low ho1) k2 (fun g hg e => by subst e; exact own_off (own_low ho1) p3 (by decide) hg)
       have hb2 : Below w.heap.size w (w1.setCell ⟨w.heap.size + 1 + 1, 0, none⟩ (.slice A1 r.n c1)) := hb1.setCell (p := ⟨w.heap.size + 1 + 1, 0, none⟩) (by show w.heap.size ≤ w.heap.size + 1 + 1; omega) _
       have hn1 := own_new ho1
       have HP := Lib.hid (And.intro p12 (And.intro p22 (And.intro p32 (And.intro r2 (And.intro ho2 hb2)))))
       clear p1 p2 p3 g1 g2 g3 p12 p22 p32 r1 k2 r2 ho2 hb2 ho1 hg1 hb1 hl1 hsee)
    | (obtain ⟨p12, p22, p32, r2, ho2, hb2⟩ := HP.out
       refine wpList_app rfl _ _ 29 rfl w.heap.size 3 i3 (.int .i64 0) 1 8 Try.underlying29 hi3 ha0 ha1 ha2 rfl (by decide) none 0 0 [] rfl (World.ownsRow_nil _ _ _ _) r.Ar r.m r.cr (ints s.R) rfl r2 (flat_one (fun x => by simp [Value.oneCell']) _) (by unfold maxLen; omega) (by omega) hb2.size ?_
       intro A2 c2 w3 ho3 hg3 hl3
       have p13 := blk_grown p12 hg3 (by simp [Value.ownBlock])
       have p23 := blk_grown p22 hg3 (by simp [Value.ownBlock])
       have p33 := blk_grown p32 hg3 (by simp [Value.ownBlock])
       have q31 : w3.cell? ⟨w.heap.size + 1 + 1, 1, none⟩ = some (.slice none 0 0) := p33.cell 1
       have f31 := p33.free 1
       rw [Nat.zero_add, List.nil_append] at ho3
       have ho4 := own_kept ho2 (kept_grown hg3) (fun g _ e => by simp [Value.ownBlock] at e)
       have hb3 := hb2.trans ((kept_grown hg3).under w.heap.size hb2.size (fun k e => by simp [Value.ownBlock] at e))
       have p24 := blk_far p23 (by omega : w.heap.size + 1 ≠ w.heap.size + 1 + 1) 1 (.slice A2 r.m c2)
       have p34 : Blk (w3.setCell ⟨w.heap.size + 1 + 1, 1, none⟩ (.slice A2 r.m c2)) (w.heap.size + 1 + 1) 31 #[.slice A1 r.n c1, .slice A2 r.m c2] := blk_set p33 1 _
       have k4 := kept_cell w3 ⟨w.heap.size + 1 + 1, 1, none⟩ (.slice A2 r.m c2)
       have ho5 := own_kept ho4 k4 (fun g hg e => by subst e; exact own_off ho4 p33 (by decide) hg)
       have ho6 := own_kept (own_low ho3) k4 (fun g hg e => by subst e; exact own_off (own_low ho3) p33 (by decide) hg)
       have hb4 : Below w.heap.size w (w3.setCell ⟨w.heap.size + 1 + 1, 1, none⟩ (.slice A2 r.m c2)) := hb3.setCell (p := ⟨w.heap.size + 1 + 1, 1, none⟩) (by show w.heap.size ≤ w.heap.size + 1 + 1; omega) _
       have hn3 := own_new ho3
       clear HP p12 p22 p32 r2 ho2 hb2 hg3 hl3 p13 p23 p33 ho4 hb3 k4 ho3)
    | (refine wpList_load_row rfl 31 (.tmp 3) rfl (w.heap.size + 1 + 1) rfl 31 #[.slice A1 r.n c1, .slice A2 r.m c2] (0, 0) _ p34 Try.underlying31 rfl size31 ?_)
    | (refine wpList_store_row rfl 31 (.tmp 2) (.tmp 16) rfl (w.heap.size + 1) #[.slice A1 r.n c1, .slice A2 r.m c2] rfl rfl 31 #[.slice none 0 0, .slice none 0 0] p24 size31 rfl (by simp [Value.oneCell']) ?_))
  have k5 := kept_row (w3.setCell ⟨w.heap.size + 1 + 1, 1, none⟩ (.slice A2 r.m c2)) (w.heap.size + 1) #[.slice A1 r.n c1, .slice A2 r.m c2]
  have ho7 := own_kept ho5 k5 (fun g hg e => by subst e; exact own_off ho5 p24 (by decide) hg)
  have ho8 := own_kept ho6 k5 (fun g hg e => by subst e; exact own_off ho6 p24 (by decide) hg)
  refine bodyPost_ret (results_cell_row (cs := #[.slice A1 r.n c1, .slice A2 r.m c2]) rfl _ _ (w.heap.size + 1) 31 (0, 0) _ rfl (setRow_heap _ _ _ _ _ _ p24) Try.underlying31 rfl size31) rfl ?_
  refine ⟨⟨A1, c1, r.n, A2, c2, r.m⟩, rfl, rfl, rfl, ⟨ho7, own_sees ho8, fun g e e2 => by
    obtain ⟨cs, hb⟩ := own_blk ho8 e2
    exact own_off ho7 hb (by decide) e⟩, below_setRow hb4 (Nat.le_succ _) _, ?_⟩
  rintro g (e | e)
  · exact hn1 g e
  · exact hn3 g e
end
end Go.Proofs.Ytdilmapcjmdabaa
