/- An arena stands as the lists say. Conditions: at most 1000 changes. -/
import Derived.Test.YtdilmapcjmdabaaPlain
import Derived.Test.YtdilmapcjmdabaaRbase
namespace Go.Proofs.Ytdilmapcjmdabaa
open Go.ChangeShapes Go.WideShapes Go.RowKit
section
variable {w w' : World} {p : Nat} {L : Lim} {s : Sta} {P : List Chg} {r : Rim}
set_option maxRecDepth 100000 in
set_option maxHeartbeats 1000000 in
theorem told_any (h : Are w p L s.C s.R P) (hr : Ref w r s) (hI : Inv s) : Calls Try.prog 12 #[.pointer (some ⟨p, 0, none⟩), .agg r.cs, .int .i64 (P.length : Int)] w fun e w' => e = .returned (.bool true) ∧ Below w.heap.size w w' := by
  have hn : L.n ≤ 1000 := by have := h.lenC; have := hI.le; omega
  have hm : L.m ≤ 1000 := by have := h.lenR; have := hI.lenR; omega
  have en : r.n = L.n := by have := h.lenC; have := hr.lenC; omega
  have em : r.m = L.m := by have := h.lenR; have := hr.lenR; omega
  obtain ⟨Ac, cc, n, Ar, cr, m⟩ := r
  dsimp only at en em
  subst en em
  obtain ⟨z, ez⟩ : ∃ z, z = w.heap.size := ⟨_, rfl⟩
  obtain ⟨W1, eW1⟩ : ∃ W, W = w.alloc (.cells (⟨Ac, cc, L.n, Ar, cr, L.m⟩ : Rim).cs 31) := ⟨_, rfl⟩
  have hb1 : Below w.heap.size w W1 := by rw [eW1]; exact (Below.refl _ w).alloc (Nat.le_refl _) _
  have g1 : Blk W1 z 31 (⟨Ac, cc, L.n, Ar, cr, L.m⟩ : Rim).cs := by rw [eW1, ez]; exact blk_new w _ 31 _ rfl
  have h1 : Are W1.drew p L s.C s.R P := by have := h.below hb1; exact ⟨this.box, ⟨this.past.box, this.past.op⟩, ⟨this.stock.box, this.stock.oc, this.stock.or⟩⟩
  have r1 : Ref W1.drew ⟨Ac, cc, L.n, Ar, cr, L.m⟩ s := (hr.below hb1).kept (kept_below (fun _ => False) (Below.refl _ W1).drew) (fun _ _ e => e)
  have gd : Blk W1.drew z 31 (⟨Ac, cc, L.n, Ar, cr, L.m⟩ : Rim).cs := g1
  have hfix : ∀ W, Below W1.drew.heap.size W1.drew W → W.cell? ⟨z, 0, none⟩ = some (.slice Ac L.n cc) ∧ W.cell? ⟨z, 1, none⟩ = some (.slice Ar L.m cr) := fun W hW => ⟨(gd.on hW).cell 0, (gd.on hW).cell 1⟩
  have hf0 := hfix _ (Below.refl _ _)
  have hC := fun (W : World) (hW : Below W1.drew.heap.size W1.drew W) => cells_any (h1.below hW) hn
  have hL := fun (W : World) (hW : Below W1.drew.heap.size W1.drew W) => list_any (h1.below hW) hm
  have hM := fun (W : World) (hW : Below W1.drew.heap.size W1.drew W) => mark_any (h1.below hW)
  have h34 := fun (W : World) (hW : Below W1.drew.heap.size W1.drew W) (A : Option Addr) (c : Nat) (hA : Sees W 10 A L.n c (flatC s.C)) => cells_same hA (own_sees (r1.below hW).cells) hn
  have h35 := fun (W : World) (hW : Below W1.drew.heap.size W1.drew W) (A : Option Addr) (c : Nat) (hA : Sees W 1 A L.m c (ints s.R)) => ints_same hA ((r1.below hW).row) hm
  have hbw : Below w.heap.size w W1.drew := hb1.drew
  generalize P.length = q at *
  go_enter Try.func12, Try.ntmps12
  go_wp2_with fail
  rw [← eW1, ← ez]
  clear eW1 h hr hI
  have EZ := Lib.hid ez
  clear ez
  refine wp_region_noPanic ?_
  refine wp_region_held_drew (S := fun W => W.cell? ⟨z, 0, none⟩ = some (.slice Ac L.n cc) ∧ W.cell? ⟨z, 1, none⟩ = some (.slice Ar L.m cr)) (by kernel_rfl) hf0 (fun hHeld => ?_)
  refine wpAnyH_take (i := 0) (oi := ⟨some 7, _, _, _, _, _⟩) (v := ?_) rfl (by kernel_rfl) (by kernel_rfl) (by kernel_rfl) (fun _ _ _ h => h) (Or.inl ⟨by rfl, ?_⟩) (by assumption) ?_
  rotate_left 1
  · (intro W hSw; go_simp <;> with_reducible rfl)
  try simp only [Act.put, List.setIfInBounds_toArray, List.set_cons_zero, List.set_cons_succ]
  refine wpAnyH_take (i := 2) (oi := ⟨some 9, _, _, _, _, _⟩) (v := ?_) rfl (by kernel_rfl) (by kernel_rfl) (by kernel_rfl) (fun _ _ _ h => h) (Or.inl ⟨by rfl, ?_⟩) (by assumption) ?_
  rotate_left 1
  · (intro W hSw; go_simp <;> with_reducible rfl)
  try simp only [Act.put, List.setIfInBounds_toArray, List.set_cons_zero, List.set_cons_succ]
  refine wpAnyH_take (i := 3) (oi := ⟨some 10, _, _, _, _, _⟩) (v := ?_) rfl (by kernel_rfl) (by kernel_rfl) (by kernel_rfl) (fun _ _ _ h => h) (Or.inl ⟨by rfl, ?_⟩) (by assumption) ?_
  rotate_left 1
  · (intro W hSw; have hSw0 := hSw.1; clear hSw; go_simp <;> with_reducible rfl)
  try simp only [Act.put, List.setIfInBounds_toArray, List.set_cons_zero, List.set_cons_succ]
  refine wpAnyH_ready (rs := [1]) (by kernel_rfl) (by simp) ?_
  refine AllReadyH.cons rfl (fun K hK => ?_) AllReadyH.nil
  go_simp
  refine (hC _ (Below.refl _ _)).mono ?_
  rintro e w2 ⟨A1, c1, rfl, ho1, hb2⟩
  have k2 := hb2
  have hKeep := hfix _ k2
  refine hK.out _ _ ?_ (fun hHeld1 => ?_)
  · exact hKeep
  clear hHeld hK K hKeep
  try simp only [Act.put, List.setIfInBounds_toArray, List.set_cons_zero, List.set_cons_succ]
  refine wpAnyH_ready (rs := [4]) (by kernel_rfl) (by simp) ?_
  refine AllReadyH.cons rfl (fun K hK => ?_) AllReadyH.nil
  go_simp
  refine (h34 _ k2 A1 c1 (own_sees ho1)).mono ?_
  rintro e w3 ⟨rfl, hb3⟩
  have k3 := k2.trans (hb3.mono k2.size)
  have hKeep := hfix _ k3
  refine hK.out _ _ ?_ (fun hHeld2 => ?_)
  · exact hKeep
  clear hHeld1 hK K hKeep
  try simp only [Act.put, List.setIfInBounds_toArray, List.set_cons_zero, List.set_cons_succ]
  refine wpAnyH_take (i := 5) (oi := ⟨some 12, _, _, _, _, _⟩) (v := ?_) rfl (by kernel_rfl) (by kernel_rfl) (by kernel_rfl) (fun _ _ _ h => h) (Or.inl ⟨by rfl, ?_⟩) (by assumption) ?_
  rotate_left 1
  · (intro W hSw; go_simp <;> with_reducible rfl)
  try simp only [Act.put, List.setIfInBounds_toArray, List.set_cons_zero, List.set_cons_succ]
  refine wpAnyH_take (i := 6) (oi := ⟨some 13, _, _, _, _, _⟩) (v := ?_) rfl (by kernel_rfl) (by kernel_rfl) (by kernel_rfl) (fun _ _ _ h => h) (Or.inl ⟨by rfl, ?_⟩) (by assumption) ?_
  rotate_left 1
  · (intro W hSw; go_simp <;> with_reducible rfl)
  try simp only [Act.put, List.setIfInBounds_toArray, List.set_cons_zero, List.set_cons_succ]
  refine wpAnyH_take (i := 8) (oi := ⟨some 15, _, _, _, _, _⟩) (v := ?_) rfl (by kernel_rfl) (by kernel_rfl) (by kernel_rfl) (fun _ _ _ h => h) (Or.inl ⟨by rfl, ?_⟩) (by assumption) ?_
  rotate_left 1
  · (intro W hSw; go_simp <;> with_reducible rfl)
  try simp only [Act.put, List.setIfInBounds_toArray, List.set_cons_zero, List.set_cons_succ]
  refine wpAnyH_take (i := 9) (oi := ⟨some 16, _, _, _, _, _⟩) (v := ?_) rfl (by kernel_rfl) (by kernel_rfl) (by kernel_rfl) (fun _ _ _ h => h) (Or.inl ⟨by rfl, ?_⟩) (by assumption) ?_
  rotate_left 1
  · (intro W hSw; have hSw0 := hSw.2; clear hSw; go_simp <;> with_reducible rfl)
  try simp only [Act.put, List.setIfInBounds_toArray, List.set_cons_zero, List.set_cons_succ]
  refine wpAnyH_ready (rs := [7]) (by kernel_rfl) (by simp) ?_
  refine AllReadyH.cons rfl (fun K hK => ?_) AllReadyH.nil
  go_simp
  refine (hL _ k3).mono ?_
  rintro e w4 ⟨A4, c4, rfl, ho4, hb4⟩
  have k4 := k3.trans (hb4.mono k3.size)
  have hKeep := hfix _ k4
  refine hK.out _ _ ?_ (fun hHeld3 => ?_)
  · exact hKeep
  clear hHeld2 hK K hKeep
  try simp only [Act.put, List.setIfInBounds_toArray, List.set_cons_zero, List.set_cons_succ]
  refine wpAnyH_ready (rs := [10]) (by kernel_rfl) (by simp) ?_
  refine AllReadyH.cons rfl (fun K hK => ?_) AllReadyH.nil
  go_simp
  refine (h35 _ k4 A4 c4 (own_sees ho4)).mono ?_
  rintro e w5 ⟨rfl, hb5⟩
  have k5 := k4.trans (hb5.mono k4.size)
  have hKeep := hfix _ k5
  refine hK.out _ _ ?_ (fun hHeld4 => ?_)
  · exact hKeep
  clear hHeld3 hK K hKeep
  try simp only [Act.put, List.setIfInBounds_toArray, List.set_cons_zero, List.set_cons_succ]
  refine wpAnyH_take (i := 11) (oi := ⟨some 18, _, _, _, _, _⟩) (v := ?_) rfl (by kernel_rfl) (by kernel_rfl) (by kernel_rfl) (fun _ _ _ h => h) (Or.inl ⟨by rfl, ?_⟩) (by assumption) ?_
  rotate_left 1
  · (intro W hSw; go_simp <;> with_reducible rfl)
  try simp only [Act.put, List.setIfInBounds_toArray, List.set_cons_zero, List.set_cons_succ]
  refine wpAnyH_take (i := 12) (oi := ⟨some 19, _, _, _, _, _⟩) (v := ?_) rfl (by kernel_rfl) (by kernel_rfl) (by kernel_rfl) (fun _ _ _ h => h) (Or.inl ⟨by rfl, ?_⟩) (by assumption) ?_
  rotate_left 1
  · (intro W hSw; go_simp <;> with_reducible rfl)
  try simp only [Act.put, List.setIfInBounds_toArray, List.set_cons_zero, List.set_cons_succ]
  refine wpAnyH_take (i := 13) (oi := ⟨some 20, _, _, _, _, _⟩) (v := ?_) rfl (by kernel_rfl) (by kernel_rfl) (by kernel_rfl) (fun _ _ _ h => h) (Or.inl ⟨by rfl, ?_⟩) (by assumption) ?_
  rotate_left 1
  · (intro W hSw; go_simp <;> with_reducible rfl)
  try simp only [Act.put, List.setIfInBounds_toArray, List.set_cons_zero, List.set_cons_succ]
  refine wpAnyH_take (i := 15) (oi := ⟨some 22, _, _, _, _, _⟩) (v := ?_) rfl (by kernel_rfl) (by kernel_rfl) (by kernel_rfl) (fun _ _ _ h => h) (Or.inl ⟨by rfl, ?_⟩) (by assumption) ?_
  rotate_left 1
  · (intro W hSw; go_simp <;> with_reducible rfl)
  try simp only [Act.put, List.setIfInBounds_toArray, List.set_cons_zero, List.set_cons_succ]
  refine wpAnyH_ready (rs := [14]) (by kernel_rfl) (by simp) ?_
  refine AllReadyH.cons rfl (fun K hK => ?_) AllReadyH.nil
  go_simp
  refine (hM _ k5).mono ?_
  rintro e w6 ⟨rfl, rfl⟩
  have hKeep := hfix _ k5
  refine hK.out _ _ ?_ (fun hHeld5 => ?_)
  · exact hKeep
  clear hHeld4 hK K hKeep
  try simp only [Act.put, List.setIfInBounds_toArray, List.set_cons_zero, List.set_cons_succ]
  refine wpAnyH_take (i := 16) (oi := ⟨some 23, _, _, _, _, _⟩) (v := ?_) rfl (by kernel_rfl) (by kernel_rfl) (by kernel_rfl) (fun _ _ _ h => h) (Or.inl ⟨by rfl, ?_⟩) (by assumption) ?_
  rotate_left 1
  · (intro W hSw; go_simp <;> with_reducible rfl)
  try simp only [Act.put, List.setIfInBounds_toArray, List.set_cons_zero, List.set_cons_succ]
  refine wpAnyH_take (i := 17) (oi := ⟨some 24, _, _, _, _, _⟩) (v := ?_) rfl (by kernel_rfl) (by kernel_rfl) (by kernel_rfl) (fun _ _ _ h => h) (Or.inl ⟨by rfl, ?_⟩) (by assumption) ?_
  rotate_left 1
  · (intro W hSw; go_simp <;> with_reducible rfl)
  try simp only [Act.put, List.setIfInBounds_toArray, List.set_cons_zero, List.set_cons_succ]
  refine wpAnyH_take (i := 18) (oi := ⟨some 6, _, _, _, _, _⟩) (v := ?_) rfl (by kernel_rfl) (by kernel_rfl) (by kernel_rfl) (fun _ _ _ h => h) (Or.inl ⟨by rfl, ?_⟩) (by assumption) ?_
  rotate_left 1
  · (intro W hSw; go_simp <;> with_reducible rfl)
  try simp only [Act.put, List.setIfInBounds_toArray, List.set_cons_zero, List.set_cons_succ]
  refine wpAnyH_done (by kernel_rfl) ?_ _
  refine NoPanic.normal ?_
  go_wp2
  go_ret
  exact ⟨by simp, hbw.trans (k5.mono hbw.size)⟩
end
end Go.Proofs.Ytdilmapcjmdabaa
