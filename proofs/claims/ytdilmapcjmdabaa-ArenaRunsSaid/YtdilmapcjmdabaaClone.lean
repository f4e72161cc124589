/- An arena is cloned. Conditions: at most 1000 changes. -/
import Derived.Test.YtdilmapcjmdabaaTake
import Derived.Test.YtdilmapcjmdabaaCopies
namespace Go.Proofs.Ytdilmapcjmdabaa
open Go.ChangeShapes Go.WideShapes Go.RowKit
section
variable {w w' : World} {p : Nat} {L : Lim} {s : Sta} {H : His}
def NewP (h : Nat) (P : List Chg) (w : World) (e : Ending) (w' : World) : Prop :=
  ∃ pp Ap cp, e = .returned (.pointer (some ⟨pp, 0, none⟩)) ∧ Pst w' pp Ap cp h P ∧ Below w.heap.size w w' ∧ ∀ g, pstS pp Ap g → w.heap.size ≤ g
def NewK (n m : Nat) (C : List Cel) (R : List Int) (w : World) (e : Ending) (w' : World) : Prop :=
  ∃ ps Ac cc Ar cr, e = .returned (.pointer (some ⟨ps, 0, none⟩)) ∧ Stk w' ps Ac cc n Ar cr m C R ∧ Below w.heap.size w w' ∧ ∀ g, stkS ps Ac Ar g → w.heap.size ≤ g
theorem past_apart {pp cp h : Nat} {Ap : Option Addr} {P : List Chg} (K : Pst w pp Ap cp h P) (hh : h ≤ 1000) : Calls Try.prog 48 #[.pointer (some ⟨pp, 0, none⟩)] w (NewP h P w) := by
  have c0 : w.cell? ⟨pp, 0, none⟩ = some (.slice Ap h cp) := K.box.cell 0
  go_enter Try.func48, Try.ntmps48
  go_wp2_with fail
  refine (clone58 K.op (flat_one Chg.one _) hh).mono ?_
  rintro e w1 ⟨A, cap, rfl, ho, hb⟩
  go_wp2
  go_ret
  refine ⟨w1.heap.size, A, cap, rfl, ⟨heap_alloc_new w1 _, own_low (ho.alloc _)⟩, hb.alloc hb.size _, ?_⟩
  rintro g (rfl | e)
  · exact hb.size
  · exact own_new ho g e
set_option maxRecDepth 100000 in
set_option maxHeartbeats 1000000 in
theorem stock_apart {ps cc n cr m : Nat} {Ac Ar : Option Addr} {C : List Cel} {R : List Int} (K : Stk w ps Ac cc n Ar cr m C R) (hn : n ≤ 1000) (hm : m ≤ 1000) : Calls Try.prog 49 #[.pointer (some ⟨ps, 0, none⟩)] w (NewK n m C R w) := by
  have hf0 : w.drew.cell? ⟨ps, 0, none⟩ = some (.slice Ac n cc) ∧ w.drew.cell? ⟨ps, 1, none⟩ = some (.slice Ar m cr) := ⟨K.box.cell 0, K.box.cell 1⟩
  have Kd : Stk w.drew ps Ac cc n Ar cr m C R := ⟨K.box, K.oc, K.or⟩
  have hfix : ∀ W, Below w.drew.heap.size w.drew W → W.cell? ⟨ps, 0, none⟩ = some (.slice Ac n cc) ∧ W.cell? ⟨ps, 1, none⟩ = some (.slice Ar m cr) := fun W hW =>
    ⟨(hW.cell Kd.box.lt).trans hf0.1, (hW.cell Kd.box.lt).trans hf0.2⟩
  have hc := fun (W : World) (hW : Below w.drew.heap.size w.drew W) => clone43 (Kd.below hW).oc (flat_one Cel.one _) hn
  have hr := fun (W : World) (hW : Below w.drew.heap.size w.drew W) => clone56 (Kd.below hW).or (flat_one (fun x => by simp [Value.oneCell']) _) hm
  go_enter Try.func49, Try.ntmps49
  go_wp2_with fail
  refine wp_region_noPanic ?_
  refine wp_region_held_drew (S := fun W => W.cell? ⟨ps, 0, none⟩ = some (.slice Ac n cc) ∧ W.cell? ⟨ps, 1, none⟩ = some (.slice Ar m cr)) (by kernel_rfl) hf0 (fun hHeld => ?_)
  refine wpAnyH_take (i := 0) (oi := ⟨some 3, _, _, _, _, _⟩) (v := ?_) rfl (by kernel_rfl) (by kernel_rfl) (by kernel_rfl) (fun _ _ _ h => h) (Or.inl ⟨by rfl, ?_⟩) (by assumption) ?_
  rotate_left 1
  · (intro W hSw; go_simp <;> with_reducible rfl)
  try simp only [Act.put, List.setIfInBounds_toArray, List.set_cons_zero, List.set_cons_succ]
  refine wpAnyH_take (i := 1) (oi := ⟨some 4, _, _, _, _, _⟩) (v := ?_) rfl (by kernel_rfl) (by kernel_rfl) (by kernel_rfl) (fun _ _ _ h => h) (Or.inl ⟨by rfl, ?_⟩) (by assumption) ?_
  rotate_left 1
  · (intro W hSw; go_simp <;> with_reducible rfl)
  try simp only [Act.put, List.setIfInBounds_toArray, List.set_cons_zero, List.set_cons_succ]
  refine wpAnyH_take (i := 2) (oi := ⟨some 5, _, _, _, _, _⟩) (v := ?_) rfl (by kernel_rfl) (by kernel_rfl) (by kernel_rfl) (fun _ _ _ h => h) (Or.inl ⟨by rfl, ?_⟩) (by assumption) ?_
  rotate_left 1
  · (intro W hSw; go_simp <;> with_reducible rfl)
  try simp only [Act.put, List.setIfInBounds_toArray, List.set_cons_zero, List.set_cons_succ]
  refine wpAnyH_take (i := 3) (oi := ⟨some 6, _, _, _, _, _⟩) (v := ?_) rfl (by kernel_rfl) (by kernel_rfl) (by kernel_rfl) (fun _ _ _ h => h) (Or.inl ⟨by rfl, ?_⟩) (by assumption) ?_
  rotate_left 1
  · (intro W hSw; have hSw0 := hSw.1; clear hSw; go_simp <;> with_reducible rfl)
  try simp only [Act.put, List.setIfInBounds_toArray, List.set_cons_zero, List.set_cons_succ]
  refine wpAnyH_take (i := 5) (oi := ⟨some 8, _, _, _, _, _⟩) (v := ?_) rfl (by kernel_rfl) (by kernel_rfl) (by kernel_rfl) (fun _ _ _ h => h) (Or.inl ⟨by rfl, ?_⟩) (by assumption) ?_
  rotate_left 1
  · (intro W hSw; go_simp <;> with_reducible rfl)
  try simp only [Act.put, List.setIfInBounds_toArray, List.set_cons_zero, List.set_cons_succ]
  refine wpAnyH_take (i := 6) (oi := ⟨some 9, _, _, _, _, _⟩) (v := ?_) rfl (by kernel_rfl) (by kernel_rfl) (by kernel_rfl) (fun _ _ _ h => h) (Or.inl ⟨by rfl, ?_⟩) (by assumption) ?_
  rotate_left 1
  · (intro W hSw; go_simp <;> with_reducible rfl)
  try simp only [Act.put, List.setIfInBounds_toArray, List.set_cons_zero, List.set_cons_succ]
  refine wpAnyH_take (i := 7) (oi := ⟨some 10, _, _, _, _, _⟩) (v := ?_) rfl (by kernel_rfl) (by kernel_rfl) (by kernel_rfl) (fun _ _ _ h => h) (Or.inl ⟨by rfl, ?_⟩) (by assumption) ?_
  rotate_left 1
  · (intro W hSw; go_simp <;> with_reducible rfl)
  try simp only [Act.put, List.setIfInBounds_toArray, List.set_cons_zero, List.set_cons_succ]
  refine wpAnyH_take (i := 8) (oi := ⟨some 11, _, _, _, _, _⟩) (v := ?_) rfl (by kernel_rfl) (by kernel_rfl) (by kernel_rfl) (fun _ _ _ h => h) (Or.inl ⟨by rfl, ?_⟩) (by assumption) ?_
  rotate_left 1
  · (intro W hSw; have hSw0 := hSw.2; clear hSw; go_simp <;> with_reducible rfl)
  try simp only [Act.put, List.setIfInBounds_toArray, List.set_cons_zero, List.set_cons_succ]
  refine wpAnyH_ready (rs := [4]) (by kernel_rfl) (by simp) ?_
  refine AllReadyH.cons rfl (fun K hK => ?_) AllReadyH.nil
  go_simp
  refine (hc _ (Below.refl _ _)).mono ?_
  rintro e w1 ⟨A, capA, rfl, hoA, hb1⟩
  refine hK.out _ _ (hfix _ hb1) (fun hHeld1 => ?_)
  clear hHeld hK K
  try simp only [Act.put, List.setIfInBounds_toArray, List.set_cons_zero, List.set_cons_succ]
  refine wpAnyH_ready (rs := [9]) (by kernel_rfl) (by simp) ?_
  refine AllReadyH.cons rfl (fun K hK => ?_) AllReadyH.nil
  go_simp
  refine (hr _ hb1).mono ?_
  rintro e w2 ⟨B, capB, rfl, hoB, hb2⟩
  have hb12 := hb1.trans (hb2.mono hb1.size)
  have hk := own_below (own_low hoA) hb2
  have hlo := fun g hg => Nat.le_trans hb1.size (own_new hoB g hg)
  refine hK.out _ _ (hfix _ hb12) (fun hHeld2 => ?_)
  clear hHeld1 hK K
  try simp only [Act.put, List.setIfInBounds_toArray, List.set_cons_zero, List.set_cons_succ]
  refine wpAnyH_take (i := 10) (oi := ⟨some 13, _, _, _, _, _⟩) (v := ?_) rfl (by kernel_rfl) (by kernel_rfl) (by kernel_rfl) (fun _ _ _ h => h) (Or.inl ⟨by rfl, ?_⟩) (by assumption) ?_
  rotate_left 1
  · (intro W hSw; go_simp <;> with_reducible rfl)
  try simp only [Act.put, List.setIfInBounds_toArray, List.set_cons_zero, List.set_cons_succ]
  refine wpAnyH_ready (rs := [11]) (by kernel_rfl) (by simp) ?_
  refine AllReadyH.cons rfl (fun K hK => ?_) AllReadyH.nil
  go_simp
  have hb3 : Below w.drew.heap.size w.drew (w2.alloc (.cells #[.slice A n capA, .slice B m capB] 80)) := hb12.alloc hb12.size _
  refine hK.out _ _ (hfix _ hb3) (fun hHeld3 => ?_)
  clear hHeld2 hK K
  try simp only [Act.put, List.setIfInBounds_toArray, List.set_cons_zero, List.set_cons_succ]
  refine wpAnyH_take (i := 12) (oi := ⟨some 2, _, _, _, _, _⟩) (v := ?_) rfl (by kernel_rfl) (by kernel_rfl) (by kernel_rfl) (fun _ _ _ h => h) (Or.inl ⟨by rfl, ?_⟩) (by assumption) ?_
  rotate_left 1
  · (intro W hSw; go_simp <;> with_reducible rfl)
  try simp only [Act.put, List.setIfInBounds_toArray, List.set_cons_zero, List.set_cons_succ]
  refine wpAnyH_done (by kernel_rfl) ?_ _
  refine NoPanic.normal ?_
  go_wp2
  go_ret
  refine ⟨w2.heap.size, A, capA, B, capB, rfl, ⟨heap_alloc_new w2 _, hk.alloc _, own_low (hoB.alloc _)⟩, ((Below.refl _ w).drew).trans hb3, ?_⟩
  rintro g (rfl | e | e)
  · exact hb12.size
  · exact own_new hoA g e
  · exact hlo g e
set_option maxRecDepth 100000 in
set_option maxHeartbeats 1000000 in
theorem clone_any (h : Ara w p L s H) (hI : Inv s) (hh : H.length ≤ 1000) : Calls Try.prog 22 #[.pointer (some ⟨p, 0, none⟩)] w fun e w' => ∃ p2 L2, e = .returned (.pointer (some ⟨p2, 0, none⟩)) ∧ Ara w' p2 L2 s H ∧ Below w.heap.size w w' ∧ ∀ g, mine p2 L2 g → w.heap.size ≤ g := by
  have hlC := h.lenC
  have hlR := h.lenR
  have hlP := h.lenP
  rw [chgs_len] at hlP
  have hle := hI.le
  have hleR := hI.lenR
  have a0 := h.at0
  have hd : Ara w.drew p L s H := ⟨h.box, ⟨h.past.box, h.past.op⟩, ⟨h.stock.box, h.stock.oc, h.stock.or⟩⟩
  have hf0 : w.drew.cell? ⟨p, 0, none⟩ = some (.pointer (some ⟨L.pp, 0, none⟩)) ∧ w.drew.cell? ⟨p, 1, none⟩ = some (.pointer (some ⟨L.ps, 0, none⟩)) := ⟨h.at0, h.at1⟩
  have hfix : ∀ W, Below w.drew.heap.size w.drew W → W.cell? ⟨p, 0, none⟩ = some (.pointer (some ⟨L.pp, 0, none⟩)) ∧ W.cell? ⟨p, 1, none⟩ = some (.pointer (some ⟨L.ps, 0, none⟩)) := fun W hW =>
    ⟨(hW.cell hd.box.lt).trans hf0.1, (hW.cell hd.box.lt).trans hf0.2⟩
  have hc := fun (W : World) (hW : Below w.drew.heap.size w.drew W) => past_apart (hd.below hW).past (by omega)
  have hr := fun (W : World) (hW : Below w.drew.heap.size w.drew W) => stock_apart (hd.below hW).stock (by omega) (by omega)
  clear hlC hlR hlP hle hleR hh hI
  go_enter Try.func22, Try.ntmps22
  go_wp2_with fail
  refine (made_some a0).mono ?_
  rintro e w' ⟨rfl, rfl⟩
  go_wp2_with fail
  refine wp_region_noPanic ?_
  refine wp_region_held_drew (S := fun W => W.cell? ⟨p, 0, none⟩ = some (.pointer (some ⟨L.pp, 0, none⟩)) ∧ W.cell? ⟨p, 1, none⟩ = some (.pointer (some ⟨L.ps, 0, none⟩))) (by kernel_rfl) hf0 (fun hHeld => ?_)
  refine wpAnyH_take (i := 0) (oi := ⟨some 6, _, _, _, _, _⟩) (v := ?_) rfl (by kernel_rfl) (by kernel_rfl) (by kernel_rfl) (fun _ _ _ h => h) (Or.inl ⟨by rfl, ?_⟩) (by assumption) ?_
  rotate_left 1
  · (intro W hSw; go_simp <;> with_reducible rfl)
  try simp only [Act.put, List.setIfInBounds_toArray, List.set_cons_zero, List.set_cons_succ]
  refine wpAnyH_take (i := 1) (oi := ⟨some 7, _, _, _, _, _⟩) (v := ?_) rfl (by kernel_rfl) (by kernel_rfl) (by kernel_rfl) (fun _ _ _ h => h) (Or.inl ⟨by rfl, ?_⟩) (by assumption) ?_
  rotate_left 1
  · (intro W hSw; go_simp <;> with_reducible rfl)
  try simp only [Act.put, List.setIfInBounds_toArray, List.set_cons_zero, List.set_cons_succ]
  refine wpAnyH_take (i := 2) (oi := ⟨some 8, _, _, _, _, _⟩) (v := ?_) rfl (by kernel_rfl) (by kernel_rfl) (by kernel_rfl) (fun _ _ _ h => h) (Or.inl ⟨by rfl, ?_⟩) (by assumption) ?_
  rotate_left 1
  · (intro W hSw; go_simp <;> with_reducible rfl)
  try simp only [Act.put, List.setIfInBounds_toArray, List.set_cons_zero, List.set_cons_succ]
  refine wpAnyH_take (i := 3) (oi := ⟨some 9, _, _, _, _, _⟩) (v := ?_) rfl (by kernel_rfl) (by kernel_rfl) (by kernel_rfl) (fun _ _ _ h => h) (Or.inl ⟨by rfl, ?_⟩) (by assumption) ?_
  rotate_left 1
  · (intro W hSw; have hSw0 := hSw.1; clear hSw; go_simp <;> with_reducible rfl)
  try simp only [Act.put, List.setIfInBounds_toArray, List.set_cons_zero, List.set_cons_succ]
  refine wpAnyH_take (i := 5) (oi := ⟨some 11, _, _, _, _, _⟩) (v := ?_) rfl (by kernel_rfl) (by kernel_rfl) (by kernel_rfl) (fun _ _ _ h => h) (Or.inl ⟨by rfl, ?_⟩) (by assumption) ?_
  rotate_left 1
  · (intro W hSw; go_simp <;> with_reducible rfl)
  try simp only [Act.put, List.setIfInBounds_toArray, List.set_cons_zero, List.set_cons_succ]
  refine wpAnyH_take (i := 6) (oi := ⟨some 12, _, _, _, _, _⟩) (v := ?_) rfl (by kernel_rfl) (by kernel_rfl) (by kernel_rfl) (fun _ _ _ h => h) (Or.inl ⟨by rfl, ?_⟩) (by assumption) ?_
  rotate_left 1
  · (intro W hSw; go_simp <;> with_reducible rfl)
  try simp only [Act.put, List.setIfInBounds_toArray, List.set_cons_zero, List.set_cons_succ]
  refine wpAnyH_take (i := 7) (oi := ⟨some 13, _, _, _, _, _⟩) (v := ?_) rfl (by kernel_rfl) (by kernel_rfl) (by kernel_rfl) (fun _ _ _ h => h) (Or.inl ⟨by rfl, ?_⟩) (by assumption) ?_
  rotate_left 1
  · (intro W hSw; go_simp <;> with_reducible rfl)
  try simp only [Act.put, List.setIfInBounds_toArray, List.set_cons_zero, List.set_cons_succ]
  refine wpAnyH_take (i := 8) (oi := ⟨some 14, _, _, _, _, _⟩) (v := ?_) rfl (by kernel_rfl) (by kernel_rfl) (by kernel_rfl) (fun _ _ _ h => h) (Or.inl ⟨by rfl, ?_⟩) (by assumption) ?_
  rotate_left 1
  · (intro W hSw; have hSw0 := hSw.2; clear hSw; go_simp <;> with_reducible rfl)
  try simp only [Act.put, List.setIfInBounds_toArray, List.set_cons_zero, List.set_cons_succ]
  refine wpAnyH_ready (rs := [4]) (by kernel_rfl) (by simp) ?_
  refine AllReadyH.cons rfl (fun K hK => ?_) AllReadyH.nil
  go_simp
  refine (hc _ (Below.refl _ _)).mono ?_
  rintro e w1 ⟨pp, Ap, cp, rfl, hP, hb1, hlP⟩
  refine hK.out _ _ (hfix _ hb1) (fun hHeld1 => ?_)
  clear hHeld hK K
  try simp only [Act.put, List.setIfInBounds_toArray, List.set_cons_zero, List.set_cons_succ]
  refine wpAnyH_ready (rs := [9]) (by kernel_rfl) (by simp) ?_
  refine AllReadyH.cons rfl (fun K hK => ?_) AllReadyH.nil
  go_simp
  refine (hr _ hb1).mono ?_
  rintro e w2 ⟨ps, Ac, cc, Ar, cr, rfl, hS, hb2, hlS⟩
  have hb12 := hb1.trans (hb2.mono hb1.size)
  have hP2 := hP.below hb2
  refine hK.out _ _ (hfix _ hb12) (fun hHeld2 => ?_)
  clear hHeld1 hK K
  try simp only [Act.put, List.setIfInBounds_toArray, List.set_cons_zero, List.set_cons_succ]
  refine wpAnyH_take (i := 10) (oi := ⟨some 16, _, _, _, _, _⟩) (v := ?_) rfl (by kernel_rfl) (by kernel_rfl) (by kernel_rfl) (fun _ _ _ h => h) (Or.inl ⟨by rfl, ?_⟩) (by assumption) ?_
  rotate_left 1
  · (intro W hSw; go_simp <;> with_reducible rfl)
  try simp only [Act.put, List.setIfInBounds_toArray, List.set_cons_zero, List.set_cons_succ]
  refine wpAnyH_ready (rs := [11]) (by kernel_rfl) (by simp) ?_
  refine AllReadyH.cons rfl (fun K hK => ?_) AllReadyH.nil
  go_simp
  have hb3 : Below w.drew.heap.size w.drew (w2.alloc (.cells #[.pointer (some ⟨pp, 0, none⟩), .pointer (some ⟨ps, 0, none⟩)] 62)) := hb12.alloc hb12.size _
  have hb23 : Below w2.heap.size w2 (w2.alloc (.cells #[.pointer (some ⟨pp, 0, none⟩), .pointer (some ⟨ps, 0, none⟩)] 62)) := (Below.refl _ w2).alloc (Nat.le_refl _) _
  refine hK.out _ _ (hfix _ hb3) (fun hHeld3 => ?_)
  clear hHeld2 hK K
  try simp only [Act.put, List.setIfInBounds_toArray, List.set_cons_zero, List.set_cons_succ]
  refine wpAnyH_take (i := 12) (oi := ⟨some 2, _, _, _, _, _⟩) (v := ?_) rfl (by kernel_rfl) (by kernel_rfl) (by kernel_rfl) (fun _ _ _ h => h) (Or.inl ⟨by rfl, ?_⟩) (by assumption) ?_
  rotate_left 1
  · (intro W hSw; go_simp <;> with_reducible rfl)
  try simp only [Act.put, List.setIfInBounds_toArray, List.set_cons_zero, List.set_cons_succ]
  refine wpAnyH_done (by kernel_rfl) ?_ _
  refine NoPanic.normal ?_
  go_wp2
  go_ret
  refine ⟨w2.heap.size, ⟨pp, ps, Ac, cc, L.n, Ar, cr, L.m, Ap, cp, L.h⟩, rfl, ⟨heap_alloc_new w2 _, hP2.below hb23, hS.below hb23⟩, ((Below.refl _ w).drew).trans hb3, ?_⟩
  rintro g (rfl | e | e)
  · exact hb12.size
  · exact hlP g e
  · exact Nat.le_trans hb1.size (hlS g e)
theorem clone_no {v : Value} (h : Calls Try.prog 41 #[v] w fun e w' => e = .returned (.bool false) ∧ w = w') : Calls Try.prog 22 #[v] w fun e w' => e = .returned (.pointer none) ∧ w = w' := by
  go_enter Try.func22, Try.ntmps22
  go_wp2_with fail
  refine h.mono ?_
  rintro e w' ⟨rfl, rfl⟩
  go_wp2
  go_ret
  exact ⟨rfl, rfl⟩
end
end Go.Proofs.Ytdilmapcjmdabaa
