/- A cell of an arena is turned. Conditions: at most 1000 changes. -/
import Derived.Test.YtdilmapcjmdabaaArena
namespace Go.Proofs.Ytdilmapcjmdabaa
open Go.ChangeShapes Go.WideShapes Go.RowKit
section
variable {w w' : World} {p : Nat} {L : Lim} {C : List Cel} {R : List Int} {P : List Chg}
set_option maxRecDepth 100000 in
set_option maxHeartbeats 1000000 in
theorem turn_any {k : Int} {j : Nat} {c to : Cel} (H : Are w p L C R P) (hn : L.n ≤ 6) (hm : L.m ≤ 6) (hh : L.h ≤ 1000) (hk : k - 1 = (j : Int)) (hc : C[j]? = some c) (hR : c.s = 0 → to.s ≠ 0 → R ≠ []) :
    Calls Try.prog 52 #[.pointer (some ⟨p, 0, none⟩), .int .i64 k, .agg to.cs.toArray] w fun e w' => e = .returned (.tuple #[]) ∧ AreTo w p L (C.set j to) (row1 R k c to) (P ++ [⟨k, c⟩]) w' := by
  obtain ⟨z, ez⟩ : ∃ z, z = w.heap.size := ⟨_, rfl⟩
  obtain ⟨W1, eW1⟩ : ∃ W, W = w.alloc (.cells to.cs.toArray 45) := ⟨_, rfl⟩
  have hb1 : Below w.heap.size w W1 := by rw [eW1]; exact (Below.refl _ w).alloc (Nat.le_refl _) _
  have b5 : Blk W1 w.heap.size 45 to.cs.toArray := by rw [eW1]; exact heap_alloc_new w _
  have h1 := H.below hb1
  have hlt := H.lt
  rw [← ez] at hlt b5
  go_enter Try.func52, Try.ntmps52
  go_wp2_with fail
  rw [← eW1, ← ez]
  clear eW1
  have EZ := Lib.hid ez
  clear ez H
  have hfix : ∀ W, PastTo W1.drew L.pp L.Ap (P ++ [⟨k, c⟩]) W → W.cell? ⟨p, 0, none⟩ = some (.pointer (some ⟨L.pp, 0, none⟩)) ∧ W.cell? ⟨p, 1, none⟩ = some (.pointer (some ⟨L.ps, 0, none⟩)) := fun W hW => by
    obtain ⟨L', hL, _⟩ := Are.past_to (w := W1.drew) (L := L) ⟨h1.box, ⟨h1.past.box, h1.past.op⟩, ⟨h1.stock.box, h1.stock.oc, h1.stock.or⟩⟩ hW
    obtain ⟨Ap', cp', h', q1, q2, q3⟩ := hW
    have hb : Blk W1.drew p 62 _ := h1.box
    have := hb.kept q2 (past_off (w := W1.drew) ⟨h1.past.box, h1.past.op⟩ hb (by decide) (by decide))
    exact ⟨this.cell 0, this.cell 1⟩
  have hf0 : W1.drew.cell? ⟨p, 0, none⟩ = some (.pointer (some ⟨L.pp, 0, none⟩)) ∧ W1.drew.cell? ⟨p, 1, none⟩ = some (.pointer (some ⟨L.ps, 0, none⟩)) := ⟨h1.at0, h1.at1⟩
  refine wp_region_noPanic ?_
  refine wp_region_held_drew (S := fun W => W.cell? ⟨p, 0, none⟩ = some (.pointer (some ⟨L.pp, 0, none⟩)) ∧ W.cell? ⟨p, 1, none⟩ = some (.pointer (some ⟨L.ps, 0, none⟩))) (by kernel_rfl) hf0 (fun hHeld => ?_)
  refine wpAnyH_take (i := 0) (oi := ⟨some 6, _, _, _, _, _⟩) (v := ?_) rfl (by kernel_rfl) (by kernel_rfl) (by kernel_rfl) (fun _ _ _ h => h) (Or.inl ⟨by rfl, ?_⟩) (by assumption) ?_
  rotate_left 1
  · (intro W hSw; go_simp <;> with_reducible rfl)
  try simp only [Act.put, List.setIfInBounds_toArray, List.set_cons_zero, List.set_cons_succ]
  refine wpAnyH_take (i := 1) (oi := ⟨some 7, _, _, _, _, _⟩) (v := ?_) rfl (by kernel_rfl) (by kernel_rfl) (by kernel_rfl) (fun _ _ _ h => h) (Or.inl ⟨by rfl, ?_⟩) (by assumption) ?_
  rotate_left 1
  · (intro W hSw; go_simp <;> with_reducible rfl)
  try simp only [Act.put, List.setIfInBounds_toArray, List.set_cons_zero, List.set_cons_succ]
  refine wpAnyH_take (i := 2) (oi := ⟨some 8, _, _, _, _, _⟩) (v := ?_) rfl (by kernel_rfl) (by kernel_rfl) (by kernel_rfl) (fun _ _ _ h => h) (Or.inl ⟨by rfl, ?_⟩) (by assumption) ?_
  rotate_left 1
  · (intro W hSw; go_simp <;> with_reducible rfl)
  try simp only [Act.put, List.setIfInBounds_toArray, List.set_cons_zero, List.set_cons_succ]
  refine wpAnyH_take (i := 3) (oi := ⟨some 9, _, _, _, _, _⟩) (v := ?_) rfl (by kernel_rfl) (by kernel_rfl) (by kernel_rfl) (fun _ _ _ h => h) (Or.inl ⟨by rfl, ?_⟩) (by assumption) ?_
  rotate_left 1
  · (intro W hSw; have hSw0 := hSw.1; clear hSw; go_simp <;> with_reducible rfl)
  try simp only [Act.put, List.setIfInBounds_toArray, List.set_cons_zero, List.set_cons_succ]
  refine wpAnyH_take (i := 4) (oi := ⟨some 10, _, _, _, _, _⟩) (v := ?_) rfl (by kernel_rfl) (by kernel_rfl) (by kernel_rfl) (fun _ _ _ h => h) (Or.inl ⟨by rfl, ?_⟩) (by assumption) ?_
  rotate_left 1
  · (intro W hSw; go_simp <;> with_reducible rfl)
  try simp only [Act.put, List.setIfInBounds_toArray, List.set_cons_zero, List.set_cons_succ]
  refine wpAnyH_take (i := 5) (oi := ⟨some 11, _, _, _, _, _⟩) (v := ?_) rfl (by kernel_rfl) (by kernel_rfl) (by kernel_rfl) (fun _ _ _ h => h) (Or.inl ⟨by rfl, ?_⟩) (by assumption) ?_
  rotate_left 1
  · (intro W hSw; go_simp <;> with_reducible rfl)
  try simp only [Act.put, List.setIfInBounds_toArray, List.set_cons_zero, List.set_cons_succ]
  refine wpAnyH_take (i := 6) (oi := ⟨some 12, _, _, _, _, _⟩) (v := ?_) rfl (by kernel_rfl) (by kernel_rfl) (by kernel_rfl) (fun _ _ _ h => h) (Or.inl ⟨by rfl, ?_⟩) (by assumption) ?_
  rotate_left 1
  · (intro W hSw; go_simp <;> with_reducible rfl)
  try simp only [Act.put, List.setIfInBounds_toArray, List.set_cons_zero, List.set_cons_succ]
  refine wpAnyH_take (i := 7) (oi := ⟨some 13, _, _, _, _, _⟩) (v := ?_) rfl (by kernel_rfl) (by kernel_rfl) (by kernel_rfl) (fun _ _ _ h => h) (Or.inl ⟨by rfl, ?_⟩) (by assumption) ?_
  rotate_left 1
  · (intro W hSw; go_simp <;> with_reducible rfl)
  try simp only [Act.put, List.setIfInBounds_toArray, List.set_cons_zero, List.set_cons_succ]
  refine wpAnyH_take (i := 8) (oi := ⟨some 14, _, _, _, _, _⟩) (v := ?_) rfl (by kernel_rfl) (by kernel_rfl) (by kernel_rfl) (fun _ _ _ h => h) (Or.inl ⟨by rfl, ?_⟩) (by assumption) ?_
  rotate_left 1
  · (intro W hSw; have hSw0 := hSw.2; clear hSw; go_simp <;> with_reducible rfl)
  try simp only [Act.put, List.setIfInBounds_toArray, List.set_cons_zero, List.set_cons_succ]
  refine wpAnyH_take (i := 9) (oi := ⟨some 15, _, _, _, _, _⟩) (v := ?_) rfl (by kernel_rfl) (by kernel_rfl) (by kernel_rfl) (fun _ _ _ h => h) (Or.inl ⟨by rfl, ?_⟩) (by assumption) ?_
  rotate_left 1
  · (intro W hSw; go_simp <;> with_reducible rfl)
  try simp only [Act.put, List.setIfInBounds_toArray, List.set_cons_zero, List.set_cons_succ]
  refine wpAnyH_ready (rs := [10]) (by kernel_rfl) (by simp) ?_
  refine AllReadyH.cons rfl (fun K hK => ?_) AllReadyH.nil
  go_simp
  refine (at_any (w := W1.drew) ⟨h1.stock.box, h1.stock.oc, h1.stock.or⟩ hn hk hc).mono ?_
  rintro e w2 ⟨rfl, hb2⟩
  have hKeep : w2.cell? ⟨p, 0, none⟩ = some (.pointer (some ⟨L.pp, 0, none⟩)) ∧ w2.cell? ⟨p, 1, none⟩ = some (.pointer (some ⟨L.ps, 0, none⟩)) := ⟨(hb2.cell h1.box.lt).trans hf0.1, (hb2.cell h1.box.lt).trans hf0.2⟩
  refine hK.out _ _ ?_ (fun hHeld1 => ?_)
  · exact hKeep
  clear hHeld hK K hKeep
  try simp only [Act.put, List.setIfInBounds_toArray, List.set_cons_zero, List.set_cons_succ]
  refine wpAnyH_take (i := 11) (oi := ⟨some 17, _, _, _, _, _⟩) (v := .agg (Chg.cs ⟨k, c⟩).toArray) rfl (by kernel_rfl) (by kernel_rfl) (by kernel_rfl) (fun _ _ _ h => h) (Or.inl ⟨by rfl, fun W hSw => by kernel_rfl⟩) (by assumption) ?_
  try simp only [Act.put, List.setIfInBounds_toArray, List.set_cons_zero, List.set_cons_succ]
  refine wpAnyH_ready (rs := [12]) (by kernel_rfl) (by simp) ?_
  refine AllReadyH.cons rfl (fun K hK => ?_) AllReadyH.nil
  go_simp
  refine (keep_any (w := w2) (Pst.below (w := W1.drew) ⟨h1.past.box, h1.past.op⟩ hb2) hh).mono ?_
  rintro e w3 ⟨rfl, hT⟩
  have hT1 := hT.from_ (w := W1.drew) hb2
  have hKeep := hfix w3 hT1
  refine hK.out _ _ ?_ (fun hHeld2 => ?_)
  · exact hKeep
  clear hHeld1 hK K hKeep
  try simp only [Act.put, List.setIfInBounds_toArray, List.set_cons_zero, List.set_cons_succ]
  refine wpAnyH_done (by kernel_rfl) ?_ _
  refine NoPanic.normal ?_
  obtain ⟨Ap', cp', h', q1, q2, q3⟩ := id hT1
  have b53 : Blk w3 z 45 to.cs.toArray := Blk.kept (w := W1.drew) b5 q2 (fun e => by
    rcases e with e | e
    · have := hlt L.pp (.inr (.inl (.inl rfl)))
      omega
    · have := hlt z (.inr (.inl (.inr e)))
      omega)
  have hs3 : Stk w3.drew L.ps L.Ac L.cc L.n L.Ar L.cr L.m C R := by
    have := Stk.kept (w := W1.drew) ⟨h1.stock.box, h1.stock.oc, h1.stock.or⟩ q2 (parts (w := W1.drew) ⟨h1.past.box, h1.past.op⟩ ⟨h1.stock.box, h1.stock.oc, h1.stock.or⟩)
    exact ⟨this.box, this.oc, this.or⟩
  have hf3 : w3.drew.cell? ⟨p, 1, none⟩ = some (.pointer (some ⟨L.ps, 0, none⟩)) ∧ w3.drew.rangeAt z 0 to.cs := ⟨(hfix w3 hT1).2, fun i v hv => by rw [Nat.zero_add]; exact (b53.cell i).trans (by simpa using hv)⟩
  have hfix2 : ∀ W, SetTo w3.drew L.ps L.Ac L.cc L.n L.Ar (C.set j to) (row1 R k c to) W → W.cell? ⟨p, 1, none⟩ = some (.pointer (some ⟨L.ps, 0, none⟩)) ∧ W.rangeAt z 0 to.cs := fun W hW => by
    obtain ⟨Ar', cr', m', u1, u2, u3⟩ := hW
    have hz : ¬ stkS L.ps L.Ac L.Ar z := fun e => by have := hlt z (.inr (.inr e)); omega
    have hb : Blk w3.drew p 62 #[.pointer (some ⟨L.pp, 0, none⟩), .pointer (some ⟨L.ps, 0, none⟩)] := Blk.kept (w := W1.drew) (w1 := w3) h1.box q2 (past_off (w := W1.drew) ⟨h1.past.box, h1.past.op⟩ (show Blk W1.drew p 62 _ from h1.box) (by decide) (by decide))
    have hb2 : Blk w3.drew z 45 to.cs.toArray := b53
    exact ⟨(hb.kept u2 (stock_off hs3 hb (by decide) (by decide) (by decide))).cell 1, fun i v hv => by rw [Nat.zero_add]; exact ((hb2.kept u2 hz).cell i).trans (by simpa using hv)⟩
  go_wp2_with fail
  refine wp_region_noPanic ?_
  refine wp_region_held_drew (S := fun W => W.cell? ⟨p, 1, none⟩ = some (.pointer (some ⟨L.ps, 0, none⟩)) ∧ W.rangeAt z 0 to.cs) (by kernel_rfl) hf3 (fun hHeld => ?_)
  refine wpAnyH_take (i := 0) (oi := ⟨some 19, _, _, _, _, _⟩) (v := ?_) rfl (by kernel_rfl) (by kernel_rfl) (by kernel_rfl) (fun _ _ _ h => h) (Or.inl ⟨by rfl, ?_⟩) (by assumption) ?_
  rotate_left 1
  · (intro W hSw; go_simp <;> with_reducible rfl)
  try simp only [Act.put, List.setIfInBounds_toArray, List.set_cons_zero, List.set_cons_succ]
  refine wpAnyH_take (i := 1) (oi := ⟨some 20, _, _, _, _, _⟩) (v := ?_) rfl (by kernel_rfl) (by kernel_rfl) (by kernel_rfl) (fun _ _ _ h => h) (Or.inl ⟨by rfl, ?_⟩) (by assumption) ?_
  rotate_left 1
  · (intro W hSw; go_simp <;> with_reducible rfl)
  try simp only [Act.put, List.setIfInBounds_toArray, List.set_cons_zero, List.set_cons_succ]
  refine wpAnyH_take (i := 2) (oi := ⟨some 21, _, _, _, _, _⟩) (v := ?_) rfl (by kernel_rfl) (by kernel_rfl) (by kernel_rfl) (fun _ _ _ h => h) (Or.inl ⟨by rfl, ?_⟩) (by assumption) ?_
  rotate_left 1
  · (intro W hSw; go_simp <;> with_reducible rfl)
  try simp only [Act.put, List.setIfInBounds_toArray, List.set_cons_zero, List.set_cons_succ]
  refine wpAnyH_take (i := 3) (oi := ⟨some 22, _, _, _, _, _⟩) (v := ?_) rfl (by kernel_rfl) (by kernel_rfl) (by kernel_rfl) (fun _ _ _ h => h) (Or.inl ⟨by rfl, ?_⟩) (by assumption) ?_
  rotate_left 1
  · (intro W hSw; have hSw0 := hSw.1; clear hSw; go_simp <;> with_reducible rfl)
  try simp only [Act.put, List.setIfInBounds_toArray, List.set_cons_zero, List.set_cons_succ]
  refine wpAnyH_take (i := 4) (oi := ⟨some 23, _, _, _, _, _⟩) (v := ?_) rfl (by kernel_rfl) (by kernel_rfl) (by kernel_rfl) (fun _ _ _ h => h) (Or.inl ⟨by rfl, ?_⟩) (by assumption) ?_
  rotate_left 1
  · (intro W hSw; go_simp <;> with_reducible rfl)
  try simp only [Act.put, List.setIfInBounds_toArray, List.set_cons_zero, List.set_cons_succ]
  refine wpAnyH_take (i := 5) (oi := ⟨some 24, _, _, _, _, _⟩) (v := .agg to.cs.toArray) rfl (by kernel_rfl) (by kernel_rfl) (by kernel_rfl) (fun _ _ _ h => h) (yieldsIf_load_mid (by rfl) 45 (.tmp 5) rfl z 0 rfl to.cs _ (fun W hW => hW.2) Try.underlying45 rfl (load45 to)) (by assumption) ?_
  try simp only [Act.put, List.setIfInBounds_toArray, List.set_cons_zero, List.set_cons_succ]
  refine wpAnyH_ready (rs := [6]) (by kernel_rfl) (by simp) ?_
  refine AllReadyH.cons rfl (fun K hK => ?_) AllReadyH.nil
  go_simp
  refine (set_any hs3 hn hm hk hc hR).mono ?_
  rintro e w4 ⟨rfl, hT4⟩
  have hKeep := hfix2 w4 hT4
  refine hK.out _ _ ?_ (fun hHeld1 => ?_)
  · exact hKeep
  clear hHeld hK K hKeep
  try simp only [Act.put, List.setIfInBounds_toArray, List.set_cons_zero, List.set_cons_succ]
  refine wpAnyH_done (by kernel_rfl) ?_ _
  refine NoPanic.normal ?_
  go_wp2
  go_end0
  have ez := EZ.out
  rw [ez] at hlt
  have hp3 : Blk w3.drew p 62 #[.pointer (some ⟨L.pp, 0, none⟩), .pointer (some ⟨L.ps, 0, none⟩)] := Blk.kept (w := W1.drew) (w1 := w3) h1.box q2 (past_off (w := W1.drew) ⟨h1.past.box, h1.past.op⟩ (show Blk W1.drew p 62 _ from h1.box) (by decide) (by decide))
  have A3 : Are w3.drew p { L with Ap := Ap', cp := cp', h := h' } C R (P ++ [⟨k, c⟩]) := ⟨hp3, ⟨q1.box, q1.op⟩, hs3⟩
  have A4 := A3.stock_to hT4
  refine ⟨rfl, AreTo.from_ (w' := W1.drew) (AreTo.next (w' := w3.drew) A3 ⟨q2.os, q2.tape, q2.output, q2.size, fun i hi hn => q2.block i hi (fun e => hn (.inr (.inl e)))⟩ ?_ A4) hb1.drew⟩
  rintro g (hg | (hg | hg) | hg)
  · exact .inl (.inl hg)
  · exact .inl (.inr (.inl (.inl hg)))
  · exact (q3 g hg).elim (fun e => .inl (.inr (.inl (.inr e)))) .inr
  · exact .inl (.inr (.inr hg))
end
end Go.Proofs.Ytdilmapcjmdabaa
