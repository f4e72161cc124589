/- A search in memory: one that waits is taken. Conditions: at most 1000 cells. -/
import Derived.Test.YtenobgelhkpjcaaFollow
namespace Go.Proofs.Ytenobgelhkpjcaa
open Go.ChangeShapes Go.WideShapes Go.RowKit
theorem under42 : Try.prog.underlying 42 = some (.slice (Try.prog.elem 42)) := by kernel_rfl
theorem sizeE42 (w : World) : (sizeOf (Try.prog.elem 42)).run Try.prog w = .ok 1 w := by kernel_rfl
theorem cut_next (A : Option Addr) (n cap k : Nat) (hc : k ≤ cap) (w : World) :
    (Instr.slice 42 (.slice A n cap) none (some (.int .i64 (k : Int))) none).run Try.prog w = .ok (.slice A k cap) w := by
  rw [run_slice_h w 42 A n cap under42 .i64 _ (by omega) (by omega), sizeE42]
  simp only [Result.andThen, sliced, Int.toNat_natCast, Nat.sub_zero, Nat.zero_mul]
  rcases A with _ | ad
  · split <;> rfl
  · split <;> simp [Addr.add]
section
variable {w w' : World} {L : Lim} {C : List Cel} {R : List Bool} {Q : List Nat} {q : Nat} {c : Cel}
theorem Srch.popped (h : Srch w L C ⟨R, Q ++ [q]⟩) : Srch (w.setCell ⟨L.p, 2, none⟩ (.slice L.An Q.length L.cn)) { L with m := Q.length } C ⟨R, Q⟩ ∧ Kept (fun g => g = L.p) w (w.setCell ⟨L.p, 2, none⟩ (.slice L.An Q.length L.cn)) := by
  have hk := kept_cell w ⟨L.p, 2, none⟩ (.slice L.An Q.length L.cn)
  have hl := h.lenQ
  simp at hl
  refine ⟨⟨heap_setCell_same w L.p 2 _ 44 _ h.box, h.cells.kept hk (fun g hg e => h.off g hg (.inl e)), own_kept h.oR hk (fun g hg e => by have e : g = L.p := e; subst e; exact own_off h.oR h.box (by decide) hg), ?_, h.off⟩, hk⟩
  have ho := own_kept h.oQ hk (fun g hg e => by have e : g = L.p := e; subst e; exact own_off h.oQ h.box (by decide) hg)
  refine ⟨by unfold nats; rw [flat_len nat_len], ?_⟩
  rcases ho.2 with ⟨e, h0⟩ | ⟨g', c', cur, e, hb, hh, h1, h2, h3, h4⟩
  · omega
  · injection e with e1 e2 e3
    subst e3
    refine .inr ⟨g', L.cn, cur, by dsimp only; rw [e1], hb, hh, by dsimp only; omega, h2, h3, ?_⟩
    have e : cur.toList.take (Q.length * 1) = (cur.toList.take (L.m * 1)).take (Q.length * 1) := by rw [List.take_take]; congr 1; omega
    dsimp only
    rw [e, h4]
    unfold nats
    rw [List.flatMap_append, List.take_append_of_le_length (by rw [flat_len nat_len]; omega), List.take_of_length_le (by rw [flat_len nat_len]; omega)]
set_option maxRecDepth 100000 in
set_option maxHeartbeats 1000000 in
theorem take_any (h : Srch w L C ⟨R, Q ++ [q]⟩) (hc : C[q]? = some c) (hL : L.n ≤ 1000) (hm : L.m ≤ 1000) : Calls Try.prog 17 #[.pointer (some ⟨L.p, 0, none⟩)] w fun e w' =>
    e = .returned (.agg c.cs.toArray) ∧ Srch w' { L with m := Q.length } C ⟨R, Q⟩ ∧ Kept L.S w w' := by
  have hl := h.lenQ
  simp at hl
  have hlC := h.lenC
  have hqn : q < C.length := (List.getElem?_eq_some_iff.1 hc).1
  obtain ⟨k, ek⟩ : ∃ k, k = Q.length := ⟨_, rfl⟩
  have hx : (Q ++ [q])[k]? = some q := by rw [ek]; simp
  obtain ⟨gN, eN, ⟨csN, hbN⟩, hr, _⟩ := own_at nat_len h.oQ hx (by omega)
  have cN : w.cell? ⟨gN, k, none⟩ = some (.int .i64 (q : Int)) := by have := hr 0 _ rfl; simpa using this
  obtain ⟨hP1, hP2⟩ := h.popped
  have hcap := own_cap h.oQ
  rw [← ek] at hP1 hP2 hl
  have hlt := h.lt
  obtain ⟨p, Ac, n, cc, Ar, cr, An, m, cn⟩ := L
  dsimp only at eN hcap hl hP1 hP2 hlC hL hm ⊢
  subst eN hl
  have hpl : p < w.heap.size := h.box.lt
  have c1 : w.cell? ⟨p, 2, none⟩ = some (.slice (some ⟨gN, 0, none⟩) (k + 1) cn) := h.box.cell 2
  have z1a : ∀ o, (w.alloc o).frozen? ⟨p, 2, none⟩ = false := fun o => (h.below ((Below.refl _ w).alloc (Nat.le_refl _) o)).box.free 2
  have z1 := h.box.free 2
  have c1a : ∀ o, (w.alloc o).cell? ⟨p, 2, none⟩ = some (.slice (some ⟨gN, 0, none⟩) (k + 1) cn) := fun o => (World.cell?_alloc_lt _ _ _ hpl).trans c1
  have cNa : ∀ o, (w.alloc o).cell? ⟨gN, k, none⟩ = some (.int .i64 (q : Int)) := fun o => (World.cell?_alloc_lt _ _ _ hbN.lt).trans cN
  have hsl := cut_next (some ⟨gN, 0, none⟩) (k + 1) cn k (by omega)
  have hq2 : ((k : Nat) : Int) + 1 - 1 = (k : Int) := by omega
  have hwk : IntKind.i64.wrap (k : Int) = (k : Int) := by rw [IntKind.wrap_i64]; omega
  have hwq : IntKind.i64.wrap (q : Int) = (q : Int) := by rw [IntKind.wrap_i64]; omega
  obtain ⟨V1, eV1⟩ : ∃ W, W = w.setCell ⟨p, 2, none⟩ (.slice (some ⟨gN, 0, none⟩) k cn) := ⟨_, rfl⟩
  rw [← eV1] at hP1 hP2
  have hsz : V1.heap.size = w.heap.size := by rw [eV1]; simp [World.setCell]
  obtain ⟨W2, eW2⟩ : ∃ W, W = V1.alloc (.cells #[.int .i64 0, .int .i64 0, .int .i64 0, .int .i64 0, .int .i64 0, .int .i64 0, .int .i64 0, .int .i64 0, .int .i64 0, .int .i64 0] 38) := ⟨_, rfl⟩
  have hb2 : Below V1.heap.size V1 W2 := by rw [eW2]; exact (Below.refl _ V1).alloc (Nat.le_refl _) _
  have h2 := hP1.below hb2
  obtain ⟨gC, oC, eA, hrC⟩ := sees_at Cel.len h2.cells hc (by omega)
  dsimp only at eA
  subst eA
  have c2a : ∀ o, ((w.setCell ⟨p, 2, none⟩ (.slice (some ⟨gN, 0, none⟩) k cn)).alloc o).cell? ⟨p, 0, none⟩ = some (.slice (some ⟨gC, oC, none⟩) n cc) := fun o => by
    rw [← eV1]
    exact (World.cell?_alloc_lt _ _ _ hP1.box.lt).trans (hP1.box.cell 0)
  have bq : (0 : Int) ≤ (q : Int) := by omega
  have bq2 : (q : Int) < (n : Int) := by omega
  have b22 : Blk W2 w.heap.size 38 noC.cs.toArray := by rw [eW2, ← hsz]; exact heap_alloc_new V1 _
  have hk2 : Kept (fun g => g = p) w W2 := hP2.next (kept_below (fun _ => False) hb2) (fun _ e => e.elim)
  have HPP := Lib.hid (And.intro h2 hk2)
  have hcl := h.cells.lt
  have EK := Lib.hid ek
  have EW1 := Lib.hid eV1
  have EW2 := Lib.hid eW2
  clear hP1 hP2 h2 hk2 h hr hb2 hc hx ek eV1 eW2 hbN c1 cN hsz
  go_enter Try.func17, Try.ntmps17
  go_wp2_with (first
    | (rw [← EW1.out, ← EW2.out]
       refine wpList_load_mid rfl 38 (.tmp 32) rfl gC (oC + q * 10) rfl c.cs _ hrC Try.underlying38 rfl (load38 c) ?_)
    | (refine wpList_store_row rfl 38 (.tmp 2) (.tmp 33) rfl w.heap.size c.cs.toArray rfl rfl 38 noC.cs.toArray b22 size38 rfl c.onea ?_))
  have kz := kept_row W2 w.heap.size c.cs.toArray
  obtain ⟨h2, hk2⟩ := HPP.out
  refine bodyPost_ret (results_cell_row (cs := c.cs.toArray) rfl _ _ w.heap.size 38 (0, 0) _ rfl (setRow_heap _ _ _ _ _ _ b22) Try.underlying38 rfl size38) rfl ?_
  rw [← EK.out]
  refine ⟨rfl, h2.kept kz (fun g hg e => ?_) (fun g hg e => ?_), (hk2.next kz (fun g e => .inr (by have e : g = w.heap.size := e; omega))).more (fun g e => .inl e)⟩
  · have e : g = w.heap.size := e
    have := hlt g hg
    omega
  · have e : g = w.heap.size := e
    have := hcl g hg
    omega
end
end Go.Proofs.Ytenobgelhkpjcaa
