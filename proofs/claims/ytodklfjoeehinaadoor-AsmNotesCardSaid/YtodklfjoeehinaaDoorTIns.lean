/- What asm's instr of a text answers, and what it turns: a text's last list has one more. Conditions: at most four threads, fewer than sixteen instructions in the last; the words are an instruction's; the variables lie as they are laid. -/
import Derived.Test.YtodklfjoeehinaaDoorTThr
import Derived.Deep.RegionLaw
namespace Go.Proofs.YtodklfjoeehinaaDoor
open Go.RowKit Nine

set_option maxRecDepth 100000 in
set_option maxHeartbeats 4000000 in
theorem instr_line {w : World} {g : Nat} {r c s : Int} {pre : List (List Ins)} {xs : List Ins} {x : Ins} (h : Txts w g ⟨true, r, c, s, pre ++ [xs]⟩) (hp : pre.length < 4) (hm : xs.length < 16)
    {A : Option Addr} {n cap : Nat} {ws : List (List UInt8)} (hR : Row w w.heap.size A n cap ws) (hy : ∀ y ∈ ws, y.length ≤ 140737488355328) (hL : Laid w) (hi : instrA ws = (x, 0)) :
    Calls Tryd.prog 44 #[.pointer (some ⟨g, 0, none⟩), .slice A n cap] w (Takes g ⟨true, r, c, s, pre ++ [xs ++ [x]]⟩ w) := by
  obtain ⟨i0, hi0, hz0, hz1, hz2⟩ := info_parts info45
  have Z0 := Lib.hid hz0
  have Z1 := Lib.hid hz1
  have Z2 := Lib.hid hz2
  have I0 := Lib.hid hi0
  clear hz0 hz1 hz2 hi0
  have hI := instr_any A n cap ws w hR hy hL
  rw [hi] at hI
  obtain ⟨v, B, vs, h⟩ := h
  have hgl := h.blk.lt
  have hrn := hR.room
  have hrm := hR.most
  clear hR hy hL hi
  obtain ⟨x0, x1, x2, x3, x4⟩ := x
  replace hI : Calls Tryd.prog 16 #[.slice A n cap] w (fun e w' => e = .returned (.tuple #[.agg #[.int .i64 x0, .int .i64 x1, .int .i64 x2, .int .i64 x3, .int .i64 x4], .int .i64 0]) ∧ Below w.heap.size w w') := hI
  go_enter Tryd.func44, Tryd.ntmps44
  go_wp2_with fail
  refine hI.mono ?_
  rintro e w1 ⟨rfl, hb1⟩
  obtain ⟨W2, eW2⟩ : ∃ W2, W2 = w1.alloc (.cells #[.int .i64 x0, .int .i64 x1, .int .i64 x2, .int .i64 x3, .int .i64 x4] 25) := ⟨_, rfl⟩
  obtain ⟨g5, hg5⟩ : ∃ g5, w1.heap.size = g5 := ⟨_, rfl⟩
  have b2 : Below w.heap.size w W2 := by rw [eW2]; exact hb1.alloc hb1.size _
  have m5 : Blk W2 g5 25 (ins x0 x1 x2 x3 x4) := by rw [eW2, ← hg5]; exact heap_alloc_new w1 _
  replace h := h.on b2
  obtain ⟨Ah, caph, rfl⟩ := own_slice h.own
  obtain ⟨u, hu, hou⟩ := h.last pre.length xs (by simp) (by simp)
  obtain ⟨A1, c1, rfl⟩ := own_slice hou
  have ho := h.own
  have hlen : (pre ++ [xs]).length = pre.length + 1 := by simp
  simp only [hlen] at ho
  obtain ⟨hl, caph2, e2, hlg, hlw⟩ := ho.form (by omega)
  injection e2 with e2 _ e3
  subst e2 e3
  simp only [hlen] at h
  have hblk : Blk W2 g 56 (txtC ⟨true, r, c, s, pre ++ [xs]⟩ (.slice (some ⟨hl, 0, none⟩) (pre.length + 1) caph)) := h.blk
  have k4 : W2.cell? ⟨g, 4, none⟩ = some (.slice (some ⟨hl, 0, none⟩) (pre.length + 1) caph) := hblk.cell 4
  have kl : W2.cell? ⟨hl, pre.length, none⟩ = some (.slice A1 xs.length c1) := (ho.cellAt pre.length (by omega)).trans hu
  have kf : W2.frozen? ⟨hl, pre.length, none⟩ = false := ho.frozenAt pre.length
  obtain ⟨d0, d1, d2, d3, d4⟩ := At5.blk m5
  have hoc := own_cap ho
  have hoc1 := own_cap hou
  have hBW := h.high
  have hgl2 := hblk.lt
  have HFIN : Hid (∀ (w5 : World) (gn capn n1 : Nat), W2.grownBy w5 (Value.slice A1 xs.length c1).ownBlock → n1 = xs.length + 1 → w5.ownsRow B 25 5 (.slice (some ⟨gn, 0, none⟩) n1 capn) n1 (flat5 xs ++ [.int .i64 x0, .int .i64 x1, .int .i64 x2, .int .i64 x3, .int .i64 x4]) →
      w5.heap[hl]? = W2.heap[hl]? ∧ w5.heap[g]? = W2.heap[g]? ∧ Takes g ⟨true, r, c, s, pre ++ [xs ++ [⟨x0, x1, x2, x3, x4⟩]]⟩ w (.returned (.int .i64 0)) (w5.setCell ⟨hl, pre.length, none⟩ (.slice (some ⟨gn, 0, none⟩) n1 capn))) := Lib.hid fun w5 gn capn n1 hg5 hn ho5 => by
    have hne : some hl ≠ (Value.slice A1 xs.length c1).ownBlock := fun e => own_apart ho hou (by decide) rfl e.symm rfl
    refine ⟨hg5.block hl hlw hne, hg5.block g hgl2 (fun e => by have := (hou.lt g e.symm).1; have := h.low; omega), rfl, ⟨_, _, _, txt_instr (x := ⟨x0, x1, x2, x3, x4⟩) h hu hg5 hn ho5 rfl⟩, ?_⟩
    exact ((b2.mono (by omega : g ≤ w.heap.size)).grown hg5 (by omega) fun k hk => by have := (hou.lt k hk).1; have := h.low; omega).setCell (by show g ≤ hl; omega) _
  have HU : Hid (W2.ownsRow B 25 5 (.slice A1 xs.length c1) xs.length (flat5 xs)) := Lib.hid hou
  obtain ⟨m, em⟩ : ∃ m, xs.length = m := ⟨_, rfl⟩
  obtain ⟨p, ep⟩ : ∃ p, pre.length = p := ⟨_, rfl⟩
  obtain ⟨N, eN⟩ : ∃ N, p + 1 = N := ⟨_, rfl⟩
  simp only [em, ep, eN] at k4 kl kf HU HFIN hm hp hoc hoc1
  have j0 : (0 : Int) ≤ (p : Int) := by omega
  have j1 : (p : Int) < (N : Int) := by omega
  have j2 : (N : Int) - 1 = (p : Int) := by omega
  have t0 : ((m : Int) == 16) = false := by simp; omega
  clear hblk hlen ho hou h hu b2 m5 hb1 hI em ep eN
  rw [eW2] at k4 kl kf d0 d1 d2 d3 d4
  go_wp2_with fail
  rw [← eW2]
  rw [← eW2] at k4 kl kf d0 d1 d2 d3 d4
  clear eW2 hg5
  have HG : Hid (∀ (w5 : World) (o : Obj), (W2.drew.alloc o).grownBy w5 (Value.slice A1 m c1).ownBlock → W2.grownBy w5 (Value.slice A1 m c1).ownBlock) := Lib.hid fun w5 o h =>
    ⟨h.os, h.tape, h.output, by have := h.size; simp at this; omega, fun k hk hne => (h.block k (by simp; omega) hne).trans (Below.heap_alloc W2.drew o k hk)⟩
  have k4d : W2.drew.cell? ⟨g, 4, none⟩ = some (.slice (some ⟨hl, 0, none⟩) N caph) := k4
  have kld : W2.drew.cell? ⟨hl, p, none⟩ = some (.slice A1 m c1) := kl
  have kfd : W2.drew.frozen? ⟨hl, p, none⟩ = false := kf
  have d0d : W2.drew.cell? ⟨g5, 0, none⟩ = some (.int .i64 x0) := d0
  have d1d : W2.drew.cell? ⟨g5, 1, none⟩ = some (.int .i64 x1) := d1
  have d2d : W2.drew.cell? ⟨g5, 2, none⟩ = some (.int .i64 x2) := d2
  have d3d : W2.drew.cell? ⟨g5, 3, none⟩ = some (.int .i64 x3) := d3
  have d4d : W2.drew.cell? ⟨g5, 4, none⟩ = some (.int .i64 x4) := d4
  have k4a : ∀ o, (W2.drew.alloc o).cell? ⟨g, 4, none⟩ = some (.slice (some ⟨hl, 0, none⟩) N caph) := fun o => (World.cell?_of_block (a := ⟨g, 4, none⟩) (Below.heap_alloc W2.drew o g hgl2)).trans k4
  have kla : ∀ o, (W2.drew.alloc o).cell? ⟨hl, p, none⟩ = some (.slice A1 m c1) := fun o => (World.cell?_of_block (a := ⟨hl, p, none⟩) (Below.heap_alloc W2.drew o hl hlw)).trans kl
  go_region_law (first
    | (refine step_append_lies _ (by rfl) _ _ _ (by rfl) B 25 i0 _ 5 40 Tryd.underlying50 I0.out Z0.out Z1.out Z2.out rfl (by omega) (.slice A1 m c1) m (flat5 xs) (by rfl) (HU.out.drew.alloc _)
        ⟨W2.heap.size, 0, none⟩ 1 1 [.int .i64 x0, .int .i64 x1, .int .i64 x2, .int .i64 x3, .int .i64 x4] (by rfl) (by rfl) (World.news_of_block (cs := #[.int .i64 x0, .int .i64 x1, .int .i64 x2, .int .i64 x3, .int .i64 x4]) (t := 25) (fr := (0, 0)) (heap_alloc_new W2.drew _)) (by simp [Value.oneCell'])
        (by omega) (by unfold maxLen; omega) (by omega) (by simp; omega) _ rfl ?_; intro gn capn w5 hown5 hg5 _ _
       obtain ⟨hbl, hbg, hfin⟩ := HFIN.out w5 gn capn (m + 1) (HG.out _ _ hg5) rfl hown5
       have HF := Lib.hid hfin
       have k6 := (World.cell?_of_block (a := ⟨hl, p, none⟩) hbl).trans kl
       have k7 := (World.frozen?_of_block (a := ⟨hl, p, none⟩) hbl).trans kf
       have k8 := (World.cell?_of_block (a := ⟨g, 4, none⟩) hbg).trans k4
       clear hfin hbl hbg hg5 hown5))
  all_goals (
    go_wp2
    go_ret
    exact HF.out)
end Go.Proofs.YtodklfjoeehinaaDoor
