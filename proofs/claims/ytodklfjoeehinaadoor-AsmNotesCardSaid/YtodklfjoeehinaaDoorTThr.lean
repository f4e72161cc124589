/- What asm's thread answers, and what it turns: a text's list of lists has one more. Conditions: fewer than four threads so far. -/
import Derived.Test.YtodklfjoeehinaaDoorText
namespace Go.Proofs.YtodklfjoeehinaaDoor
open Go.RowKit Nine

/-- What a line that is taken answers, and leaves. -/
def Takes (g : Nat) (u : St) (w : World) (e : Ending) (w' : World) : Prop := e = .returned (.int .i64 0) ∧ Txts w' g u ∧ Below g w w'
set_option maxRecDepth 100000 in
set_option maxHeartbeats 1000000 in
theorem thread_line {w : World} {g : Nat} {r c s : Int} {xss : List (List Ins)} (h : Txts w g ⟨true, r, c, s, xss⟩) (hx : xss.length < 4) :
    Calls Tryd.prog 43 #[.pointer (some ⟨g, 0, none⟩)] w (Takes g ⟨true, r, c, s, xss ++ [[]]⟩ w) := by
  obtain ⟨i0, hi0, hz0, hz1, hz2⟩ := info_parts info46
  have Z0 := Lib.hid hz0
  have Z1 := Lib.hid hz1
  have Z2 := Lib.hid hz2
  have I0 := Lib.hid hi0
  clear hz0 hz1 hz2 hi0
  obtain ⟨v, B, vs, h⟩ := h
  obtain ⟨A, cap, rfl⟩ := own_slice h.own
  have hgl := h.blk.lt
  have HH := Lib.hid h
  have x4 : w.cell? ⟨g, 4, none⟩ = some (.slice A xss.length cap) := h.blk.cell 4
  have f4 := h.blk.free 4
  have hoc := own_cap h.own
  have HO : Hid (w.ownsRow (g + 1) 50 1 (.slice A xss.length cap) xss.length vs) := Lib.hid h.own
  obtain ⟨n, hn⟩ : ∃ n, xss.length = n := ⟨_, rfl⟩
  have HN := Lib.hid hn
  simp only [hn] at x4 hoc HO hx
  clear h hn
  have t0 : ((n : Int) == 4) = false := by simp; omega
  have HK : Hid (∀ (w5 : World) (gn capn : Nat), (w.alloc (.cells #[.slice none 0 0] 50)).grownBy w5 (Value.slice A n cap).ownBlock → w5.ownsRow (g + 1) 50 1 (.slice (some ⟨gn, 0, none⟩) (n + 1) capn) (n + 1) (vs ++ [.slice none 0 0]) →
      w5.heap[g]? = w.heap[g]? ∧ Takes g ⟨true, r, c, s, xss ++ [[]]⟩ w (.returned (.int .i64 0)) (w5.setCell ⟨g, 4, none⟩ (.slice (some ⟨gn, 0, none⟩) (n + 1) capn))) := Lib.hid fun w5 gn capn hg5 ho5 => by
    have hgv : some g ≠ (Value.slice A n cap).ownBlock := fun e => by have := (HO.out.lt g e.symm).1; omega
    have hg : w.grownBy w5 (Value.slice A xss.length cap).ownBlock := by
      rw [HN.out]
      exact ⟨hg5.os, hg5.tape, hg5.output, by have := hg5.size; simp at this; omega, fun k hk hne => (hg5.block k (by simp; omega) hne).trans (Below.heap_alloc w _ k hk)⟩
    rw [← HN.out] at ho5 hgv
    refine ⟨hg.block g hgl hgv, rfl, ⟨_, _, _, txt_thread HH.out hg ho5 (by rw [HN.out])⟩, ?_⟩
    exact ((Below.refl g w).grown hg (by omega) fun k hk => by have := (HH.out.own.lt k hk).1; omega).setCell (Nat.le_refl _) _
  clear HH
  go_enter Tryd.func43, Tryd.ntmps43
  go_wp2_with (first
    | (at_builtin; refine wpList_append_lies _ rfl (.tmp 15) (.tmp 16) 30 rfl (g + 1) 50 i0 (.slice none 0 0) 1 24 Tryd.underlying30 I0.out Z0.out Z1.out Z2.out rfl (by decide) (.slice A n cap) n vs rfl (HO.out.alloc _) ⟨w.heap.size, 0, none⟩ 1 1 [.slice none 0 0] rfl rfl (cell_one_new _ _ _) (by simp [Value.oneCell']) (by decide) (by unfold maxLen; omega) (by omega) (by rw [size_alloc]; omega) _ rfl ?_; intro gn capn w5 hown5 hg5 _ _; obtain ⟨hbl, hfin⟩ := HK.out w5 gn capn hg5 hown5; have HF := Lib.hid hfin; have k4 := (World.cell?_of_block (a := ⟨g, 4, none⟩) hbl).trans x4; have k5 := (World.frozen?_of_block (a := ⟨g, 4, none⟩) hbl).trans f4; clear hfin hbl hg5 hown5))
  go_ret
  exact HF.out
end Go.Proofs.YtodklfjoeehinaaDoor
