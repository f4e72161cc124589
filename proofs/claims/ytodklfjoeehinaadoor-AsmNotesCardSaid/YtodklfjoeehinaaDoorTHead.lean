/- What asm's head answers, and what it turns: a text's first line. Conditions: three numbers from 0 to 255; the variables lie as they are laid. -/
import Derived.Test.YtodklfjoeehinaaDoorTThr
namespace Go.Proofs.YtodklfjoeehinaaDoor
open Go.RowKit Nine

/-- The first k of three numbers. -/
def num3 (r c s : Int) (k : Nat) : Array Value := #[.int .i64 (if 0 < k then r else 0), .int .i64 (if 1 < k then c else 0), .int .i64 (if 2 < k then s else 0)]
theorem num3_set (r c s : Int) {k : Nat} (hk : k < 3) : (num3 r c s k).setIfInBounds k (.int .i64 ([r, c, s].getD k 0)) = num3 r c s (k + 1) := by
  rcases (by omega : k = 0 ∨ k = 1 ∨ k = 2) with rfl | rfl | rfl <;> rfl
theorem num3_at (r c s : Int) {k : Nat} (hk : k < 3) : ∃ v, (num3 r c s k)[k]? = some v := by
  rcases (by omega : k = 0 ∨ k = 1 ∨ k = 2) with rfl | rfl | rfl <;> exact ⟨_, rfl⟩
theorem head_words {r c s : Int} (hr : 0 ≤ r ∧ r ≤ 255) (hc : 0 ≤ c ∧ c ≤ 255) (hs : 0 ≤ s ∧ s ≤ 255) {k : Nat} (hk : k < 3) :
    ∃ y v, [Lib.itoa r, Lib.itoa c, Lib.itoa s].getD k [] = y ∧ [r, c, s].getD k 0 = v ∧ smallL (numL y) 255 = (v, true) ∧ y.length ≤ 21 := by
  have one : ∀ v : Int, 0 ≤ v ∧ v ≤ 255 → smallL (numL (Lib.itoa v)) 255 = (v, true) ∧ (Lib.itoa v).length ≤ 21 := fun v hv => by
    have hw : Wide v := ⟨by omega, by omega⟩
    rw [num_itoa v hw]
    exact ⟨by simp [smallL, hv], itoa_short hw⟩
  rcases (by omega : k = 0 ∨ k = 1 ∨ k = 2) with rfl | rfl | rfl
  · exact ⟨_, _, rfl, rfl, one r hr⟩
  · exact ⟨_, _, rfl, rfl, one c hc⟩
  · exact ⟨_, _, rfl, rfl, one s hs⟩

set_option maxRecDepth 100000 in
set_option maxHeartbeats 4000000 in
theorem head_line {w : World} {g : Nat} {r c s : Int} (h : Txts w g St.none) (hr : 0 ≤ r ∧ r ≤ 255) (hc : 0 ≤ c ∧ c ≤ 255) (hs : 0 ≤ s ∧ s ≤ 255)
    {A : Option Addr} {n cap : Nat} (hR : Row w w.heap.size A n cap [wFirst, Lib.itoa r, Lib.itoa c, Lib.itoa s]) (hL : Laid w) :
    Calls Tryd.prog 42 #[.pointer (some ⟨g, 0, none⟩), .slice A n cap] w (Takes g ⟨true, r, c, s, []⟩ w) := by
  obtain rfl : n = 4 := hR.len.symm
  obtain ⟨v, B, vs, h⟩ := h
  have hgl := h.blk.lt
  have hrm := hR.most
  have hrr := hR.room
  unfold maxLen at hrm
  obtain ⟨W0, eW0⟩ : ∃ W0, W0 = w.alloc (.cells #[.int .i64 0, .int .i64 0, .int .i64 0] 81) := ⟨_, rfl⟩
  obtain ⟨h1, eh1⟩ : ∃ h1, w.heap.size = h1 := ⟨_, rfl⟩
  have b0 : Below w.heap.size w W0 := by rw [eW0]; exact (Below.refl _ w).alloc (Nat.le_refl _) _
  have p0 : Blk W0 h1 81 (num3 r c s 0) := by rw [eW0, ← eh1]; exact heap_alloc_new w _
  obtain ⟨ad, rfl, hadl, hcw⟩ := (hR.below b0).at_ 0 (by omega)
  rw [add_nought] at hcw
  replace hcw : W0.cell? ad = some (.string ⟨#[119, 97, 114, 114, 101, 110, 101, 114]⟩) := hcw
  have htl : Row w w.heap.size (tl (some ad) cap) 3 (cap - 1) [Lib.itoa r, Lib.itoa c, Lib.itoa s] := tl_row hR
  have hsl := cut_first (some ad) 3 cap
  obtain ⟨T, hT⟩ : ∃ T, tl (some ad) cap = T := ⟨_, rfl⟩
  rw [hT] at htl hsl
  have HH := Lib.hid h
  have HL := Lib.hid hL
  have HW := Lib.hid (fun (k : Nat) (hk : k < 3) => head_words hr hc hs hk)
  have HR := Lib.hid htl
  clear h hL hr hc hs htl hR hT
  rw [eW0] at hcw
  go_enter Tryd.func42, Tryd.ntmps42
  go_wp2_with fail
  go_loopw [22] (fun v wr => ∃ k : Nat, v = .int .i64 k ∧ k ≤ 3 ∧ Blk wr h1 81 (num3 r c s k) ∧ Below w.heap.size w wr) (fun v _ => 3 - (intOf v).toNat)
  case atStart => exact ⟨0, rfl, by decide, by rw [← eW0]; exact p0, by rw [← eW0]; exact b0⟩
  case round =>
    clear hcw p0 b0
    obtain ⟨k, rfl, hk, hB, hb⟩ := hrel
    have hbs := hb.size
    rw [eh1] at hbs
    by_cases hlt : k < 3
    · have t0 : decide ((k : Int) < 3) = true := decide_eq_true (by omega)
      obtain ⟨ad2, e2, _, hck⟩ := (HR.out.below hb).at_ k hlt
      subst e2
      obtain ⟨y, v, hy, hv, hsm, hyl⟩ := HW.out k hlt
      rw [hy] at hck
      have hS := small_any (txt y) (by rw [txt_size]; omega) 255 wr (HL.out.on hb)
      rw [oct_txt, hsm] at hS
      have i0 : (0 : Int) ≤ (k : Int) := by omega
      have i1 : (k : Int) < 3 := by omega
      obtain ⟨u, hu⟩ := num3_at r c s hlt
      have HV := Lib.hid hv
      clear hy hv hsm
      go_wp2_with fail
      refine hS.mono ?_
      rintro e w2 ⟨rfl, hb2⟩
      have z1 := hB.below hb2 hB.lt
      have hk0 : w2.cell? ⟨h1, k, none⟩ = some u := (z1.cell k).trans hu
      have hk1 := z1.free k
      have HS : Hid (Blk (w2.setCell ⟨h1, k, none⟩ (.int .i64 v)) h1 81 (num3 r c s (k + 1)) ∧ Below w.heap.size w (w2.setCell ⟨h1, k, none⟩ (.int .i64 v))) := Lib.hid ⟨by rw [← num3_set r c s hlt, HV.out]; exact z1.set_ k _, (hb.trans (hb2.mono hb.size)).setCell (by show w.heap.size ≤ h1; omega) _⟩
      clear z1 hb2 hS hck
      go_wp2
      go_roundw
      case rel => exact ⟨k + 1, by go_num, by omega, HS.out.1, HS.out.2⟩
      case measure => simp [intOf]; omega
    · obtain rfl : k = 3 := by omega
      have t0 : decide (((3 : Nat) : Int) < 3) = false := decide_eq_false (by omega)
      have HB := Lib.hid hB
      have x0 : wr.cell? ⟨h1, 0, none⟩ = some (.int .i64 r) := hB.cell 0
      have x1 : wr.cell? ⟨h1, 1, none⟩ = some (.int .i64 c) := hB.cell 1
      have x2 : wr.cell? ⟨h1, 2, none⟩ = some (.int .i64 s) := hB.cell 2
      have hT := HH.out.on hb
      have y0 : wr.cell? ⟨g, 0, none⟩ = some (.bool false) := hT.blk.cell 0
      have y1 : wr.cell? ⟨g, 1, none⟩ = some (.int .i64 0) := hT.blk.cell 1
      have y2 : wr.cell? ⟨g, 2, none⟩ = some (.int .i64 0) := hT.blk.cell 2
      have y3 : wr.cell? ⟨g, 3, none⟩ = some (.int .i64 0) := hT.blk.cell 3
      have f0 := hT.blk.free 0
      have f1 := hT.blk.free 1
      have f2 := hT.blk.free 2
      have f3 := hT.blk.free 3
      have hne : g ≠ h1 := by omega
      have hne2 : h1 ≠ g := by omega
      have HFIN : Hid (Takes g ⟨true, r, c, s, []⟩ w (.returned (.int .i64 0)) ((((wr.setCell ⟨g, 0, none⟩ (.bool true)).setCell ⟨g, 1, none⟩ (.int .i64 r)).setCell ⟨g, 2, none⟩ (.int .i64 c)).setCell ⟨g, 3, none⟩ (.int .i64 s)).drew) := Lib.hid ⟨rfl, ⟨v, B, vs, by
        have q := (((hT.blk.set_ 0 (.bool true)).set_ 1 (.int .i64 r)).set_ 2 (.int .i64 c)).set_ 3 (.int .i64 s)
        refine txt_head hT r c s (by simp [World.setCell]) (fun k hk _ => ?_) q
        exact (heap_set _ g 3 k _ (by omega)).trans ((heap_set _ g 2 k _ (by omega)).trans ((heap_set _ g 1 k _ (by omega)).trans (heap_set _ g 0 k _ (by omega))))⟩,
        below_drew (((((hb.mono (by omega : g ≤ w.heap.size)).setCell (by exact Nat.le_refl g) _).setCell (by exact Nat.le_refl g) _).setCell (by exact Nat.le_refl g) _).setCell (by exact Nat.le_refl g) _) 1⟩
      clear HB hB hT
      go_wp2_with fail
      go_region
      go_wp2
      go_ret
      exact HFIN.out
end Go.Proofs.YtodklfjoeehinaaDoor
