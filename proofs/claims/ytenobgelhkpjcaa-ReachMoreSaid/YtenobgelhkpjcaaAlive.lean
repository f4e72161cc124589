/- A live cell and no word; a word that reaches one. Conditions: none. -/
import Derived.Test.YtenobgelhkpjcaaLeaks
import Derived.Test.YtenobgelhkpjcaaSame
namespace Go.Proofs.Ytenobgelhkpjcaa
open Go.ChangeShapes Go.WideShapes Go.RowKit
theorem sees_made {W : World} {z k : Nat} {t : TypeId} {cs : List Value} (h : Blk W z t cs.toArray) (hk : cs.length = k) : Sees W k (some ⟨z, 0, none⟩) 1 1 cs :=
  ⟨by omega, Nat.le_refl _, by decide, fun e => (by cases e), fun ad e _ => by
    injection e with e
    subst e
    exact ⟨z, 0, rfl, h.lt, range_blk h⟩⟩
def cel1 : Cel := ⟨1, 1, 2, 3, noW, noW⟩
def cel2 : Cel := ⟨1, 1, 0, 0, noW, noW⟩
theorem leak1 {R : List Bool} (h : IsReach [cel1] [] R) : leaksTo [cel1] R 1 = [⟨6, 2, 3⟩] := by
  have e : R = [false] := by
    refine h.eq ⟨rfl, fun i => ⟨fun h => ?_, fun h => ?_⟩⟩
    · match i, h with
      | 0, h => simp at h
      | i + 1, h => simp at h
    · exfalso
      induction h with
      | word hx _ => cases hx
      | fld _ _ _ ih => exact ih
  subst e
  decide
theorem reach1 {R : List Bool} (h : IsReach [cel2] [⟨1, 1, 1⟩] R) : R = [true] := by
  refine h.eq ⟨rfl, fun i => ⟨fun h => ?_, fun h => ?_⟩⟩
  · match i, h with
    | 0, _ => exact .word (x := ⟨1, 1, 1⟩) (by simp) (by decide)
    | i + 1, h => simp at h
  · have := h.lt
    obtain rfl : i = 0 := by simpa using this
    rfl
set_option maxRecDepth 100000 in
set_option maxHeartbeats 2000000 in
theorem alive_any (w : World) : Calls Try.prog 6 #[] w fun e w' => e = .returned (.bool true) ∧ Below w.heap.size w w' := by
  obtain ⟨W1, eW1⟩ : ∃ W, W = w.alloc (.cells #[.int .i64 1, .int .i64 1, .int .i64 2, .int .i64 3, .int .i64 0, .int .i64 0, .int .i64 0, .int .i64 0, .int .i64 0, .int .i64 0] 38) := ⟨_, rfl⟩
  have hb1 : Below w.heap.size w W1 := by rw [eW1]; exact (Below.refl _ w).alloc (Nat.le_refl _) _
  have hB1 : Blk W1 w.heap.size 38 cel1.cs.toArray := by rw [eW1]; exact heap_alloc_new w _
  have hlk := leaks_any (C := [cel1]) (l := []) (sees_nil W1 3) (by rw [show flatC [cel1] = cel1.cs from rfl]; exact sees_made hB1 rfl) (by omega) (by omega)
  go_enter Try.func6, Try.ntmps6
  go_wp2_with fail
  rw [← eW1]
  clear eW1
  refine hlk.mono ?_
  rintro e w2 ⟨A, cap, R, hR, rfl, hs, hb2, _⟩
  rw [show [cel1].length = 1 from rfl, leak1 hR] at hs
  rw [show [cel1].length = 1 from rfl, leak1 hR]
  have hbw := hb1.trans (hb2.mono hb1.size)
  clear hlk hR hb1 hB1 hb2
  obtain ⟨W3, eW3⟩ : ∃ W, W = (w2.alloc (.cells #[.int .i64 1, .int .i64 1, .int .i64 1] 35)).alloc (.cells #[.int .i64 1, .int .i64 1, .int .i64 0, .int .i64 0, .int .i64 0, .int .i64 0, .int .i64 0, .int .i64 0, .int .i64 0, .int .i64 0] 38) := ⟨_, rfl⟩
  have hb3 : Below w2.heap.size w2 W3 := by rw [eW3]; exact ((Below.refl _ w2).alloc (Nat.le_refl _) _).alloc (by simp) _
  have hB3 : Blk W3 w2.heap.size 35 (Wd.cs ⟨1, 1, 1⟩).toArray := by rw [eW3]; exact Blk.on (heap_alloc_new w2 _) ((Below.refl _ _).alloc (Nat.le_refl _) _)
  have hB4 : Blk W3 (w2.heap.size + 1) 38 cel2.cs.toArray := by rw [eW3]; exact blk_new _ _ 38 _ (by simp)
  have hrc := reached_any (C := [cel2]) (l := [⟨1, 1, 1⟩]) (by rw [show flatW [⟨1, 1, 1⟩] = Wd.cs ⟨1, 1, 1⟩ from rfl]; exact sees_made hB3 rfl) (by rw [show flatC [cel2] = cel2.cs from rfl]; exact sees_made hB4 rfl) (by omega) (by omega)
  go_wp2_with fail
  rw [← eW3]
  clear eW3
  refine hrc.mono ?_
  rintro e w5 ⟨A5, cap5, R5, rfl, hR5, hs5, hb5, _⟩
  have e5 := reach1 hR5
  subst e5
  have hb35 := hb3.trans (hb5.mono hb3.size)
  have hs' := hs.below hb35
  obtain ⟨g, o, rfl, hr⟩ := sees_at (x := (⟨6, 2, 3⟩ : Ky)) (i := 0) Ky.len hs' rfl (by omega)
  obtain ⟨g', o', rfl, hr'⟩ := sees_at (x := true) (i := 0) bool_len hs5 rfl (by omega)
  have c0 : w5.cell? ⟨g, o, none⟩ = some (.int .i64 6) := hr 0 _ rfl
  have c1 : w5.cell? ⟨g, o + 1, none⟩ = some (.int .i64 2) := hr 1 _ rfl
  have c2 : w5.cell? ⟨g, o + 2, none⟩ = some (.int .i64 3) := hr 2 _ rfl
  have q0 : w5.cell? ⟨g', o', none⟩ = some (.bool true) := hr' 0 _ rfl
  have HB := Lib.hid (hbw.trans (hb35.mono hbw.size))
  clear hr hr' hs hs' hs5 hbw hb3 hb5 hb35 hrc hR5 hB3 hB4
  go_wp2
  go_ret
  exact ⟨rfl, HB.out⟩
end Go.Proofs.Ytenobgelhkpjcaa
