/- The walk of ConfGets. Conditions: the variables lie as they are laid. -/
import Derived.Test.YtmkdmnaonddghaaDoorAlive
import Derived.Test.YtmkdmnaonddghaaDoorLawW
namespace Go.Proofs.YtmkdmnaonddghaaDoor
open Go.RowKit

set_option maxRecDepth 100000 in
set_option maxHeartbeats 2000000 in
theorem gets_any (xs : List Int) (ad : Option Addr) (n cap : Nat) (w : World) (h : Oct w w.heap.size ad n cap xs) (hL : Laid w) : Calls Tryd.prog 4 #[.slice ad n cap] w fun e w' => e = .returned (.bool true) ∧ Below w.heap.size w w' := by
  have hA := alive_any w hL
  have hmx := h.most
  have hrm := h.room
  unfold maxLen at hmx
  go_enter Tryd.func4, Tryd.ntmps4
  go_wp2_with fail
  refine hA.mono ?_
  rintro e w1 ⟨rfl, hb1⟩
  have HQ := Lib.hid hb1
  have hL1 := hL.on hb1
  have h1 := (h.below hb1).more hb1.size
  clear hA hL hb1 h
  by_cases hn : 30 < n
  · have t0 : decide ((30 : Int) < (n : Int)) = true := decide_eq_true (by omega)
    have hcut : ∀ W, (Instr.slice 29 (.slice ad n cap) none (some (.int .i64 30)) none).run Tryd.prog W = .ok (.slice ad 30 cap) W := fun W => cut_front ad n cap 30 (by omega) W
    have hO := h1.front (k := 30) (by omega)
    generalize xs.take 30 = ys at *
    clear h1
    have hG := get_any ys ad 30 cap w1 hL1 hO (by omega)
    have hWr := fun W (hW : Below w1.heap.size w1 W) => wrong_any ys ad 30 cap W ((hO.below hW).more hW.size) (by omega)
    have hsm := Lib.hid hO.small
    have HO := Lib.hid (fun W (hW : Below w1.heap.size w1 W) => hO.below hW)
    clear hO
    go_wp2_with fail
    refine hG.mono ?_
    rintro e w2 ⟨⟨x, y, hxy, hy, rfl⟩ | ⟨hxy, rfl⟩, hb2⟩
    · have y0 : (y == 0) = false := by simpa using hy
      have y1 : (y != 0) = true := by simpa using hy
      clear hy
      obtain ⟨W, eW⟩ : ∃ W, W = (w2.alloc (.cells #[.int .i64 0, .int .i64 0, .int .i64 0, .int .i64 0, .int .i64 0] 23)).alloc (.cells #[.int .i64 0, .int .i64 0, .bool false] 25) := ⟨_, rfl⟩
      have hb : Below w2.heap.size w2 W := by rw [eW]; exact ((Below.refl _ w2).alloc (Nat.le_refl _) _).alloc (by simp) _
      have hC0 : Blk W w2.heap.size 23 #[.int .i64 0, .int .i64 0, .int .i64 0, .int .i64 0, .int .i64 0] := by rw [eW]; exact Blk.below (heap_alloc_new w2 _) ((Below.refl _ _).alloc (Nat.le_refl _) _) (by simp)
      have hA0 : Blk W (w2.heap.size + 1) 25 #[.int .i64 0, .int .i64 0, .bool false] := by rw [eW]; exact heap_alloc2_new w2 _ _
      have q1 := hb2.trans (hb.mono hb2.size)
      have hW := hWr W q1
      rw [hxy] at hW
      simp only at hW
      clear hxy hG hWr
      go_wp2_with fail
      rw [← eW]
      clear eW
      refine hW.mono ?_
      rintro e w3 ⟨rfl, hb3⟩
      have B0 := hC0.below hb3 hC0.lt
      have B1 := hA0.below hb3 hA0.lt
      have c0 : w3.cell? ⟨w2.heap.size, 0, none⟩ = some (.int .i64 0) := B0.cell 0
      have c1 : w3.cell? ⟨w2.heap.size, 1, none⟩ = some (.int .i64 0) := B0.cell 1
      have c2 : w3.cell? ⟨w2.heap.size, 2, none⟩ = some (.int .i64 0) := B0.cell 2
      have c3 : w3.cell? ⟨w2.heap.size, 3, none⟩ = some (.int .i64 0) := B0.cell 3
      have c4 : w3.cell? ⟨w2.heap.size, 4, none⟩ = some (.int .i64 0) := B0.cell 4
      have d0 : w3.cell? ⟨w2.heap.size + 1, 0, none⟩ = some (.int .i64 0) := B1.cell 0
      have d1 : w3.cell? ⟨w2.heap.size + 1, 1, none⟩ = some (.int .i64 0) := B1.cell 1
      have d2 : w3.cell? ⟨w2.heap.size + 1, 2, none⟩ = some (.bool false) := B1.cell 2
      go_wp2
      go_ret
      have q3 := q1.trans (hb3.mono q1.size)
      exact ⟨by simp, HQ.out.trans (q3.mono HQ.out.size)⟩
    · obtain ⟨hl10, -, okc, oka, hoct⟩ := ten_of (by rw [hxy]) hsm.out
      have hPt := fun W hW => confput_good (cfgOf ys) (askOf ys) W hW (by rw [chkB_of, okc, oka]; rfl)
      rw [hoct] at hPt
      generalize cfgOf ys = c at *
      generalize askOf ys = a at *
      obtain ⟨s, o, t, f, d⟩ := c
      obtain ⟨m, b, st⟩ := a
      simp only at hPt
      clear okc oka hoct
      obtain ⟨W, eW⟩ : ∃ W, W = (w2.alloc (.cells #[.int .i64 s, .int .i64 o, .int .i64 t, .int .i64 f, .int .i64 d] 23)).alloc (.cells #[.int .i64 m, .int .i64 b, .bool st] 25) := ⟨_, rfl⟩
      have hb : Below w2.heap.size w2 W := by rw [eW]; exact ((Below.refl _ w2).alloc (Nat.le_refl _) _).alloc (by simp) _
      have hC0 : Blk W w2.heap.size 23 #[.int .i64 s, .int .i64 o, .int .i64 t, .int .i64 f, .int .i64 d] := by rw [eW]; exact Blk.below (heap_alloc_new w2 _) ((Below.refl _ _).alloc (Nat.le_refl _) _) (by simp)
      have hA0 : Blk W (w2.heap.size + 1) 25 #[.int .i64 m, .int .i64 b, .bool st] := by rw [eW]; exact heap_alloc2_new w2 _ _
      have q1 := hb2.trans (hb.mono hb2.size)
      have hW := hWr W q1
      rw [hxy] at hW
      simp only at hW
      clear hxy hG hWr
      go_wp2_with fail
      rw [← eW]
      clear eW
      refine hW.mono ?_
      rintro e w3 ⟨rfl, hb3⟩
      have B0 := hC0.below hb3 hC0.lt
      have B1 := hA0.below hb3 hA0.lt
      have c0 : w3.cell? ⟨w2.heap.size, 0, none⟩ = some (.int .i64 s) := B0.cell 0
      have c1 : w3.cell? ⟨w2.heap.size, 1, none⟩ = some (.int .i64 o) := B0.cell 1
      have c2 : w3.cell? ⟨w2.heap.size, 2, none⟩ = some (.int .i64 t) := B0.cell 2
      have c3 : w3.cell? ⟨w2.heap.size, 3, none⟩ = some (.int .i64 f) := B0.cell 3
      have c4 : w3.cell? ⟨w2.heap.size, 4, none⟩ = some (.int .i64 d) := B0.cell 4
      have d0 : w3.cell? ⟨w2.heap.size + 1, 0, none⟩ = some (.int .i64 m) := B1.cell 0
      have d1 : w3.cell? ⟨w2.heap.size + 1, 1, none⟩ = some (.int .i64 b) := B1.cell 1
      have d2 : w3.cell? ⟨w2.heap.size + 1, 2, none⟩ = some (.bool st) := B1.cell 2
      have q3 := q1.trans (hb3.mono q1.size)
      have hP := hPt w3 (hL1.on q3)
      go_wp2_with fail
      refine hP.mono ?_
      rintro e w4 ⟨A2, n2, cap2, rfl, ho2, hb4⟩
      have q4 := q3.trans (hb4.mono q3.size)
      have t1 := ho2.text (P := Tryd.prog) 29 9 5 Tryd.underlying29 Tryd.underlying5 Tryd.underlying9
      have t2 := (HO.out _ q4).text (P := Tryd.prog) 29 9 5 Tryd.underlying29 Tryd.underlying5 Tryd.underlying9
      generalize strOfNums ys = tx at *
      clear c0 c1 c2 c3 c4 d0 d1 d2 B0 B1 ho2
      go_wp2
      go_ret
      exact ⟨by simp, HQ.out.trans (q4.mono HQ.out.size)⟩
  · have t0 : decide ((30 : Int) < (n : Int)) = false := decide_eq_false (by omega)
    obtain ⟨ys, rfl⟩ : ∃ ys, xs = ys := ⟨_, rfl⟩
    have hO := h1
    clear h1
    have hG := get_any xs ad n cap w1 hL1 hO (by omega)
    have hWr := fun W (hW : Below w1.heap.size w1 W) => wrong_any xs ad n cap W ((hO.below hW).more hW.size) (by omega)
    have hsm := Lib.hid hO.small
    have HO := Lib.hid (fun W (hW : Below w1.heap.size w1 W) => hO.below hW)
    clear hO
    go_wp2_with fail
    refine hG.mono ?_
    rintro e w2 ⟨⟨x, y, hxy, hy, rfl⟩ | ⟨hxy, rfl⟩, hb2⟩
    · have y0 : (y == 0) = false := by simpa using hy
      have y1 : (y != 0) = true := by simpa using hy
      clear hy
      obtain ⟨W, eW⟩ : ∃ W, W = (w2.alloc (.cells #[.int .i64 0, .int .i64 0, .int .i64 0, .int .i64 0, .int .i64 0] 23)).alloc (.cells #[.int .i64 0, .int .i64 0, .bool false] 25) := ⟨_, rfl⟩
      have hb : Below w2.heap.size w2 W := by rw [eW]; exact ((Below.refl _ w2).alloc (Nat.le_refl _) _).alloc (by simp) _
      have hC0 : Blk W w2.heap.size 23 #[.int .i64 0, .int .i64 0, .int .i64 0, .int .i64 0, .int .i64 0] := by rw [eW]; exact Blk.below (heap_alloc_new w2 _) ((Below.refl _ _).alloc (Nat.le_refl _) _) (by simp)
      have hA0 : Blk W (w2.heap.size + 1) 25 #[.int .i64 0, .int .i64 0, .bool false] := by rw [eW]; exact heap_alloc2_new w2 _ _
      have q1 := hb2.trans (hb.mono hb2.size)
      have hW := hWr W q1
      rw [hxy] at hW
      simp only at hW
      clear hxy hG hWr
      go_wp2_with fail
      rw [← eW]
      clear eW
      refine hW.mono ?_
      rintro e w3 ⟨rfl, hb3⟩
      have B0 := hC0.below hb3 hC0.lt
      have B1 := hA0.below hb3 hA0.lt
      have c0 : w3.cell? ⟨w2.heap.size, 0, none⟩ = some (.int .i64 0) := B0.cell 0
      have c1 : w3.cell? ⟨w2.heap.size, 1, none⟩ = some (.int .i64 0) := B0.cell 1
      have c2 : w3.cell? ⟨w2.heap.size, 2, none⟩ = some (.int .i64 0) := B0.cell 2
      have c3 : w3.cell? ⟨w2.heap.size, 3, none⟩ = some (.int .i64 0) := B0.cell 3
      have c4 : w3.cell? ⟨w2.heap.size, 4, none⟩ = some (.int .i64 0) := B0.cell 4
      have d0 : w3.cell? ⟨w2.heap.size + 1, 0, none⟩ = some (.int .i64 0) := B1.cell 0
      have d1 : w3.cell? ⟨w2.heap.size + 1, 1, none⟩ = some (.int .i64 0) := B1.cell 1
      have d2 : w3.cell? ⟨w2.heap.size + 1, 2, none⟩ = some (.bool false) := B1.cell 2
      go_wp2
      go_ret
      have q3 := q1.trans (hb3.mono q1.size)
      exact ⟨by simp, HQ.out.trans (q3.mono HQ.out.size)⟩
    · obtain ⟨hl10, -, okc, oka, hoct⟩ := ten_of (by rw [hxy]) hsm.out
      have hPt := fun W hW => confput_good (cfgOf xs) (askOf xs) W hW (by rw [chkB_of, okc, oka]; rfl)
      rw [hoct] at hPt
      generalize cfgOf xs = c at *
      generalize askOf xs = a at *
      obtain ⟨s, o, t, f, d⟩ := c
      obtain ⟨m, b, st⟩ := a
      simp only at hPt
      clear okc oka hoct
      obtain ⟨W, eW⟩ : ∃ W, W = (w2.alloc (.cells #[.int .i64 s, .int .i64 o, .int .i64 t, .int .i64 f, .int .i64 d] 23)).alloc (.cells #[.int .i64 m, .int .i64 b, .bool st] 25) := ⟨_, rfl⟩
      have hb : Below w2.heap.size w2 W := by rw [eW]; exact ((Below.refl _ w2).alloc (Nat.le_refl _) _).alloc (by simp) _
      have hC0 : Blk W w2.heap.size 23 #[.int .i64 s, .int .i64 o, .int .i64 t, .int .i64 f, .int .i64 d] := by rw [eW]; exact Blk.below (heap_alloc_new w2 _) ((Below.refl _ _).alloc (Nat.le_refl _) _) (by simp)
      have hA0 : Blk W (w2.heap.size + 1) 25 #[.int .i64 m, .int .i64 b, .bool st] := by rw [eW]; exact heap_alloc2_new w2 _ _
      have q1 := hb2.trans (hb.mono hb2.size)
      have hW := hWr W q1
      rw [hxy] at hW
      simp only at hW
      clear hxy hG hWr
      go_wp2_with fail
      rw [← eW]
      clear eW
      refine hW.mono ?_
      rintro e w3 ⟨rfl, hb3⟩
      have B0 := hC0.below hb3 hC0.lt
      have B1 := hA0.below hb3 hA0.lt
      have c0 : w3.cell? ⟨w2.heap.size, 0, none⟩ = some (.int .i64 s) := B0.cell 0
      have c1 : w3.cell? ⟨w2.heap.size, 1, none⟩ = some (.int .i64 o) := B0.cell 1
      have c2 : w3.cell? ⟨w2.heap.size, 2, none⟩ = some (.int .i64 t) := B0.cell 2
      have c3 : w3.cell? ⟨w2.heap.size, 3, none⟩ = some (.int .i64 f) := B0.cell 3
      have c4 : w3.cell? ⟨w2.heap.size, 4, none⟩ = some (.int .i64 d) := B0.cell 4
      have d0 : w3.cell? ⟨w2.heap.size + 1, 0, none⟩ = some (.int .i64 m) := B1.cell 0
      have d1 : w3.cell? ⟨w2.heap.size + 1, 1, none⟩ = some (.int .i64 b) := B1.cell 1
      have d2 : w3.cell? ⟨w2.heap.size + 1, 2, none⟩ = some (.bool st) := B1.cell 2
      have q3 := q1.trans (hb3.mono q1.size)
      have hP := hPt w3 (hL1.on q3)
      go_wp2_with fail
      refine hP.mono ?_
      rintro e w4 ⟨A2, n2, cap2, rfl, ho2, hb4⟩
      have q4 := q3.trans (hb4.mono q3.size)
      have t1 := ho2.text (P := Tryd.prog) 29 9 5 Tryd.underlying29 Tryd.underlying5 Tryd.underlying9
      have t2 := (HO.out _ q4).text (P := Tryd.prog) 29 9 5 Tryd.underlying29 Tryd.underlying5 Tryd.underlying9
      generalize strOfNums xs = tx at *
      clear c0 c1 c2 c3 c4 d0 d1 d2 B0 B1 ho2
      go_wp2
      go_ret
      exact ⟨by simp, HQ.out.trans (q4.mono HQ.out.size)⟩
end Go.Proofs.YtmkdmnaonddghaaDoor
