/- What a reader's At, and conf's take, answer. Conditions: at most 2000 octets. -/
import Derived.Test.YtmkdmnaonddghaaDoorPuts
import Derived.Test.YtmkdmnaonddghaaDoorSplits
import Derived.Laws.ResultCell
namespace Go.Proofs.YtmkdmnaonddghaaDoor
open Go.RowKit

set_option maxRecDepth 100000 in
theorem at_any {w : World} {g : Nat} {xs : List Int} {a : Nat} {good : Bool} (h : Rd w g xs a good) : Calls Tryd.prog 35 #[.pointer (some ⟨g, 0, none⟩)] w fun e w' => e = .returned (.int .i64 (a : Int)) ∧ w = w' := by
  obtain ⟨⟨A, cap, hk, ho⟩, hm, hl⟩ := h
  have c1 : w.cell? ⟨g, 1, none⟩ = some (.int .i64 (a : Int)) := hk.cell 1
  go_enter Tryd.func35, Tryd.ntmps35
  go_wp2
  go_ret
  exact ⟨rfl, rfl⟩
def vAt (xs : List Int) (a k : Nat) : Int := wrap64 (val ((xs.drop a).take k))
/-- What conf's take answers: x, y, e; the reader has come to b. -/
def Took3 (xs : List Int) (g b : Nat) (good : Bool) (x y e : Int) (w : World) (en : Ending) (w' : World) : Prop :=
  en = .returned (.tuple #[.int .i64 x, .int .i64 y, .int .i64 e]) ∧ Rd w' g xs b good ∧ w.grownBy w' (some g)
set_option maxRecDepth 100000 in
theorem ctake_ok {w : World} {g : Nat} {xs : List Int} {a k : Nat} (h : Rd w g xs a true) (l m : Int) (h1 : 1 ≤ k) (h8 : k ≤ 8) (hak : a + k ≤ xs.length) (hi : inB (vAt xs a k) l m = true) :
    Calls Tryd.prog 33 #[.pointer (some ⟨g, 0, none⟩), .agg #[.int .i64 l, .int .i64 m, .int .i64 (k : Int)]] w (Took3 xs g (a + k) true (vAt xs a k) 0 0 w) := by
  obtain ⟨W, eW⟩ : ∃ W, W = w.alloc (.cells #[.int .i64 l, .int .i64 m, .int .i64 (k : Int)] 58) := ⟨_, rfl⟩
  have hb : Below w.heap.size w W := by rw [eW]; exact (Below.refl _ w).alloc (Nat.le_refl _) _
  have hB : Blk W w.heap.size 58 #[.int .i64 l, .int .i64 m, .int .i64 (k : Int)] := by rw [eW]; exact heap_alloc_new w _
  have hr := h.below hb h.lt
  have hlt := h.lt
  have hN := num_yes hr h1 h8 hak
  have hH := fun W => has_any l m (k : Int) (vAt xs a k) W
  rw [hi] at hH
  rw [show wrap64 (val ((xs.drop a).take k)) = vAt xs a k from rfl] at hN
  generalize vAt xs a k = v at *
  have c2 := hB.cell 2
  go_enter Tryd.func33, Tryd.ntmps33
  go_wp2_with fail
  rw [← eW]
  clear eW
  refine (at_any hr).mono ?_
  rintro e w1 ⟨rfl, rfl⟩
  go_wp2_with fail
  refine hN.mono ?_
  rintro e w1 ⟨rfl, hr1, hg1⟩
  have hB1 : Blk w1 w.heap.size 58 #[.int .i64 l, .int .i64 m, .int .i64 (k : Int)] := (hg1.block _ hB.lt (by simp; omega)).trans hB
  have x0 := hB1.cell 0
  have x1 := hB1.cell 1
  have x2 := hB1.cell 2
  go_wp2_with fail
  refine (hH _).mono ?_
  rintro e w2 ⟨rfl, hb2⟩
  go_wp2
  go_ret3
  exact ⟨rfl, hr1.below hb2 hr1.lt, grown_trans (grown_trans (grown_below hb _) hg1) (grown_below hb2 _)⟩
set_option maxRecDepth 100000 in
theorem ctake_range {w : World} {g : Nat} {xs : List Int} {a k : Nat} (h : Rd w g xs a true) (l m : Int) (h1 : 1 ≤ k) (h8 : k ≤ 8) (hak : a + k ≤ xs.length) (hi : inB (vAt xs a k) l m = false) :
    Calls Tryd.prog 33 #[.pointer (some ⟨g, 0, none⟩), .agg #[.int .i64 l, .int .i64 m, .int .i64 (k : Int)]] w (Took3 xs g (a + k) true 0 a 3 w) := by
  obtain ⟨W, eW⟩ : ∃ W, W = w.alloc (.cells #[.int .i64 l, .int .i64 m, .int .i64 (k : Int)] 58) := ⟨_, rfl⟩
  have hb : Below w.heap.size w W := by rw [eW]; exact (Below.refl _ w).alloc (Nat.le_refl _) _
  have hB : Blk W w.heap.size 58 #[.int .i64 l, .int .i64 m, .int .i64 (k : Int)] := by rw [eW]; exact heap_alloc_new w _
  have hr := h.below hb h.lt
  have hlt := h.lt
  have hN := num_yes hr h1 h8 hak
  have hH := fun W => has_any l m (k : Int) (vAt xs a k) W
  rw [hi] at hH
  rw [show wrap64 (val ((xs.drop a).take k)) = vAt xs a k from rfl] at hN
  generalize vAt xs a k = v at *
  have c2 := hB.cell 2
  go_enter Tryd.func33, Tryd.ntmps33
  go_wp2_with fail
  rw [← eW]
  clear eW
  refine (at_any hr).mono ?_
  rintro e w1 ⟨rfl, rfl⟩
  go_wp2_with fail
  refine hN.mono ?_
  rintro e w1 ⟨rfl, hr1, hg1⟩
  have hB1 : Blk w1 w.heap.size 58 #[.int .i64 l, .int .i64 m, .int .i64 (k : Int)] := (hg1.block _ hB.lt (by simp; omega)).trans hB
  have x0 := hB1.cell 0
  have x1 := hB1.cell 1
  have x2 := hB1.cell 2
  go_wp2_with fail
  refine (hH _).mono ?_
  rintro e w2 ⟨rfl, hb2⟩
  go_wp2
  go_ret3
  exact ⟨rfl, hr1.below hb2 hr1.lt, grown_trans (grown_trans (grown_below hb _) hg1) (grown_below hb2 _)⟩
set_option maxRecDepth 100000 in
theorem ctake_form {w : World} {g : Nat} {xs : List Int} {a k : Nat} (h : Rd w g xs a true) (l m : Int) (hak : xs.length < a + k) :
    Calls Tryd.prog 33 #[.pointer (some ⟨g, 0, none⟩), .agg #[.int .i64 l, .int .i64 m, .int .i64 (k : Int)]] w (Took3 xs g a false 0 xs.length 1 w) := by
  obtain ⟨W, eW⟩ : ∃ W, W = w.alloc (.cells #[.int .i64 l, .int .i64 m, .int .i64 (k : Int)] 58) := ⟨_, rfl⟩
  have hb : Below w.heap.size w W := by rw [eW]; exact (Below.refl _ w).alloc (Nat.le_refl _) _
  have hB : Blk W w.heap.size 58 #[.int .i64 l, .int .i64 m, .int .i64 (k : Int)] := by rw [eW]; exact heap_alloc_new w _
  have hr := h.below hb h.lt
  have hlt := h.lt
  have hN := num_no hr (k := (k : Int)) (by omega)
  have c2 := hB.cell 2
  have hm := h.most
  have hl := h.le
  obtain ⟨L, eL⟩ : ∃ L, xs.length = L := ⟨_, rfl⟩
  have EL := Lib.hid eL
  have hLft := fun W (hW : Rd W g xs a false) => left_any hW
  rw [eL] at hm hl hak hLft ⊢
  clear eL
  have q1 : (0 : Int) ≤ (L : Int) - a := by omega
  have q2 : (L : Int) - a ≤ 2000 := by omega
  have q3 : (a : Int) + ((L : Int) - a) = L := by omega
  obtain ⟨D, eD⟩ : ∃ D, (L : Int) - a = D := ⟨_, rfl⟩
  rw [eD] at q1 q2 q3 hLft
  clear eD
  go_enter Tryd.func33, Tryd.ntmps33
  go_wp2_with fail
  rw [← eW]
  clear eW
  refine (at_any hr).mono ?_
  rintro e w1 ⟨rfl, rfl⟩
  go_wp2_with fail
  refine hN.mono ?_
  rintro e w1 ⟨rfl, hr1, hg1⟩
  go_wp2_with fail
  refine (hLft _ hr1).mono ?_
  rintro e w2 ⟨rfl, q, rfl⟩
  go_wp2
  go_ret3
  exact ⟨rfl, hr1.drewN q, grown_drewN (grown_trans (grown_below hb _) hg1) q⟩
end Go.Proofs.YtmkdmnaonddghaaDoor
