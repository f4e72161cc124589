/- The walks of InstrBack and InstrOctets. Conditions: the variable 'rows' lies as it is laid. -/
import Derived.Test.YtfjdebmhandjnaaDoorFacts
namespace Go.Proofs.YtfjdebmhandjnaaDoor
open Go.RowKit

theorem get_five (o a b c n x0 x1 x2 x3 x4 : Int) (A : Option Addr) (cap : Nat) (w : World) (h : Oct w w.heap.size A 12 cap (five o a b c n)) (e0 : dig o 0 = x0) (e1 : dig a 0 = x1) (e2 : dig b 0 = x2) (e3 : dig c 0 = x3) (e4 : wrap64 (val (digs n 8)) = x4) :
    Calls Tryd.prog 8 #[.slice A 12 cap] w fun e w' => e = .returned (.tuple #[.agg #[.int .i64 x0, .int .i64 x1, .int .i64 x2, .int .i64 x3, .int .i64 x4], .int .i64 0]) ∧ Below w.heap.size w w' :=
  get_parts _ A cap w h x0 x1 x2 x3 x4 e0 e1 e2 e3 e4

set_option maxHeartbeats 1000000 in
theorem alive_any (w : World) (hL : Laid w) : Calls Tryd.prog 5 #[] w fun e w' => e = .returned (.bool true) ∧ Below w.heap.size w w' := by
  obtain ⟨W0, eW0⟩ : ∃ W0, W0 = w.alloc (.cells #[.int .i64 1, .int .i64 0, .int .i64 0, .int .i64 0, .int .i64 0] 23) := ⟨_, rfl⟩
  have b0 : Below w.heap.size w W0 := by rw [eW0]; exact (Below.refl _ w).alloc (Nat.le_refl _) _
  have h0 : At5 W0 w.heap.size 1 0 0 0 0 := by rw [eW0]; exact At5.new w 1 0 0 0 0
  obtain ⟨d0, d1, d2, d3, d4⟩ := id h0
  go_enter Tryd.func5, Tryd.ntmps5
  go_wp2_with fail
  rw [← eW0]
  clear eW0
  go_wp2_with fail
  refine (put_i 1 0 0 0 0 W0).mono ?_
  rintro e w1 ⟨A1, n1, cap1, rfl, ho1, hb1, _⟩
  obtain rfl : n1 = 12 := ho1.len.symm
  obtain ⟨ad, rfl⟩ : ∃ ad, A1 = some ad := by
    cases A1 with
    | none => have := ho1.zero.1; omega
    | some ad => exact ⟨ad, rfl⟩
  have b1 := b0.trans (hb1.mono b0.size)
  have h1 := h0.on hb1
  go_wp2_with fail
  refine (get_five 1 0 0 0 0 1 0 0 0 0 _ cap1 w1 ho1 rfl rfl rfl rfl (val_eight 0 rfl)).mono ?_
  rintro e w2 ⟨rfl, hb2⟩
  have b2 := b1.trans (hb2.mono b1.size)
  have h2 := h1.on hb2
  have o2 := ho1.below hb2
  have hb2' : Below w2.heap.size w2 (w2.alloc (.cells #[.int .i64 1, .int .i64 0, .int .i64 0, .int .i64 0, .int .i64 0] 23)) := (Below.refl _ _).alloc (Nat.le_refl _) _
  have y2 := At5.new w2 1 0 0 0 0
  have b3 := b2.trans (hb2'.mono b2.size)
  have h3 := h2.on hb2'
  have o3 := o2.below (hb2'.mono hb2.size)
  have hC := check_any 1 0 0 0 0 0 0 0 0 none 0 0 _ (hL.on b3)
  rw [chk_halt] at hC
  clear d0 d1 d2 d3 d4
  obtain ⟨d0, d1, d2, d3, d4⟩ := id h3
  go_wp2_with fail
  refine hC.mono ?_
  rintro e w4 ⟨rfl, hb4⟩
  have b4 := b3.trans (hb4.mono b3.size)
  have h4 := h3.on hb4
  have y4 := y2.on hb4
  have o4 := o3.below (hb4.mono (Nat.le_trans hb2.size hb2'.size))
  have c0 : w4.cell? ad = some (.int .u8 1) := (o4.cell ad rfl 0 (by omega)).2
  clear d0 d1 d2 d3 d4
  obtain ⟨d0, d1, d2, d3, d4⟩ := h4
  obtain ⟨f0, f1, f2, f3, f4⟩ := y4
  go_wp2
  go_ret
  exact ⟨rfl, b4⟩

set_option maxHeartbeats 1000000 in
theorem back_walk (o a b c n d : Int) (w : World) (hL : Laid w) (hn : (Lit.int .i64 n).wf = true) (hd : 0 ≤ d ∧ d ≤ 255) :
    Calls Tryd.prog 4 #[.agg #[.int .i64 o, .int .i64 a, .int .i64 b, .int .i64 c, .int .i64 n], .int .u8 d] w fun e w' => e = .returned (.bool true) ∧ Below w.heap.size w w' := by
  obtain ⟨W0, eW0⟩ : ∃ W0, W0 = w.alloc (.cells #[.int .i64 o, .int .i64 a, .int .i64 b, .int .i64 c, .int .i64 n] 23) := ⟨_, rfl⟩
  have b0 : Below w.heap.size w W0 := by rw [eW0]; exact (Below.refl _ w).alloc (Nat.le_refl _) _
  have h0 : At5 W0 w.heap.size o a b c n := by rw [eW0]; exact At5.new w o a b c n
  obtain ⟨hd0, hd1⟩ := hd
  go_enter Tryd.func4, Tryd.ntmps4
  go_wp2_with fail
  rw [← eW0]
  clear eW0
  refine (alive_any W0 (hL.on b0)).mono ?_
  rintro e w1 ⟨rfl, hb1⟩
  have b1 := b0.trans (hb1.mono b0.size)
  have h1 := h0.on hb1
  have a1 : Below w1.heap.size w1 (w1.alloc (.cells #[.int .i64 4, .int .i64 0, .int .i64 2, .slice none 0 0] 34)) := (Below.refl _ _).alloc (Nat.le_refl _) _
  have p1 : Blk (w1.alloc (.cells #[.int .i64 4, .int .i64 0, .int .i64 2, .slice none 0 0] 34)) w1.heap.size 34 #[.int .i64 4, .int .i64 0, .int .i64 2, .slice none 0 0] := heap_alloc_new w1 _
  have b1' := b1.trans (a1.mono b1.size)
  have h1' := h1.on a1
  obtain ⟨d0, d1, d2, d3, d4⟩ := id h1'
  go_wp2_with fail
  refine (put_i o a b c n _).mono ?_
  rintro e w2 ⟨A2, n2, cap2, rfl, ho2, hb2, _⟩
  obtain rfl : n2 = 12 := ho2.len.symm
  have b2 := b1'.trans (hb2.mono b1'.size)
  have h2 := h1'.on hb2
  have p2 := p1.below hb2 p1.lt
  have hv := val_eight n hn
  obtain ⟨x0, e0⟩ : ∃ x, dig o 0 = x := ⟨_, rfl⟩
  obtain ⟨x1, e1⟩ : ∃ x, dig a 0 = x := ⟨_, rfl⟩
  obtain ⟨x2, e2⟩ : ∃ x, dig b 0 = x := ⟨_, rfl⟩
  obtain ⟨x3, e3⟩ : ∃ x, dig c 0 = x := ⟨_, rfl⟩
  have E : Hid (dig o 0 = x0 ∧ dig a 0 = x1 ∧ dig b 0 = x2 ∧ dig c 0 = x3) := Lib.hid ⟨e0, e1, e2, e3⟩
  have hG := get_five o a b c n x0 x1 x2 x3 n A2 cap2 w2 ho2 e0 e1 e2 e3 hv
  clear d0 d1 d2 d3 d4 e0 e1 e2 e3 hv ho2 h1 h1' p1 a1
  go_wp2_with fail
  refine hG.mono ?_
  rintro e w3 ⟨rfl, hb3⟩
  have b3 := b2.trans (hb3.mono b2.size)
  have h3 := h2.on hb3
  have p3 := p2.below hb3 p2.lt
  have a3 : Below w3.heap.size w3 (w3.alloc (.cells #[.int .i64 x0, .int .i64 x1, .int .i64 x2, .int .i64 x3, .int .i64 n] 23)) := (Below.refl _ _).alloc (Nat.le_refl _) _
  have y3 := At5.new w3 x0 x1 x2 x3 n
  have b4 := b3.trans (a3.mono b3.size)
  have h4 := h3.on a3
  have p4 := p3.below a3 p3.lt
  obtain ⟨d0, d1, d2, d3, d4⟩ := id h4
  have q0 := p4.cell 0
  have q1 := p4.cell 1
  have q2 := p4.cell 2
  have q3 := p4.cell 3
  have hC := check_any o a b c n 4 0 2 (d % 17) none 0 0 _ (hL.on b4)
  obtain ⟨v, ev⟩ : ∃ v, chk o a b c n 4 2 (d % 17) = v := ⟨_, rfl⟩
  rw [ev] at hC
  have EV := Lib.hid ev
  clear ev hG h2 h3 p2 p3 hb2 hb3
  go_wp2_with fail
  refine hC.mono ?_
  rintro e w5 ⟨rfl, hb5⟩
  have b5 := b4.trans (hb5.mono b4.size)
  have h5 := h4.on hb5
  have y5 := y3.on hb5
  clear d0 d1 d2 d3 d4 q0 q1 q2 q3 h4 y3 hC p4
  by_cases hv : v = 0
  · subst hv
    obtain ⟨k0, k1, k2, k3⟩ := chk_zero (by omega) EV.out
    obtain ⟨e0, e1, e2, e3⟩ := E.out
    rw [dig_byte (by omega)] at e0 e1 e2 e3
    subst e0 e1 e2 e3
    obtain ⟨d0, d1, d2, d3, d4⟩ := h5
    obtain ⟨f0, f1, f2, f3, f4⟩ := y5
    clear k0 k1 k2 k3
    go_wp2
    go_ret
    exact ⟨rfl, b5⟩
  · obtain ⟨d0, d1, d2, d3, d4⟩ := h5
    obtain ⟨f0, f1, f2, f3, f4⟩ := y5
    go_wp2
    go_ret
    exact ⟨rfl, b5⟩
end Go.Proofs.YtfjdebmhandjnaaDoor
