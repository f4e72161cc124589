/- nil, and an arena that New did not make, have no cells. Conditions: none. -/
import Derived.Test.YtdilmapcjmdabaaAlive
import Derived.Test.YtdilmapcjmdabaaFind
import Derived.Test.YtdilmapcjmdabaaClone
namespace Go.Proofs.Ytdilmapcjmdabaa
open Go.ChangeShapes Go.WideShapes Go.RowKit

/-- Nobody made it. -/
def Nob (w : World) (v : Value) : Prop := v = .pointer none ∨ ∃ p, v = .pointer (some ⟨p, 0, none⟩) ∧ w.cell? ⟨p, 0, none⟩ = some (.pointer none)
section
variable {w w' : World} {v : Value}
theorem Nob.below (h : Nob w v) (hb : Below w.heap.size w w') : Nob w' v := by
  rcases h with h | ⟨p, h, hc⟩
  · exact .inl h
  · exact .inr ⟨p, h, (hb.cell (World.block_lt_of_cell? _ _ hc)).trans hc⟩
theorem Nob.made (h : Nob w v) : Calls Try.prog 41 #[v] w fun e w' => e = .returned (.bool false) ∧ w = w' := by
  rcases h with rfl | ⟨p, rfl, hc⟩
  · exact made_nil w
  · exact made_odd hc
theorem Nob.mades (h : Nob w v) : ∀ W, Below w.heap.size w W → Calls Try.prog 41 #[v] W fun e w' => e = .returned (.bool false) ∧ W = w' := fun _ hW => (h.below hW).made
theorem Nob.hass (h : Nob w v) (k : Int) : ∀ W, Below w.heap.size w W → Calls Try.prog 36 #[v, .int .i64 k] W fun e w' => e = .returned (.bool false) ∧ W = w' := fun _ hW => has_no (h.below hW).made
theorem free_nob (h : Nob w v) (k : Int) : Calls Try.prog 24 #[v, .int .i64 k] w fun e w' => e = .returned (.bool false) ∧ Below w.heap.size w w' := by
  have hh := h.hass k w (Below.refl _ _)
  go_enter Try.func24, Try.ntmps24
  go_wp2_with fail
  refine hh.mono ?_
  rintro e w' ⟨rfl, rfl⟩
  go_wp2
  go_ret
  exact ⟨rfl, Below.refl _ _⟩
theorem retire_nob (h : Nob w v) (k : Int) : Calls Try.prog 25 #[v, .int .i64 k] w fun e w' => e = .returned (.bool false) ∧ Below w.heap.size w w' := by
  have hh := h.hass k w (Below.refl _ _)
  go_enter Try.func25, Try.ntmps25
  go_wp2_with fail
  refine hh.mono ?_
  rintro e w' ⟨rfl, rfl⟩
  go_wp2
  go_ret
  exact ⟨rfl, Below.refl _ _⟩
theorem find_nob (h : Nob w v) (x : Wd) : Calls Try.prog 15 #[v, .agg x.cs.toArray] w fun e w' => e = .returned (.int .i64 0) ∧ Below w.heap.size w w' := by
  by_cases hx : 1 ≤ x.c
  · exact find_no hx (h.hass x.c)
  · exact find_plain hx
theorem load_nob (h : Nob w v) (k f : Int) : Calls Try.prog 13 #[v, .int .i64 k, .int .i64 f] w fun e w' => e = .returned (.tuple #[.agg #[.int .i64 0, .int .i64 0, .int .i64 0], .bool false]) ∧ Below w.heap.size w w' := load_no (h.hass k)
/-- Nothing turned. -/
theorem still {f : Nat} {vs : Array Value} {r : Ending} (h : Calls Try.prog f vs w fun e w' => e = r ∧ w = w') : Calls Try.prog f vs w fun e w' => e = r ∧ Below w.heap.size w w' :=
  h.mono (by rintro e w' ⟨rfl, rfl⟩; exact ⟨rfl, Below.refl _ _⟩)
end
theorem eqnil26 (w : World) : (binOp BinOp.eql 26 (.pointer none) (.pointer none)).run Try.prog w = .ok (.bool true) w := by kernel_rfl
set_option maxRecDepth 100000 in
set_option maxHeartbeats 4000000 in
theorem nobody_any (c : Int) (x : Wd) (q : Int) (w : World) : Calls Try.prog 7 #[.int .i64 c, .agg x.cs.toArray, .int .i64 q] w fun e w' => e = .returned (.bool true) ∧ Below w.heap.size w w' := by
  obtain ⟨z, ez⟩ : ∃ z, z = w.heap.size := ⟨_, rfl⟩
  obtain ⟨W1, eW1⟩ : ∃ W, W = w.alloc (.cells x.cs.toArray 24) := ⟨_, rfl⟩
  have hb1 : Below w.heap.size w W1 := by rw [eW1]; exact (Below.refl _ w).alloc (Nat.le_refl _) _
  have hX : Blk W1 w.heap.size 24 x.cs.toArray := by rw [eW1]; exact heap_alloc_new w _
  rw [← ez] at hX
  go_enter Try.func7, Try.ntmps7
  go_wp2_with fail
  rw [← eW1, ← ez]
  clear eW1
  have EZ := Lib.hid ez
  clear ez
  refine (alive_any W1).mono ?_
  rintro e w0 ⟨rfl, hb2⟩
  have hX0 := hX.on hb2
  have n0 : ∀ W, Nob W (.pointer none) := fun W => .inl rfl
  obtain ⟨w1, e1⟩ : ∃ W, W = w0.alloc (.cells #[.pointer none, .pointer none] 62) := ⟨_, rfl⟩
  have hb3 : Below w0.heap.size w0 w1 := by rw [e1]; exact (Below.refl _ w0).alloc (Nat.le_refl _) _
  have o1 : Nob w1 (.pointer (some ⟨w0.heap.size, 0, none⟩)) := .inr ⟨_, rfl, by rw [e1]; exact cell_of_row _ w0.heap.size 0 _ 62 (0, 0) (heap_alloc_new w0 _)⟩
  have x1 := hX0.on hb3
  have b1 : Below w.heap.size w w1 := (hb1.trans (hb2.mono hb1.size)).trans (hb3.mono (Nat.le_trans hb1.size hb2.size))
  clear hb1 hb2 hb3 hX hX0
  go_wp2_with fail
  rw [← e1]
  clear e1
  generalize w0.heap.size = po at *
  refine (alloc_no (n0 w1).mades).mono ?_
  rintro e w2 ⟨rfl, c2⟩
  have o2 := o1.below c2
  have x2 := x1.on c2
  have b2 := b1.trans (c2.mono b1.size)
  have hB2 : Blk (w2.alloc (.cells #[.int .i64 0, .int .i64 0, .int .i64 0] 24)) w2.heap.size 24 #[.int .i64 0, .int .i64 0, .int .i64 0] := heap_alloc_new w2 _
  obtain ⟨w3, e3⟩ : ∃ W, W = (w2.alloc (.cells #[.int .i64 0, .int .i64 0, .int .i64 0] 24)).setRow w2.heap.size #[.int .i64 0, .int .i64 0, .int .i64 0] := ⟨_, rfl⟩
  have c3 : Below w2.heap.size w2 w3 := by rw [e3]; exact below_setRow ((Below.refl _ w2).alloc (Nat.le_refl _) _) (Nat.le_refl _) _
  have p3 : Blk w3 w2.heap.size 24 #[.int .i64 0, .int .i64 0, .int .i64 0] := by rw [e3]; exact setRow_heap _ _ _ _ _ _ hB2
  have o3 := o2.below c3
  have x3 := x2.on c3
  have b3 := b2.trans (c3.mono b2.size)
  go_wp2_with (refine wpList_store_row rfl 24 (.tmp 9) (.tmp 24) rfl w2.heap.size #[.int .i64 0, .int .i64 0, .int .i64 0] rfl rfl 24 #[.int .i64 0, .int .i64 0, .int .i64 0] hB2 size24 rfl (by simp [Value.oneCell']) ?_; rw [← e3]; clear e3 hB2)
  refine (alloc_no o3.mades).mono ?_
  rintro e w4 ⟨rfl, c4⟩
  have o4 := o3.below c4
  have x4 := x3.on c4
  have b4 := b3.trans (c4.mono b3.size)
  have p4 := p3.on c4
  have hB4 : Blk (w4.alloc (.cells #[.int .i64 0, .int .i64 0, .int .i64 0] 24)) w4.heap.size 24 #[.int .i64 0, .int .i64 0, .int .i64 0] := heap_alloc_new w4 _
  obtain ⟨w5, e5⟩ : ∃ W, W = (w4.alloc (.cells #[.int .i64 0, .int .i64 0, .int .i64 0] 24)).setRow w4.heap.size #[.int .i64 0, .int .i64 0, .int .i64 0] := ⟨_, rfl⟩
  have c5 : Below w4.heap.size w4 w5 := by rw [e5]; exact below_setRow ((Below.refl _ w4).alloc (Nat.le_refl _) _) (Nat.le_refl _) _
  have q5 : Blk w5 w4.heap.size 24 #[.int .i64 0, .int .i64 0, .int .i64 0] := by rw [e5]; exact setRow_heap _ _ _ _ _ _ hB4
  have o5 := o4.below c5
  have x5 := x4.on c5
  have b5 := b4.trans (c5.mono b4.size)
  have p5 := p4.on c5
  go_wp2_with (refine wpList_store_row rfl 24 (.tmp 11) (.tmp 31) rfl w4.heap.size #[.int .i64 0, .int .i64 0, .int .i64 0] rfl rfl 24 #[.int .i64 0, .int .i64 0, .int .i64 0] hB4 size24 rfl (by simp [Value.oneCell']) ?_; rw [← e5]; clear e5 hB4)
  refine (load_nob o5 c 0).mono ?_
  rintro e w6 ⟨rfl, c6⟩
  have o6 := o5.below c6
  have x6 := x5.on c6
  have b6 := b5.trans (c6.mono b5.size)
  have p6 := p5.on c6
  have q6 := q5.on c6
  have hB6 : Blk (w6.alloc (.cells #[.int .i64 0, .int .i64 0, .int .i64 0] 24)) w6.heap.size 24 #[.int .i64 0, .int .i64 0, .int .i64 0] := heap_alloc_new w6 _
  obtain ⟨w7, e7⟩ : ∃ W, W = (w6.alloc (.cells #[.int .i64 0, .int .i64 0, .int .i64 0] 24)).setRow w6.heap.size #[.int .i64 0, .int .i64 0, .int .i64 0] := ⟨_, rfl⟩
  have c7 : Below w6.heap.size w6 w7 := by rw [e7]; exact below_setRow ((Below.refl _ w6).alloc (Nat.le_refl _) _) (Nat.le_refl _) _
  have r7 : Blk w7 w6.heap.size 24 #[.int .i64 0, .int .i64 0, .int .i64 0] := by rw [e7]; exact setRow_heap _ _ _ _ _ _ hB6
  have o7 := o6.below c7
  have x7 := x6.on c7
  have b7 := b6.trans (c7.mono b6.size)
  have p7 := p6.on c7
  have q7 := q6.on c7
  go_wp2_with (refine wpList_store_row rfl 24 (.tmp 13) (.tmp 37) rfl w6.heap.size #[.int .i64 0, .int .i64 0, .int .i64 0] rfl rfl 24 #[.int .i64 0, .int .i64 0, .int .i64 0] hB6 size24 rfl (by simp [Value.oneCell']) ?_; rw [← e7]; clear e7 hB6; have fp0 : w7.cell? ⟨w2.heap.size, 0, none⟩ = some (.int .i64 0) := p7.cell 0; have fp1 : w7.cell? ⟨w2.heap.size, 1, none⟩ = some (.int .i64 0) := p7.cell 1; have fp2 : w7.cell? ⟨w2.heap.size, 2, none⟩ = some (.int .i64 0) := p7.cell 2; have fq0 : w7.cell? ⟨w4.heap.size, 0, none⟩ = some (.int .i64 0) := q7.cell 0; have fq1 : w7.cell? ⟨w4.heap.size, 1, none⟩ = some (.int .i64 0) := q7.cell 1; have fq2 : w7.cell? ⟨w4.heap.size, 2, none⟩ = some (.int .i64 0) := q7.cell 2; have fr0 : w7.cell? ⟨w6.heap.size, 0, none⟩ = some (.int .i64 0) := r7.cell 0; have fr1 : w7.cell? ⟨w6.heap.size, 1, none⟩ = some (.int .i64 0) := r7.cell 1; have fr2 : w7.cell? ⟨w6.heap.size, 2, none⟩ = some (.int .i64 0) := r7.cell 2)
  refine (free_nob (n0 _) c).mono ?_
  rintro e w8 ⟨rfl, c8⟩
  have o8 := o7.below c8
  have x8 := x7.on c8
  have b8 := b7.trans (c8.mono b7.size)
  go_wp2_with fail
  refine (free_nob o8 c).mono ?_
  rintro e w9 ⟨rfl, c9⟩
  have o9 := o8.below c9
  have x9 := x8.on c9
  have b9 := b8.trans (c9.mono b8.size)
  go_wp2_with fail
  refine (retire_nob (n0 _) c).mono ?_
  rintro e w10 ⟨rfl, c10⟩
  have o10 := o9.below c10
  have x10 := x9.on c10
  have b10 := b9.trans (c10.mono b9.size)
  have g100 : w10.cell? ⟨z, 0, none⟩ = some (.int .i64 x.n) := x10.cell 0
  have g101 : w10.cell? ⟨z, 1, none⟩ = some (.int .i64 x.c) := x10.cell 1
  have g102 : w10.cell? ⟨z, 2, none⟩ = some (.int .i64 x.g) := x10.cell 2
  go_wp2_with fail
  refine (store_no (x := x) (o10.hass c)).mono ?_
  rintro e w11 ⟨rfl, c11⟩
  have o11 := o10.below c11
  have x11 := x10.on c11
  have b11 := b10.trans (c11.mono b10.size)
  have g110 : w11.cell? ⟨z, 0, none⟩ = some (.int .i64 x.n) := x11.cell 0
  have g111 : w11.cell? ⟨z, 1, none⟩ = some (.int .i64 x.c) := x11.cell 1
  have g112 : w11.cell? ⟨z, 2, none⟩ = some (.int .i64 x.g) := x11.cell 2
  go_wp2_with fail
  refine (find_nob (n0 _) x).mono ?_
  rintro e w12 ⟨rfl, c12⟩
  have o12 := o11.below c12
  have x12 := x11.on c12
  have b12 := b11.trans (c12.mono b11.size)
  have g120 : w12.cell? ⟨z, 0, none⟩ = some (.int .i64 x.n) := x12.cell 0
  have g121 : w12.cell? ⟨z, 1, none⟩ = some (.int .i64 x.c) := x12.cell 1
  have g122 : w12.cell? ⟨z, 2, none⟩ = some (.int .i64 x.g) := x12.cell 2
  go_wp2_with fail
  refine (find_nob o12 x).mono ?_
  rintro e w13 ⟨rfl, c13⟩
  have o13 := o12.below c13
  have x13 := x12.on c13
  have b13 := b12.trans (c13.mono b12.size)
  go_wp2_with fail
  refine (still (cells_no (n0 _).made)).mono ?_
  rintro e w14 ⟨rfl, c14⟩
  have o14 := o13.below c14
  have x14 := x13.on c14
  have b14 := b13.trans (c14.mono b13.size)
  go_wp2_with fail
  refine (still (cells_no o14.made)).mono ?_
  rintro e w15 ⟨rfl, c15⟩
  have o15 := o14.below c15
  have x15 := x14.on c15
  have b15 := b14.trans (c15.mono b14.size)
  go_wp2_with fail
  refine (still (list_no (n0 _).made)).mono ?_
  rintro e w16 ⟨rfl, c16⟩
  have o16 := o15.below c16
  have x16 := x15.on c16
  have b16 := b15.trans (c16.mono b15.size)
  go_wp2_with fail
  refine (still (list_no o16.made)).mono ?_
  rintro e w17 ⟨rfl, c17⟩
  have o17 := o16.below c17
  have x17 := x16.on c17
  have b17 := b16.trans (c17.mono b16.size)
  go_wp2_with fail
  refine (still (mark_no (n0 _).made)).mono ?_
  rintro e w18 ⟨rfl, c18⟩
  have o18 := o17.below c18
  have x18 := x17.on c18
  have b18 := b17.trans (c18.mono b17.size)
  go_wp2_with fail
  refine (still (mark_no o18.made)).mono ?_
  rintro e w19 ⟨rfl, c19⟩
  have o19 := o18.below c19
  have x19 := x18.on c19
  have b19 := b18.trans (c19.mono b18.size)
  go_wp2_with fail
  refine (still (undo_no (n0 _).made)).mono ?_
  rintro e w20 ⟨rfl, c20⟩
  have o20 := o19.below c20
  have x20 := x19.on c20
  have b20 := b19.trans (c20.mono b19.size)
  go_wp2_with fail
  refine (still (undo_no o20.made)).mono ?_
  rintro e w21 ⟨rfl, c21⟩
  have o21 := o20.below c21
  have x21 := x20.on c21
  have b21 := b20.trans (c21.mono b20.size)
  go_wp2_with fail
  refine (still (clone_no (n0 _).made)).mono ?_
  rintro e w22 ⟨rfl, c22⟩
  have o22 := o21.below c22
  have x22 := x21.on c22
  have b22 := b21.trans (c22.mono b21.size)
  go_wp2_with fail
  refine (still (clone_no o22.made)).mono ?_
  rintro e w23 ⟨rfl, c23⟩
  have o23 := o22.below c23
  have x23 := x22.on c23
  have b23 := b22.trans (c23.mono b22.size)
  go_wp2
  go_ret
  exact ⟨rfl, b23⟩
end Go.Proofs.Ytdilmapcjmdabaa
