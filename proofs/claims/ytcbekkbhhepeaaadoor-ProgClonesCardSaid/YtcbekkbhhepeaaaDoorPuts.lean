/- Contracts of instr's Put and of the plain one: an instruction's twelve octets. Conditions: none. -/
import Derived.Test.YtcbekkbhhepeaaaDoorRead
import Derived.Test.YtcbekkbhhepeaaaDoorRefPut
namespace Go.Proofs.YtcbekkbhhepeaaaDoor
open Go.RowKit

/-- An instruction as a value's parts. -/
def ins (o a b c n : Int) : Array Value := #[.int .i64 o, .int .i64 a, .int .i64 b, .int .i64 c, .int .i64 n]
/-- Its twelve octets. -/
def five (o a b c n : Int) : List Int := dig o 0 :: dig a 0 :: dig b 0 :: dig c 0 :: digs n 8
theorem five_is (o a b c n : Int) : ((((([] ++ digs o 1) ++ digs a 1) ++ digs b 1) ++ digs c 1) ++ digs n 8) = five o a b c n := rfl
/-- It lies in block g. -/
structure At5 (w : World) (g : Nat) (o a b c n : Int) : Prop where
  c0 : w.cell? ⟨g, 0, none⟩ = some (.int .i64 o)
  c1 : w.cell? ⟨g, 1, none⟩ = some (.int .i64 a)
  c2 : w.cell? ⟨g, 2, none⟩ = some (.int .i64 b)
  c3 : w.cell? ⟨g, 3, none⟩ = some (.int .i64 c)
  c4 : w.cell? ⟨g, 4, none⟩ = some (.int .i64 n)
theorem At5.lt {w : World} {g : Nat} {o a b c n : Int} (h : At5 w g o a b c n) : g < w.heap.size := World.block_lt_of_cell? w _ h.c0
theorem At5.below {w w' : World} {g B : Nat} {o a b c n : Int} (h : At5 w g o a b c n) (hb : Below B w w') (hg : g < B) : At5 w' g o a b c n :=
  ⟨(hb.cell hg).trans h.c0, (hb.cell hg).trans h.c1, (hb.cell hg).trans h.c2, (hb.cell hg).trans h.c3, (hb.cell hg).trans h.c4⟩
theorem At5.on {w w' : World} {g : Nat} {o a b c n : Int} (h : At5 w g o a b c n) (hb : Below w.heap.size w w') : At5 w' g o a b c n := h.below hb h.lt
theorem At5.blk {w : World} {g : Nat} {o a b c n : Int} (h : Blk w g 45 (ins o a b c n)) : At5 w g o a b c n := ⟨h.cell 0, h.cell 1, h.cell 2, h.cell 3, h.cell 4⟩
theorem At5.new (w : World) (o a b c n : Int) : At5 (w.alloc (.cells #[.int .i64 o, .int .i64 a, .int .i64 b, .int .i64 c, .int .i64 n] 45)) w.heap.size o a b c n := At5.blk (heap_alloc_new w _)

theorem own_mono {w : World} {base base' n sz : Nat} {e : TypeId} {v : Value} {xs : List Value} (h : w.ownsRow base e sz v n xs) (hb : base' ≤ base) : w.ownsRow base' e sz v n xs := by
  refine ⟨h.1, ?_⟩
  rcases h.2 with h2 | ⟨g, cap, cur, e1, e2, h3⟩
  · exact .inl h2
  · exact .inr ⟨g, cap, cur, e1, Nat.le_trans hb e2, h3⟩
theorem gives_end {w w0 w4 w5 : World} {A : Option Addr} {n cap : Nat} {ys : List Int} (b0 : Below w.heap.size w w0) (s4 : w0.heap.size ≤ w4.heap.size) (_ : Below w4.heap.size w4 w5) (q5 : Below w0.heap.size w0 w5)
    (ho : Oct w5 w5.heap.size A n cap ys) (hown : w5.ownsRow w4.heap.size 5 1 (.slice A n cap) n (nums ys)) : Gives ys w (.returned (.slice A n cap)) w5 :=
  ⟨A, n, cap, rfl, ho, b0.trans (q5.mono b0.size), own_mono hown (Nat.le_trans b0.size s4)⟩

set_option maxRecDepth 100000 in
set_option maxHeartbeats 1000000 in
theorem put_i (o a b c n : Int) (w : World) : Calls Tryd.prog 22 #[.agg #[.int .i64 o, .int .i64 a, .int .i64 b, .int .i64 c, .int .i64 n]] w (Gives (five o a b c n) w) := by
  have h0 := At5.new w o a b c n
  have b0 : Below w.heap.size w (w.alloc (.cells #[.int .i64 o, .int .i64 a, .int .i64 b, .int .i64 c, .int .i64 n] 45)) := (Below.refl _ w).alloc (Nat.le_refl _) _
  go_enter Tryd.func22, Tryd.ntmps22
  go_wp2_with fail
  refine (put_yes [] none 0 0 o 1 _ (Oct.nil _ _) (by omega) (by omega) (by omega)).mono ?_
  rintro e w1 ⟨A1, n1, cap1, rfl, ho1, hb1, hown1⟩
  have l1 := ho1.len
  have q1 := hb1
  have g1 := h0.on hb1
  obtain ⟨_, d1, d2, d3, d4⟩ := id g1
  go_wp2_with fail
  clear d1 d2 d3 d4
  refine (put_yes _ A1 n1 cap1 a 1 _ ho1 (by rw [← l1]; simp [digs_len]) (by omega) (by omega)).mono ?_
  rintro e w2 ⟨A2, n2, cap2, rfl, ho2, hb2, hown2⟩
  have l2 := ho2.len
  have q2 := q1.trans (hb2.mono q1.size)
  have g2 := g1.on hb2
  obtain ⟨_, d1, d2, d3, d4⟩ := id g2
  go_wp2_with fail
  clear d1 d2 d3 d4
  refine (put_yes _ A2 n2 cap2 b 1 _ ho2 (by rw [← l2]; simp [digs_len]) (by omega) (by omega)).mono ?_
  rintro e w3 ⟨A3, n3, cap3, rfl, ho3, hb3, hown3⟩
  have l3 := ho3.len
  have q3 := q2.trans (hb3.mono q2.size)
  have g3 := g2.on hb3
  obtain ⟨_, d1, d2, d3, d4⟩ := id g3
  go_wp2_with fail
  clear d1 d2 d3 d4
  refine (put_yes _ A3 n3 cap3 c 1 _ ho3 (by rw [← l3]; simp [digs_len]) (by omega) (by omega)).mono ?_
  rintro e w4 ⟨A4, n4, cap4, rfl, ho4, hb4, hown4⟩
  have l4 := ho4.len
  have q4 := q3.trans (hb4.mono q3.size)
  have g4 := g3.on hb4
  obtain ⟨_, d1, d2, d3, d4⟩ := id g4
  go_wp2_with fail
  clear d1 d2 d3 d4
  refine (put_yes _ A4 n4 cap4 n 8 _ ho4 (by rw [← l4]; simp [digs_len]) (by omega) (by omega)).mono ?_
  rintro e w5 ⟨A5, n5, cap5, rfl, ho5, hb5, hown5⟩
  have l5 := ho5.len
  have q5 := q4.trans (hb5.mono q4.size)
  go_wp2
  go_ret
  exact gives_end b0 (q4.size) hb5 q5 ho5 hown5

set_option maxRecDepth 100000 in
theorem field_0 (o a b c n : Int) (w : World) : Calls Tryd.prog 37 #[.agg #[.int .i64 o, .int .i64 a, .int .i64 b, .int .i64 c, .int .i64 n], .int .i64 0] w fun e w' => e = .returned (.int .i64 a) ∧ Below w.heap.size w w' := by
  obtain ⟨_, d1, d2, d3, d4⟩ := At5.new w o a b c n
  go_enter Tryd.func37, Tryd.ntmps37
  go_wp2
  go_ret
  exact ⟨rfl, (Below.refl _ w).alloc (Nat.le_refl _) _⟩
set_option maxRecDepth 100000 in
theorem field_1 (o a b c n : Int) (w : World) : Calls Tryd.prog 37 #[.agg #[.int .i64 o, .int .i64 a, .int .i64 b, .int .i64 c, .int .i64 n], .int .i64 1] w fun e w' => e = .returned (.int .i64 b) ∧ Below w.heap.size w w' := by
  obtain ⟨_, d1, d2, d3, d4⟩ := At5.new w o a b c n
  go_enter Tryd.func37, Tryd.ntmps37
  go_wp2
  go_ret
  exact ⟨rfl, (Below.refl _ w).alloc (Nat.le_refl _) _⟩
set_option maxRecDepth 100000 in
theorem field_2 (o a b c n : Int) (w : World) : Calls Tryd.prog 37 #[.agg #[.int .i64 o, .int .i64 a, .int .i64 b, .int .i64 c, .int .i64 n], .int .i64 2] w fun e w' => e = .returned (.int .i64 c) ∧ Below w.heap.size w w' := by
  obtain ⟨_, d1, d2, d3, d4⟩ := At5.new w o a b c n
  go_enter Tryd.func37, Tryd.ntmps37
  go_wp2
  go_ret
  exact ⟨rfl, (Below.refl _ w).alloc (Nat.le_refl _) _⟩

set_option maxRecDepth 100000 in
set_option maxHeartbeats 2000000 in
theorem ref_i (o a b c n : Int) (w : World) : Calls Tryd.prog 26 #[.agg #[.int .i64 o, .int .i64 a, .int .i64 b, .int .i64 c, .int .i64 n]] w (Gives (five o a b c n) w) := by
  have h0 := At5.new w o a b c n
  have b0 : Below w.heap.size w (w.alloc (.cells #[.int .i64 o, .int .i64 a, .int .i64 b, .int .i64 c, .int .i64 n] 45)) := (Below.refl _ w).alloc (Nat.le_refl _) _
  go_enter Tryd.func26, Tryd.ntmps26
  go_wp2_with fail
  refine (ref_loop [] none 0 0 o 1 _ (Oct.nil _ _) (by omega) (by omega) (by omega)).mono ?_
  rintro e w1 ⟨A1, n1, cap1, rfl, ho1, hb1, _⟩
  have l1 := ho1.len
  have q1 := hb1
  have g1 := h0.on hb1
  obtain ⟨d0, d1, d2, d3, d4⟩ := id g1
  go_wp2_with fail
  refine wp_loop_rounds 4 ?_
  rw [rounds_succ]
  go_wp2_with fail
  clear d0 d1 d2 d3 d4
  refine (field_0 o a b c n _).mono ?_
  rintro e v2 ⟨rfl, hf2⟩
  have p2 := q1.trans (hf2.mono q1.size)
  have ho1' := (ho1.below hf2).more hf2.size
  go_wp2_with fail
  refine (ref_loop _ A1 n1 cap1 a 1 _ ho1' (by rw [← l1]; simp [digs_len]) (by omega) (by omega)).mono ?_
  rintro e w2 ⟨A2, n2, cap2, rfl, ho2, hb2, _⟩
  have l2 := ho2.len
  have q2 := p2.trans (hb2.mono p2.size)
  have g2 := (g1.on hf2).on hb2
  obtain ⟨d0, d1, d2, d3, d4⟩ := id g2
  go_wp2_with fail
  rw [rounds_succ]
  go_wp2_with fail
  clear d0 d1 d2 d3 d4
  refine (field_1 o a b c n _).mono ?_
  rintro e v3 ⟨rfl, hf3⟩
  have p3 := q2.trans (hf3.mono q2.size)
  have ho2' := (ho2.below hf3).more hf3.size
  go_wp2_with fail
  refine (ref_loop _ A2 n2 cap2 b 1 _ ho2' (by rw [← l2]; simp [digs_len]) (by omega) (by omega)).mono ?_
  rintro e w3 ⟨A3, n3, cap3, rfl, ho3, hb3, _⟩
  have l3 := ho3.len
  have q3 := p3.trans (hb3.mono p3.size)
  have g3 := (g2.on hf3).on hb3
  obtain ⟨d0, d1, d2, d3, d4⟩ := id g3
  go_wp2_with fail
  rw [rounds_succ]
  go_wp2_with fail
  clear d0 d1 d2 d3 d4
  refine (field_2 o a b c n _).mono ?_
  rintro e v4 ⟨rfl, hf4⟩
  have p4 := q3.trans (hf4.mono q3.size)
  have ho3' := (ho3.below hf4).more hf4.size
  go_wp2_with fail
  refine (ref_loop _ A3 n3 cap3 c 1 _ ho3' (by rw [← l3]; simp [digs_len]) (by omega) (by omega)).mono ?_
  rintro e w4 ⟨A4, n4, cap4, rfl, ho4, hb4, _⟩
  have l4 := ho4.len
  have q4 := p4.trans (hb4.mono p4.size)
  have g4 := (g3.on hf4).on hb4
  obtain ⟨d0, d1, d2, d3, d4⟩ := id g4
  go_wp2_with fail
  rw [rounds_succ]
  go_wp2_with fail
  clear d0 d1 d2 d3 d4
  refine (ref_loop _ A4 n4 cap4 n 8 _ ho4 (by rw [← l4]; simp [digs_len]) (by omega) (by omega)).mono ?_
  rintro e w5 ⟨A5, n5, cap5, rfl, ho5, hb5, hown5⟩
  have q5 := q4.trans (hb5.mono q4.size)
  go_wp2
  go_ret
  exact gives_end b0 (q4.size) hb5 q5 ho5 hown5
end Go.Proofs.YtcbekkbhhepeaaaDoor
