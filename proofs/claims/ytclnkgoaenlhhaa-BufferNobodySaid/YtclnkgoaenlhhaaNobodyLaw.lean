/- The law on nil, and on a buffer that New did not make: the walk. Conditions: none. -/
import Derived.Test.YtclnkgoaenlhhaaNobody
namespace Go.Proofs.Ytclnkgoaenlhhaa
open Go.RowKit Go.Conc Go.ChangeShapes Go.WideShapes

theorem nob_nil (w : World) : Nob w (.pointer none) := .inl rfl
theorem nob_blk {w : World} {p : Nat} (h : Blk w p 45 #[.chan none]) : Nob w (.pointer (some ⟨p, 0, none⟩)) := .inr ⟨p, rfl, h.cell 0⟩
set_option maxRecDepth 100000 in
set_option maxHeartbeats 8000000 in
theorem nobody_walk (e0 : Ent) (w : World) : Calls Try.prog 5 #[.agg e0.cs.toArray] w fun e w' => e = .returned (.bool true) ∧ Below w.heap.size w w' := by
  have hb0 : Below w.heap.size w (w.alloc (.cells #[.int .i64 e0.x.k, .int .i64 e0.x.i, .int .i64 e0.x.j, .int .i64 e0.v.n, .int .i64 e0.v.c, .int .i64 e0.v.g, .int .i64 e0.g, .int .i64 e0.p] 35)) := (Below.refl _ w).alloc (Nat.le_refl _) _
  have bE : Blk (w.alloc (.cells #[.int .i64 e0.x.k, .int .i64 e0.x.i, .int .i64 e0.x.j, .int .i64 e0.v.n, .int .i64 e0.v.c, .int .i64 e0.v.g, .int .i64 e0.g, .int .i64 e0.p] 35)) w.heap.size 35 #[.int .i64 e0.x.k, .int .i64 e0.x.i, .int .i64 e0.x.j, .int .i64 e0.v.n, .int .i64 e0.v.c, .int .i64 e0.v.g, .int .i64 e0.g, .int .i64 e0.p] := blk_new w _ _ _ rfl
  show Calls Try.prog 5 #[.agg #[.int .i64 e0.x.k, .int .i64 e0.x.i, .int .i64 e0.x.j, .int .i64 e0.v.n, .int .i64 e0.v.c, .int .i64 e0.v.g, .int .i64 e0.g, .int .i64 e0.p]] w _
  have heq8 : ∀ W, (binOp BinOp.eql 35 (.agg #[.int .i64 0, .int .i64 0, .int .i64 0, .int .i64 0, .int .i64 0, .int .i64 0, .int .i64 0, .int .i64 0]) (.agg #[.int .i64 0, .int .i64 0, .int .i64 0, .int .i64 0, .int .i64 0, .int .i64 0, .int .i64 0, .int .i64 0])).run Try.prog W = .ok (.bool true) W := fun W => by
    have := eq35 noE noE W
    rw [decide_eq_true rfl] at this
    exact this
  have heq3 : ∀ W, (binOp BinOp.eql 33 (.agg #[.int .i64 0, .int .i64 0, .int .i64 0]) (.agg #[.int .i64 0, .int .i64 0, .int .i64 0])).run Try.prog W = .ok (.bool true) W := fun W => by
    have := eq33 noW noW W
    rw [decide_eq_true rfl] at this
    exact this
  have hpush : ∀ (v : Value) (W : World), Nob W v → Calls Try.prog 14 #[v, .agg #[.int .i64 e0.x.k, .int .i64 e0.x.i, .int .i64 e0.x.j, .int .i64 e0.v.n, .int .i64 e0.v.c, .int .i64 e0.v.g, .int .i64 e0.g, .int .i64 e0.p]] W fun e w' => e = .returned (.bool false) ∧ Below W.heap.size W w' := fun v W h => push_nob v e0 W h
  have hpop : ∀ (v : Value) (W : World), Nob W v → Calls Try.prog 12 #[v] W fun e w' => e = .returned (.tuple #[.agg #[.int .i64 0, .int .i64 0, .int .i64 0, .int .i64 0, .int .i64 0, .int .i64 0, .int .i64 0, .int .i64 0], .bool false]) ∧ Below W.heap.size W w' := fun v W h => pop_nob v W h
  have hlast : ∀ (p : Nat) (W : World), Nob W (.pointer (some ⟨p, 0, none⟩)) → Calls Try.prog 13 #[.pointer (some ⟨p, 0, none⟩), .agg #[.int .i64 e0.x.k, .int .i64 e0.x.i, .int .i64 e0.x.j], .int .i64 e0.g] W fun e w' => e = .returned (.tuple #[.agg #[.int .i64 0, .int .i64 0, .int .i64 0], .bool false]) ∧ Below W.heap.size W w' := fun p W h => last_nob p e0.x e0.g W h
  go_enter Try.func5, Try.ntmps5
  go_wp2_with fail
  generalize eW0 : w.alloc (.cells #[.int .i64 e0.x.k, .int .i64 e0.x.i, .int .i64 e0.x.j, .int .i64 e0.v.n, .int .i64 e0.v.c, .int .i64 e0.v.g, .int .i64 e0.g, .int .i64 e0.p] 35) = W0 at *
  clear eW0
  refine (alive_any W0).mono ?_
  rintro e w1 ⟨rfl, hb1⟩
  have B1 : Below w.heap.size w w1 := two_below hb0 hb1
  have bE1 := bE.on hb1
  clear hb0 bE hb1
  have bO : Blk (w1.alloc (.cells #[.chan none] 45)) w1.heap.size 45 #[.chan none] := blk_new w1 _ _ _ rfl
  have hbo : Below w1.heap.size w1 (w1.alloc (.cells #[.chan none] 45)) := (Below.refl _ _).alloc (Nat.le_refl _) _
  go_wp2_with fail
  have B2 := two_below B1 hbo
  have bE2 := bE1.on hbo
  generalize w1.alloc (.cells #[.chan none] 45) = W1 at *
  clear hbo B1 bE1
  generalize w1.heap.size = q at *
  refine (hpop (.pointer none) W1 (nob_nil _)).mono ?_
  rintro e w2 ⟨rfl, hb2⟩
  have B3 := B2.trans (hb2.mono B2.size)
  have bE3 := bE2.on hb2
  have bO3 := bO.on hb2
  clear hb2 B2 bE2 bO
  have hba : Below w2.heap.size w2 (w2.alloc (.cells #[.int .i64 0, .int .i64 0, .int .i64 0, .int .i64 0, .int .i64 0, .int .i64 0, .int .i64 0, .int .i64 0] 35)) := (Below.refl _ _).alloc (Nat.le_refl _) _
  have bA : Blk (w2.alloc (.cells #[.int .i64 0, .int .i64 0, .int .i64 0, .int .i64 0, .int .i64 0, .int .i64 0, .int .i64 0, .int .i64 0] 35)) w2.heap.size 35 #[.int .i64 0, .int .i64 0, .int .i64 0, .int .i64 0, .int .i64 0, .int .i64 0, .int .i64 0, .int .i64 0] := blk_new w2 _ _ _ rfl
  have bE4 := bE3.on hba
  have bO4 := bO3.on hba
  have B4 := B3.trans (hba.mono B3.size)
  go_wp2_with fail
  generalize w2.alloc (.cells #[.int .i64 0, .int .i64 0, .int .i64 0, .int .i64 0, .int .i64 0, .int .i64 0, .int .i64 0, .int .i64 0] 35) = W2 at *
  clear hba bE3 bO3 B3
  generalize w2.heap.size = a at *
  refine (hpop (.pointer (some ⟨q, 0, none⟩)) W2 (nob_blk bO4)).mono ?_
  rintro e w3 ⟨rfl, hb3⟩
  have B5 := B4.trans (hb3.mono B4.size)
  have bE5 := bE4.on hb3
  have bO5 := bO4.on hb3
  have bA5 := bA.on hb3
  clear hb3 B4 bE4 bO4 bA
  have hbb : Below w3.heap.size w3 (w3.alloc (.cells #[.int .i64 0, .int .i64 0, .int .i64 0, .int .i64 0, .int .i64 0, .int .i64 0, .int .i64 0, .int .i64 0] 35)) := (Below.refl _ _).alloc (Nat.le_refl _) _
  have bB : Blk (w3.alloc (.cells #[.int .i64 0, .int .i64 0, .int .i64 0, .int .i64 0, .int .i64 0, .int .i64 0, .int .i64 0, .int .i64 0] 35)) w3.heap.size 35 #[.int .i64 0, .int .i64 0, .int .i64 0, .int .i64 0, .int .i64 0, .int .i64 0, .int .i64 0, .int .i64 0] := blk_new w3 _ _ _ rfl
  have bE6 := bE5.on hbb
  have bO6 := bO5.on hbb
  have bA6 := bA5.on hbb
  have B6 := B5.trans (hbb.mono B5.size)
  have c0 : (w3.alloc (.cells #[.int .i64 0, .int .i64 0, .int .i64 0, .int .i64 0, .int .i64 0, .int .i64 0, .int .i64 0, .int .i64 0] 35)).cell? ⟨w.heap.size, 0, none⟩ = some (.int .i64 e0.x.k) := bE6.cell 0
  have c1 : (w3.alloc (.cells #[.int .i64 0, .int .i64 0, .int .i64 0, .int .i64 0, .int .i64 0, .int .i64 0, .int .i64 0, .int .i64 0] 35)).cell? ⟨w.heap.size, 1, none⟩ = some (.int .i64 e0.x.i) := bE6.cell 1
  have c2 : (w3.alloc (.cells #[.int .i64 0, .int .i64 0, .int .i64 0, .int .i64 0, .int .i64 0, .int .i64 0, .int .i64 0, .int .i64 0] 35)).cell? ⟨w.heap.size, 2, none⟩ = some (.int .i64 e0.x.j) := bE6.cell 2
  have c6 : (w3.alloc (.cells #[.int .i64 0, .int .i64 0, .int .i64 0, .int .i64 0, .int .i64 0, .int .i64 0, .int .i64 0, .int .i64 0] 35)).cell? ⟨w.heap.size, 6, none⟩ = some (.int .i64 e0.g) := bE6.cell 6
  go_wp2_with fail
  clear c0 c1 c2 c6
  generalize w3.alloc (.cells #[.int .i64 0, .int .i64 0, .int .i64 0, .int .i64 0, .int .i64 0, .int .i64 0, .int .i64 0, .int .i64 0] 35) = W3 at *
  clear hbb bE5 bO5 bA5 B5
  generalize w3.heap.size = b at *
  refine (hlast q W3 (nob_blk bO6)).mono ?_
  rintro e w4 ⟨rfl, hb4⟩
  have B7 := B6.trans (hb4.mono B6.size)
  have bE7 := bE6.on hb4
  have bO7 := bO6.on hb4
  have bA7 := bA6.on hb4
  have bB7 := bB.on hb4
  clear hb4 B6 bE6 bO6 bA6 bB
  have hbc : Below w4.heap.size w4 (w4.alloc (.cells #[.int .i64 0, .int .i64 0, .int .i64 0] 33)) := (Below.refl _ _).alloc (Nat.le_refl _) _
  have bC : Blk (w4.alloc (.cells #[.int .i64 0, .int .i64 0, .int .i64 0] 33)) w4.heap.size 33 #[.int .i64 0, .int .i64 0, .int .i64 0] := blk_new w4 _ _ _ rfl
  have bE8 := bE7.on hbc
  have bO8 := bO7.on hbc
  have bA8 := bA7.on hbc
  have bB8 := bB7.on hbc
  have B8 := B7.trans (hbc.mono B7.size)
  have d0 : (w4.alloc (.cells #[.int .i64 0, .int .i64 0, .int .i64 0] 33)).cell? ⟨w.heap.size, 0, none⟩ = some (.int .i64 e0.x.k) := bE8.cell 0
  have d1 : (w4.alloc (.cells #[.int .i64 0, .int .i64 0, .int .i64 0] 33)).cell? ⟨w.heap.size, 1, none⟩ = some (.int .i64 e0.x.i) := bE8.cell 1
  have d2 : (w4.alloc (.cells #[.int .i64 0, .int .i64 0, .int .i64 0] 33)).cell? ⟨w.heap.size, 2, none⟩ = some (.int .i64 e0.x.j) := bE8.cell 2
  have d3 : (w4.alloc (.cells #[.int .i64 0, .int .i64 0, .int .i64 0] 33)).cell? ⟨w.heap.size, 3, none⟩ = some (.int .i64 e0.v.n) := bE8.cell 3
  have d4 : (w4.alloc (.cells #[.int .i64 0, .int .i64 0, .int .i64 0] 33)).cell? ⟨w.heap.size, 4, none⟩ = some (.int .i64 e0.v.c) := bE8.cell 4
  have d5 : (w4.alloc (.cells #[.int .i64 0, .int .i64 0, .int .i64 0] 33)).cell? ⟨w.heap.size, 5, none⟩ = some (.int .i64 e0.v.g) := bE8.cell 5
  have d6 : (w4.alloc (.cells #[.int .i64 0, .int .i64 0, .int .i64 0] 33)).cell? ⟨w.heap.size, 6, none⟩ = some (.int .i64 e0.g) := bE8.cell 6
  have d7 : (w4.alloc (.cells #[.int .i64 0, .int .i64 0, .int .i64 0] 33)).cell? ⟨w.heap.size, 7, none⟩ = some (.int .i64 e0.p) := bE8.cell 7
  go_wp2_with fail
  clear d0 d1 d2 d3 d4 d5 d6 d7
  generalize w4.alloc (.cells #[.int .i64 0, .int .i64 0, .int .i64 0] 33) = W4 at *
  clear hbc bE7 bO7 bA7 bB7 B7
  generalize w4.heap.size = cc at *
  refine (hpush (.pointer none) W4 (nob_nil _)).mono ?_
  rintro e w5 ⟨rfl, hb5⟩
  have B9 := B8.trans (hb5.mono B8.size)
  have bE9 := bE8.on hb5
  have bO9 := bO8.on hb5
  have bA9 := bA8.on hb5
  have bB9 := bB8.on hb5
  have bC9 := bC.on hb5
  clear hb5 B8 bE8 bO8 bA8 bB8 bC
  have d0 : w5.cell? ⟨w.heap.size, 0, none⟩ = some (.int .i64 e0.x.k) := bE9.cell 0
  have d1 : w5.cell? ⟨w.heap.size, 1, none⟩ = some (.int .i64 e0.x.i) := bE9.cell 1
  have d2 : w5.cell? ⟨w.heap.size, 2, none⟩ = some (.int .i64 e0.x.j) := bE9.cell 2
  have d3 : w5.cell? ⟨w.heap.size, 3, none⟩ = some (.int .i64 e0.v.n) := bE9.cell 3
  have d4 : w5.cell? ⟨w.heap.size, 4, none⟩ = some (.int .i64 e0.v.c) := bE9.cell 4
  have d5 : w5.cell? ⟨w.heap.size, 5, none⟩ = some (.int .i64 e0.v.g) := bE9.cell 5
  have d6 : w5.cell? ⟨w.heap.size, 6, none⟩ = some (.int .i64 e0.g) := bE9.cell 6
  have d7 : w5.cell? ⟨w.heap.size, 7, none⟩ = some (.int .i64 e0.p) := bE9.cell 7
  go_wp2_with fail
  clear d0 d1 d2 d3 d4 d5 d6 d7
  refine (hpush (.pointer (some ⟨q, 0, none⟩)) w5 (nob_blk bO9)).mono ?_
  rintro e w6 ⟨rfl, hb6⟩
  have B10 := B9.trans (hb6.mono B9.size)
  have bO10 := bO9.on hb6
  have bA10 := bA9.on hb6
  have bB10 := bB9.on hb6
  have bC10 := bC9.on hb6
  clear hb6 B9 bE9 bO9 bA9 bB9 bC9
  have x0 : w6.cell? ⟨a, 0, none⟩ = some (.int .i64 0) := bA10.cell 0
  have x1 : w6.cell? ⟨a, 1, none⟩ = some (.int .i64 0) := bA10.cell 1
  have x2 : w6.cell? ⟨a, 2, none⟩ = some (.int .i64 0) := bA10.cell 2
  have x3 : w6.cell? ⟨a, 3, none⟩ = some (.int .i64 0) := bA10.cell 3
  have x4 : w6.cell? ⟨a, 4, none⟩ = some (.int .i64 0) := bA10.cell 4
  have x5 : w6.cell? ⟨a, 5, none⟩ = some (.int .i64 0) := bA10.cell 5
  have x6 : w6.cell? ⟨a, 6, none⟩ = some (.int .i64 0) := bA10.cell 6
  have x7 : w6.cell? ⟨a, 7, none⟩ = some (.int .i64 0) := bA10.cell 7
  have y0 : w6.cell? ⟨b, 0, none⟩ = some (.int .i64 0) := bB10.cell 0
  have y1 : w6.cell? ⟨b, 1, none⟩ = some (.int .i64 0) := bB10.cell 1
  have y2 : w6.cell? ⟨b, 2, none⟩ = some (.int .i64 0) := bB10.cell 2
  have y3 : w6.cell? ⟨b, 3, none⟩ = some (.int .i64 0) := bB10.cell 3
  have y4 : w6.cell? ⟨b, 4, none⟩ = some (.int .i64 0) := bB10.cell 4
  have y5 : w6.cell? ⟨b, 5, none⟩ = some (.int .i64 0) := bB10.cell 5
  have y6 : w6.cell? ⟨b, 6, none⟩ = some (.int .i64 0) := bB10.cell 6
  have y7 : w6.cell? ⟨b, 7, none⟩ = some (.int .i64 0) := bB10.cell 7
  have t0 : w6.cell? ⟨cc, 0, none⟩ = some (.int .i64 0) := bC10.cell 0
  have t1 : w6.cell? ⟨cc, 1, none⟩ = some (.int .i64 0) := bC10.cell 1
  have t2 : w6.cell? ⟨cc, 2, none⟩ = some (.int .i64 0) := bC10.cell 2
  go_wp2_with fail
  clear x0 x1 x2 x3 x4 x5 x6 x7 y0 y1 y2 y3 y4 y5 y6 y7 t0 t1 t2 bA10 bB10 bC10
  refine (len_nob (.pointer none) w6 (nob_nil _)).mono ?_
  rintro e w' ⟨rfl, rfl⟩
  go_wp2_with fail
  refine (len_nob (.pointer (some ⟨q, 0, none⟩)) w6 (nob_blk bO10)).mono ?_
  rintro e w' ⟨rfl, rfl⟩
  go_wp2_with fail
  refine (all_nob (.pointer none) w6 (nob_nil _)).mono ?_
  rintro e w7 ⟨A7, cp7, rfl, _, hb7⟩
  have B11 := B10.trans (hb7.mono B10.size)
  have bO11 := bO10.on hb7
  clear hb7 bO10 B10
  go_wp2_with fail
  refine (all_nob (.pointer (some ⟨q, 0, none⟩)) w7 (nob_blk bO11)).mono ?_
  rintro e w8 ⟨A8, cp8, rfl, _, hb8⟩
  have B12 := B11.trans (hb8.mono B11.size)
  have bO12 := bO11.on hb8
  clear hb8 bO11 B11
  go_wp2_with fail
  refine (full_nob (.pointer none) w8 (nob_nil _)).mono ?_
  rintro e w' ⟨rfl, rfl⟩
  go_wp2_with fail
  refine (full_nob (.pointer (some ⟨q, 0, none⟩)) w8 (nob_blk bO12)).mono ?_
  rintro e w' ⟨rfl, rfl⟩
  go_wp2_with fail
  refine (clone_nob (.pointer none) w8 (nob_nil _)).mono ?_
  rintro e w' ⟨rfl, rfl⟩
  go_wp2_with fail
  refine (clone_nob (.pointer (some ⟨q, 0, none⟩)) w8 (nob_blk bO12)).mono ?_
  rintro e w' ⟨rfl, rfl⟩
  go_wp2
  go_ret
  exact ⟨rfl, B12⟩
end Go.Proofs.Ytclnkgoaenlhhaa
