/- The check of two stores that each law begins with. Conditions: none. -/
import Derived.Test.YtclnkgoaenlhhaaRun
namespace Go.Proofs.Ytclnkgoaenlhhaa
open Go.RowKit Go.Conc Go.ChangeShapes Go.WideShapes

set_option maxRecDepth 100000 in
set_option maxHeartbeats 4000000 in
theorem alive_any (w : World) : Calls Try.prog 6 #[] w fun e w' => e = .returned (.bool true) ∧ Below w.heap.size w w' := by
  have hn := new_any 2 w
  have e1 : near 2 = 2 := by decide
  rw [e1] at hn
  have hat : ∀ (n : Int) (W : World), Calls Try.prog 18 #[.int .i64 n] W fun e w' => e = .returned (.agg #[.int .i64 1, .int .i64 0, .int .i64 0, .int .i64 n, .int .i64 0, .int .i64 0, .int .i64 0, .int .i64 0]) ∧ Below W.heap.size W w' := at_any
  go_enter Try.func6, Try.ntmps6
  go_wp2_with fail
  refine hn.mono ?_
  rintro e w1 ⟨p, c, rfl, h1, hp, hc, hb1⟩
  go_wp2_with fail
  refine (hat 1 w1).mono ?_
  rintro e w2 ⟨rfl, hb2⟩
  have h2 := h1.below hb2
  have k1 : Calls Try.prog 14 #[.pointer (some ⟨p, 0, none⟩), .agg #[.int .i64 1, .int .i64 0, .int .i64 0, .int .i64 1, .int .i64 0, .int .i64 0, .int .i64 0, .int .i64 0]] w2 fun e w' => e = .returned (.bool true) ∧ Buf w' p c 2 [atE 1] ∧ w2.grownBy w' (some c) := push_buf p c 2 (atE 1) [] w2 h2
  go_wp2_with fail
  refine k1.mono ?_
  rintro e w3 ⟨rfl, h3, hg3⟩
  go_wp2_with fail
  refine (hat 2 w3).mono ?_
  rintro e w4 ⟨rfl, hb4⟩
  have h4 := h3.below hb4
  have k2 : Calls Try.prog 14 #[.pointer (some ⟨p, 0, none⟩), .agg #[.int .i64 1, .int .i64 0, .int .i64 0, .int .i64 2, .int .i64 0, .int .i64 0, .int .i64 0, .int .i64 0]] w4 fun e w' => e = .returned (.bool true) ∧ Buf w' p c 2 [atE 1, atE 2] ∧ w4.grownBy w' (some c) := push_buf p c 2 (atE 2) [atE 1] w4 h4
  go_wp2_with fail
  refine k2.mono ?_
  rintro e w5 ⟨rfl, h5, hg5⟩
  go_wp2_with fail
  refine (hat 3 w5).mono ?_
  rintro e w6 ⟨rfl, hb6⟩
  have h6 := h5.below hb6
  have k3 : Calls Try.prog 14 #[.pointer (some ⟨p, 0, none⟩), .agg #[.int .i64 1, .int .i64 0, .int .i64 0, .int .i64 3, .int .i64 0, .int .i64 0, .int .i64 0, .int .i64 0]] w6 fun e w' => e = .returned (.bool false) ∧ Buf w' p c 2 [atE 1, atE 2] ∧ w6.grownBy w' (some c) := push_buf p c 2 (atE 3) [atE 1, atE 2] w6 h6
  go_wp2_with fail
  refine k3.mono ?_
  rintro e w7 ⟨rfl, h7, hg7⟩
  have hG7 : w1.grownBy w7 (some c) := (grown_below hb2 _).trans (hg3.trans ((grown_below hb4 _).trans (hg5.trans ((grown_below hb6 _).trans hg7))))
  have k4 : Calls Try.prog 13 #[.pointer (some ⟨p, 0, none⟩), .agg #[.int .i64 1, .int .i64 0, .int .i64 0], .int .i64 0] w7 fun e w' => e = .returned (.tuple #[.agg #[.int .i64 2, .int .i64 0, .int .i64 0], .bool true]) ∧ Buf w' p c 2 [atE 1, atE 2] ∧ w7.grownBy w' (some c) := last_buf' p c 2 [atE 1, atE 2] ⟨1, 0, 0⟩ 0 w7 h7
  clear hb2 h2 k1 h3 hg3 hb4 h4 k2 h5 hg5 hb6 h6 k3 hg7 hat h1 hn e1
  go_wp2_with fail
  refine k4.mono ?_
  rintro e w8 ⟨rfl, h8, hg8⟩
  have hc8 : c < w8.heap.size := h8.holds.lt
  go_wp2_with fail
  obtain ⟨W8, eW8⟩ : ∃ W, w8.alloc (.cells #[.int .i64 2, .int .i64 0, .int .i64 0] 33) = W := ⟨_, rfl⟩
  have hb8 : Below w8.heap.size w8 W8 := by rw [← eW8]; exact (Below.refl _ _).alloc (Nat.le_refl _) _
  have hx8 : Blk W8 w8.heap.size 33 #[.int .i64 2, .int .i64 0, .int .i64 0] := by rw [← eW8]; exact blk_new w8 _ _ _ rfl
  have h8' := h8.below hb8
  have k5 : Calls Try.prog 12 #[.pointer (some ⟨p, 0, none⟩)] W8 fun e w' => e = .returned (.tuple #[.agg #[.int .i64 1, .int .i64 0, .int .i64 0, .int .i64 1, .int .i64 0, .int .i64 0, .int .i64 0, .int .i64 0], .bool true]) ∧ Buf w' p c 2 [atE 2] ∧ W8.grownBy w' (some c) := pop_buf p c 2 [atE 1, atE 2] W8 h8'
  rw [eW8]
  refine k5.mono ?_
  rintro e w9 ⟨rfl, h9, hg9⟩
  clear k4 k5 eW8
  have hx9 : Blk w9 w8.heap.size 33 #[.int .i64 2, .int .i64 0, .int .i64 0] := blk_grown hx8 hg9 (fun e => by injection e with e; omega)
  have hb9 : Below w9.heap.size w9 (w9.alloc (.cells #[.int .i64 1, .int .i64 0, .int .i64 0, .int .i64 1, .int .i64 0, .int .i64 0, .int .i64 0, .int .i64 0] 35)) := (Below.refl _ _).alloc (Nat.le_refl _) _
  have hy9 : Blk (w9.alloc (.cells #[.int .i64 1, .int .i64 0, .int .i64 0, .int .i64 1, .int .i64 0, .int .i64 0, .int .i64 0, .int .i64 0] 35)) w9.heap.size 35 #[.int .i64 1, .int .i64 0, .int .i64 0, .int .i64 1, .int .i64 0, .int .i64 0, .int .i64 0, .int .i64 0] := blk_new w9 _ _ _ rfl
  have hx9' := hx9.on hb9
  have c0 : (w9.alloc (.cells #[.int .i64 1, .int .i64 0, .int .i64 0, .int .i64 1, .int .i64 0, .int .i64 0, .int .i64 0, .int .i64 0] 35)).cell? ⟨w8.heap.size, 0, none⟩ = some (.int .i64 2) := hx9'.cell 0
  have c1 : (w9.alloc (.cells #[.int .i64 1, .int .i64 0, .int .i64 0, .int .i64 1, .int .i64 0, .int .i64 0, .int .i64 0, .int .i64 0] 35)).cell? ⟨w9.heap.size, 3, none⟩ = some (.int .i64 1) := hy9.cell 3
  have k6 : Calls Try.prog 15 #[.pointer (some ⟨p, 0, none⟩)] (w9.alloc (.cells #[.int .i64 1, .int .i64 0, .int .i64 0, .int .i64 1, .int .i64 0, .int .i64 0, .int .i64 0, .int .i64 0] 35)) fun e w' => e = .returned (.int .i64 1) ∧ (w9.alloc (.cells #[.int .i64 1, .int .i64 0, .int .i64 0, .int .i64 1, .int .i64 0, .int .i64 0, .int .i64 0, .int .i64 0] 35)) = w' := len_buf p c 2 [atE 2] _ (h9.below hb9)
  go_wp2_with fail
  refine k6.mono ?_
  rintro e w' ⟨rfl, rfl⟩
  go_wp2
  go_ret
  have hG : w1.grownBy (w9.alloc (.cells #[.int .i64 1, .int .i64 0, .int .i64 0, .int .i64 1, .int .i64 0, .int .i64 0, .int .i64 0, .int .i64 0] 35)) (some c) := hG7.trans (hg8.trans ((grown_below hb8 _).trans (hg9.trans (grown_below hb9 _))))
  exact ⟨rfl, hb1.grown hG hb1.size (fun k hk => by injection hk with hk; omega)⟩
end Go.Proofs.Ytclnkgoaenlhhaa
