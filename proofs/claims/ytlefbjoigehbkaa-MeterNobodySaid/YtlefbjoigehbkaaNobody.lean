/- nil, and a meter that New did not make: the walk. Conditions: none. -/
import Derived.Test.YtlefbjoigehbkaaAlive
namespace Go.Proofs.Ytlefbjoigehbkaa
open Go.RowKit Go.Conc

theorem near_none (n : Int) : near (near n (-5) 0) 0 1048576 = (0 : Nat) := by
  unfold near
  repeat' split
  all_goals omega

set_option maxRecDepth 100000 in
set_option maxHeartbeats 2000000 in
theorem nobody_walk (n : Int) (w : World) : Calls Try.prog 4 #[.int .i64 n] w fun e w' => e = .returned (.bool true) ∧ Below w.heap.size w w' := by
  have hn := near_any n (-5) 0
  have hnew := new_any (near n (-5) 0) 0 (near_none n) (by omega)
  generalize near n (-5) 0 = z at hn hnew
  go_enter Try.func4, Try.ntmps4
  go_wp2_with fail
  refine (alive_any w).mono ?_
  rintro e w1 ⟨rfl, hb1⟩
  have o0 : Nob (w1.alloc (.cells #[.chan none] 30)) (.pointer (some ⟨w1.heap.size, 0, none⟩)) := .inr ⟨_, rfl, cell_of_row _ w1.heap.size 0 _ 30 (0, 0) (heap_alloc_new w1 _)⟩
  have hb0 : Below w1.heap.size w1 (w1.alloc (.cells #[.chan none] 30)) := (Below.refl _ w1).alloc (Nat.le_refl _) _
  have b0 := hb1.trans (hb0.mono hb1.size)
  clear hb0
  go_wp2_with fail
  refine (hn _).mono ?_
  rintro e w' ⟨rfl, rfl⟩
  go_wp2_with fail
  refine (hnew _).mono ?_
  rintro e w2 ⟨p, c, rfl, h2, hp2, hc2, hb2⟩
  have b2 := b0.trans (hb2.mono b0.size)
  have o2 : Nob w2 (.pointer (some ⟨w1.heap.size, 0, none⟩)) := by
    rcases o0 with h | ⟨q, hv, hq⟩
    · cases h
    · exact .inr ⟨q, hv, (hb2.cell (World.block_lt_of_cell? _ _ hq)).trans hq⟩
  clear o0 hb2 hn hnew
  have n2 : Nob w2 (.pointer none) := .inl rfl
  have k1 := spend_nob _ w2 n2
  have k2 := spend_nob _ w2 o2
  have k3 := left_nob _ w2 n2
  have k4 := left_nob _ w2 o2
  have k5 := spent_nob _ w2 n2
  have k6 := spent_nob _ w2 o2
  have k7 := spend_any p c 0 0 w2 h2
  simp only [more, Nat.lt_irrefl, decide_false, if_false] at k7
  go_wp2_with fail
  refine k1.mono ?_; rintro e w' ⟨rfl, rfl⟩
  go_wp2_with fail
  refine k2.mono ?_; rintro e w' ⟨rfl, rfl⟩
  go_wp2_with fail
  refine k3.mono ?_; rintro e w' ⟨rfl, rfl⟩
  go_wp2_with fail
  refine k4.mono ?_; rintro e w' ⟨rfl, rfl⟩
  go_wp2_with fail
  refine k5.mono ?_; rintro e w' ⟨rfl, rfl⟩
  go_wp2_with fail
  refine k6.mono ?_; rintro e w' ⟨rfl, rfl⟩
  go_wp2_with fail
  refine k7.mono ?_; rintro e w3 ⟨rfl, h3, hg3⟩
  have k8 := left_any p c 0 0 w3 h3
  simp only [Int.natCast_zero, Int.sub_self] at k8
  go_wp2_with fail
  refine k8.mono ?_; rintro e w' ⟨rfl, rfl⟩
  go_wp2
  go_ret
  exact ⟨rfl, b2.grown hg3 b2.size (fun j hj => by injection hj with hj; rw [← hj]; have := b0.size; omega)⟩
end Go.Proofs.Ytlefbjoigehbkaa
