/- The check of one room that each law begins with. Conditions: none. -/
import Derived.Test.YtjbmdbnjoekpmaaRun
namespace Go.Proofs.Ytjbmdbnjoekpmaa
open Go.RowKit Go.Conc

theorem alive_any (w : World) : Calls Try.prog 6 #[] w fun e w' => e = .returned (.bool true) ∧ Below w.heap.size w w' := by
  have hn := new_any 1 w
  have e1 : near 1 = 1 := by decide
  rw [e1] at hn
  go_enter Try.func6, Try.ntmps6
  go_wp2_with fail
  refine hn.mono ?_
  rintro e w1 ⟨p, c, rfl, h1, hp, hc, hb1⟩
  have k1 := put_pipe p c 1 7 [] w1 h1
  simp only [putN, List.length_nil, Nat.zero_lt_one, decide_true, if_true, List.nil_append] at k1
  go_wp2_with fail
  refine k1.mono ?_
  rintro e w2 ⟨rfl, h2, hg2⟩
  have k2 := put_pipe p c 1 8 [7] w2 h2
  simp only [putN, List.length_singleton, Nat.lt_irrefl, decide_false, if_false] at k2
  go_wp2_with fail
  refine k2.mono ?_
  rintro e w3 ⟨rfl, h3, hg3⟩
  have k3 := take_pipe p c 1 [7] w3 h3
  simp only [List.headD_cons, List.isEmpty_cons, Bool.not_false, List.tail_cons] at k3
  go_wp2_with fail
  refine k3.mono ?_
  rintro e w4 ⟨rfl, h4, hg4⟩
  have k4 := room_pipe p c 1 [] w4 h4
  simp only [List.length_nil, Int.natCast_one, Int.natCast_zero, Int.sub_zero] at k4
  go_wp2_with fail
  refine k4.mono ?_
  rintro e w5 ⟨rfl, hb5⟩
  go_wp2
  go_ret
  have hg := ((hg2.trans hg3).trans hg4).trans (grown_below hb5 _)
  exact ⟨rfl, hb1.grown hg hb1.size (fun k hk => by injection hk with hk; omega)⟩
end Go.Proofs.Ytjbmdbnjoekpmaa
