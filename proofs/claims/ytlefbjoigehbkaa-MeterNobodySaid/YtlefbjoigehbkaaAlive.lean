/- The check of one token that each law begins with. Conditions: none. -/
import Derived.Test.YtlefbjoigehbkaaCalls
namespace Go.Proofs.Ytlefbjoigehbkaa
open Go.RowKit Go.Conc

theorem alive_any (w : World) : Calls Try.prog 5 #[] w fun e w' => e = .returned (.bool true) ∧ Below w.heap.size w w' := by
  have hn := new_any 1 1 (by decide) (by omega) w
  go_enter Try.func5, Try.ntmps5
  go_wp2_with fail
  refine hn.mono ?_
  rintro e w1 ⟨p, c, rfl, h1, hp, hc, hb1⟩
  have k1 := spend_any p c 1 0 w1 h1
  simp only [more, Nat.zero_lt_one, decide_true, if_true, Nat.zero_add] at k1
  go_wp2_with fail
  refine k1.mono ?_
  rintro e w2 ⟨rfl, h2, hg2⟩
  have k2 := spend_any p c 1 1 w2 h2
  simp only [more, Nat.lt_irrefl, decide_false, if_false] at k2
  go_wp2_with fail
  refine k2.mono ?_
  rintro e w3 ⟨rfl, h3, hg3⟩
  have k3 := spent_any p c 1 1 w3 h3
  have k4 := left_any p c 1 1 w3 h3
  simp only [Int.natCast_one, Int.sub_self] at k3 k4
  go_wp2_with (first
    | (go_at_call 9; refine k3.mono ?_; rintro e w' ⟨rfl, rfl⟩)
    | (go_at_call 8; refine k4.mono ?_; rintro e w' ⟨rfl, rfl⟩))
  go_ret
  exact ⟨rfl, hb1.grown (hg2.trans hg3) hb1.size (fun k hk => by injection hk with hk; omega)⟩
end Go.Proofs.Ytlefbjoigehbkaa
