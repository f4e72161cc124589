/- The laws ReachTells and ReachLeaks return true, for all words and cells. Conditions: none. -/
import Derived.Test.YtenobgelhkpjcaaAlive
namespace Go.Proofs.Ytenobgelhkpjcaa
open Go.ChangeShapes Go.WideShapes Go.RowKit
section
variable {w : World} {C : List Cel} {l : List Wd} {A Ac : Option Addr} {n cap nc cc : Nat}
set_option maxRecDepth 100000 in
set_option maxHeartbeats 2000000 in
theorem tells_any (hw : Sees w 3 A n cap (flatW l)) (hc : Sees w 10 Ac nc cc (flatC C)) : Calls Try.prog 3 #[.slice A n cap, .slice Ac nc cc] w fun e w' => e = .returned (.bool true) ∧ Below w.heap.size w w' := by
  go_enter Try.func3, Try.ntmps3
  go_wp2_with fail
  refine (alive_any w).mono ?_
  rintro e w1 ⟨rfl, hb1⟩
  have hw1 := hw.below hb1
  have hc1 := hc.below hb1
  go_wp2_with fail
  refine (few_any hw1).mono ?_
  rintro e w' ⟨m, rfl, hm, hw2, rfl⟩
  go_wp2_with fail
  refine (some_any hc1).mono ?_
  rintro e w' ⟨k, rfl, hk, hc2, rfl⟩
  clear hw hc hw1 hc1
  generalize l.take m = l2 at hw2
  generalize C.take k = C2 at hc2
  have hlC : C2.length = k := by
    have := hc2.len
    unfold flatC at this
    rw [flat_len Cel.len] at this
    omega
  have HLC := Lib.hid hlC
  clear hlC
  go_wp2_with fail
  refine (reached_any hw2 hc2 (by omega) hk).mono ?_
  rintro e w3 ⟨A3, cap3, R, rfl, hR, hs3, hb3, _⟩
  go_wp2_with fail
  refine (rounds_any (hw2.below hb3) (hc2.below hb3) (by omega) hk).mono ?_
  rintro e w4 ⟨A4, cap4, R4, rfl, hR4, hs4, hb4, _⟩
  have e4 := hR4.eq hR
  subst e4
  have hl8 : C2.length ≤ 8 := by have := HLC.out; omega
  have hbw := hb1.trans ((hb3.trans (hb4.mono hb3.size)).mono hb1.size)
  have hbs := bools_same (hs3.below hb4) hs4 (by omega)
  have HB := Lib.hid hbw
  clear hs3 hs4 hR hR4 hb1 hb3 hb4 hbw hw2 hc2
  go_wp2_with fail
  refine hbs.mono ?_
  rintro e w5 ⟨rfl, hb5⟩
  go_wp2
  go_ret
  exact ⟨rfl, HB.out.trans (hb5.mono HB.out.size)⟩
set_option maxRecDepth 100000 in
set_option maxHeartbeats 2000000 in
theorem leaksLaw_any (hw : Sees w 3 A n cap (flatW l)) (hc : Sees w 10 Ac nc cc (flatC C)) : Calls Try.prog 4 #[.slice A n cap, .slice Ac nc cc] w fun e w' => e = .returned (.bool true) ∧ Below w.heap.size w w' := by
  go_enter Try.func4, Try.ntmps4
  go_wp2_with fail
  refine (alive_any w).mono ?_
  rintro e w1 ⟨rfl, hb1⟩
  have hw1 := hw.below hb1
  have hc1 := hc.below hb1
  go_wp2_with fail
  refine (few_any hw1).mono ?_
  rintro e w' ⟨m, rfl, hm, hw2, rfl⟩
  go_wp2_with fail
  refine (some_any hc1).mono ?_
  rintro e w' ⟨k, rfl, hk, hc2, rfl⟩
  clear hw hc hw1 hc1
  generalize l.take m = l2 at hw2
  generalize C.take k = C2 at hc2
  have hlC : C2.length = k := by
    have := hc2.len
    unfold flatC at this
    rw [flat_len Cel.len] at this
    omega
  have HLC := Lib.hid hlC
  clear hlC
  go_wp2_with fail
  refine (leaks_any hw2 hc2 (by omega) hk).mono ?_
  rintro e w3 ⟨A3, cap3, R, hR, rfl, hs3, hb3, _⟩
  go_wp2_with fail
  refine (rleaks_any (hw2.below hb3) (hc2.below hb3) (by omega) hk).mono ?_
  rintro e w4 ⟨A4, cap4, R4, hR4, rfl, hs4, hb4, _⟩
  have e4 := hR4.eq hR
  subst e4
  have hl8 : C2.length ≤ 8 := by have := HLC.out; omega
  have hl9 := leaksTo_len C2 R4 C2.length
  have hbw := hb1.trans ((hb3.trans (hb4.mono hb3.size)).mono hb1.size)
  have hbs := keys_same (hs3.below hb4) hs4 (by omega)
  have HB := Lib.hid hbw
  clear hs3 hs4 hR hR4 hb1 hb3 hb4 hbw hw2 hc2
  go_wp2_with fail
  refine hbs.mono ?_
  rintro e w5 ⟨rfl, hb5⟩
  go_wp2
  go_ret
  exact ⟨rfl, HB.out.trans (hb5.mono HB.out.size)⟩
end
end Go.Proofs.Ytenobgelhkpjcaa
