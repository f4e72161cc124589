/- Of any bag the first ones may go, the others not. Conditions: room for a copy of the bag. -/
import Derived.Test.YtobkhefehkcopaaAlive
import Derived.Test.YtobkhefehkcopaaBags
namespace Go.Proofs.Ytobkhefehkcopaa
open Go.RowKit Go.ChangeShapes Go.WideShapes

set_option maxRecDepth 100000 in
set_option maxHeartbeats 4000000 in
theorem splits_any {w : World} {A : Option Addr} {n cap : Nat} {l : List Bg} {x : Int} (hS : SeesB w A n cap l) (hB : n * 24 ≤ 140737488355328) :
    Calls Try.prog 4 #[.slice A n cap, .int .i64 x] w fun r w' => r = .returned (.bool true) ∧ Below w.heap.size w w' := by
  have hrm := Sees.room hS
  have hA0 := Sees.none_ hS
  obtain ⟨k, ek, hk⟩ := cl_nat x n
  have hU := fun W => upto28 A n cap k (by omega) hA0 W
  have h1 : SeesB w A k cap (l.take k) := Sees.first Bg.len hS k hk (by omega)
  obtain ⟨A3, q, cap3, hq, h2, hF⟩ := rest_in hS k hk
  have cn := fun W => near_any x n W
  rw [ek] at cn
  have cs := fun W (hW : Below w.heap.size w W) => split_any (x := x) (hS.on hW) hB ek hk
  rw [← hq] at cs
  have cb1 := fun W (hW : Below w.heap.size w W) A' c' => bags_same A' A k c' cap (l.take k) W
  have hn63 : (n : Int) ≤ 9223372036854775807 := by omega
  have hk0 : (0 : Int) ≤ (k : Int) := by omega
  have hkI : (k : Int) ≤ (n : Int) := by omega
  clear hA0 hrm hB ek hk hq cb1
  go_enter Try.func4, Try.ntmps4
  go_wp2_with fail
  refine (alive_any w).mono ?_
  rintro r W ⟨rfl, hb⟩
  go_wp2_with fail
  refine (cn _).mono ?_
  rintro r W1 ⟨rfl, rfl⟩
  go_wp2_with fail
  refine (cs _ hb).mono ?_
  rintro r W2 ⟨A1, c1, A2, c2, rfl, hF1, hK1, hb2⟩
  have hbw := hb.trans (hb2.mono hb.size)
  have d1 := bags_same A1 A k c1 cap (l.take k) W2 hF1 (h1.on hbw)
  have d2 : ∀ W', Below W2.heap.size W2 W' → _ := fun W' hW' => bags_same A2 A3 q c2 cap3 (l.drop k) W' (hK1.on hW') (h2.on (hbw.trans (hW'.mono hbw.size)))
  have HB := Lib.hid hbw
  clear cs cn hb hb2 hF1 hK1 h1 h2 hbw
  go_wp2_with fail
  refine d1.mono ?_
  rintro r W3 ⟨rfl, hb3⟩
  have d3 := d2 _ hb3
  have HC := Lib.hid (HB.out.trans (hb3.mono HB.out.size))
  clear d1 d2 hb3 HB
  go_wp2_with fail
  refine d3.mono ?_
  rintro r W4 ⟨rfl, hb4⟩
  have HD := Lib.hid (HC.out.trans (hb4.mono HC.out.size))
  clear d3 hb4
  go_wp2
  go_ret
  exact ⟨rfl, HD.out⟩
end Go.Proofs.Ytobkhefehkcopaa
