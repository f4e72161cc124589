/- The walk of AsmInstrs. Conditions: the variables lie as they are laid. -/
import Derived.Test.YtodklfjoeehinaaDoorTrial
namespace Go.Proofs.YtodklfjoeehinaaDoor
open Go.RowKit Nine
set_option linter.unusedSimpArgs false

set_option maxRecDepth 100000 in
set_option maxHeartbeats 2000000 in
theorem asmInstrs_any (s : ByteArray) (w : World) (hL : Laid w) : Calls Tryd.prog 3 #[.string s] w fun e w' => e = .returned (.bool true) ∧ Below w.heap.size w w' := by
  have hA := alive_any w hL
  have hT : (txt ((oct s).take 100)).size ≤ 100 := by rw [txt_size, List.length_take]; omega
  obtain ⟨t, ht⟩ : ∃ t, txt ((oct s).take 100) = t := ⟨_, rfl⟩
  have HC := fun W => cut13_any s 100 (by decide) W
  rw [ht] at HC hT
  obtain ⟨x, hx⟩ : ∃ x, instrA (wordsL (oct t)) = x := ⟨_, rfl⟩
  have HI : Hid (∀ W, Laid W → Calls Tryd.prog 8 #[.string t] W fun e w' => e = .returned (.tuple #[.agg #[.int .i64 x.1.o, .int .i64 x.1.a, .int .i64 x.1.b, .int .i64 x.1.c, .int .i64 x.1.n], .int .i64 x.2]) ∧ Below W.heap.size W w') := Lib.hid fun W hW => by
    have := line_any t (by omega) W hW
    rw [hx] at this
    exact this
  have HJ : Hid (∀ W, Calls Tryd.prog 9 #[.string t] W fun e w' => e = .returned (.tuple #[.agg #[.int .i64 x.1.o, .int .i64 x.1.a, .int .i64 x.1.b, .int .i64 x.1.c, .int .i64 x.1.n], .int .i64 x.2]) ∧ Below W.heap.size W w') := Lib.hid fun W => by
    have := refinstr_any t (by omega) W
    rw [hx] at this
    exact this
  have HL := Lib.hid hL
  clear hL hx ht
  obtain ⟨⟨x0, x1, x2, x3, x4⟩, x5⟩ := x
  simp only at HI HJ
  go_enter Tryd.func3, Tryd.ntmps3
  go_wp2_with fail
  refine hA.mono ?_
  rintro e w1 ⟨rfl, hb1⟩
  go_wp2_with fail
  refine (HC w1).mono ?_
  rintro e w2 ⟨rfl, rfl⟩
  go_wp2_with fail
  refine (HI.out _ (HL.out.on hb1)).mono ?_
  rintro e w2 ⟨rfl, hb2⟩
  have b2 : Below w2.heap.size w2 (w2.alloc (.cells #[.int .i64 x0, .int .i64 x1, .int .i64 x2, .int .i64 x3, .int .i64 x4] 25)) := (Below.refl _ w2).alloc (Nat.le_refl _) _
  have z2 := At5.new w2 x0 x1 x2 x3 x4
  have q2 := hb1.trans ((hb2.mono hb1.size).trans (b2.mono (Nat.le_trans hb1.size hb2.size)))
  go_wp2_with fail
  refine (HJ.out _).mono ?_
  rintro e w3 ⟨rfl, hb3⟩
  have b3 : Below w3.heap.size w3 (w3.alloc (.cells #[.int .i64 x0, .int .i64 x1, .int .i64 x2, .int .i64 x3, .int .i64 x4] 25)) := (Below.refl _ w3).alloc (Nat.le_refl _) _
  have z3 := (z2.on hb3).on b3
  obtain ⟨c0, c1, c2, c3, c4⟩ := z3
  obtain ⟨d0, d1, d2, d3, d4⟩ := At5.new w3 x0 x1 x2 x3 x4
  have HF := Lib.hid (q2.trans ((hb3.mono q2.size).trans (b3.mono (Nat.le_trans q2.size hb3.size))))
  clear hb1 hb2 b2 z2 q2 hb3 b3
  go_wp2
  go_ret
  exact ⟨by simp, HF.out⟩
end Go.Proofs.YtodklfjoeehinaaDoor
