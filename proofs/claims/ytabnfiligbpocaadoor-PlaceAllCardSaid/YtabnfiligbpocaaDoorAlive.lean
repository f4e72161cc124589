/- A field, of a program of two cells and a thread. Conditions: the library's table of powers of ten lies as it is laid. -/
import Derived.Test.YtabnfiligbpocaaDoorTextP
import Derived.Test.YtabnfiligbpocaaDoorHas
import Derived.Test.YtabnfiligbpocaaDoorLess
namespace Go.Proofs.YtabnfiligbpocaaDoor
open Go.RowKit Go.ChangeShapes Go.WideShapes

theorem itoa_dig (n : Nat) (h : n < 10) : Lib.itoa (n : Int) = [UInt8.ofNat (48 + n)] := by
  unfold Lib.itoa
  rw [if_neg (by omega), Lib.decDigits, dif_pos (by omega)]
  rfl
theorem field21 : joinL (wordsP [102, 105, 101, 108, 100] [2, 1]) = [102, 105, 101, 108, 100, 32, 50, 32, 49] := by
  have h2 := itoa_dig 2 (by omega)
  have h1 := itoa_dig 1 (by omega)
  unfold wordsP
  rw [List.map_cons, List.map_cons, List.map_nil]
  rw [show ((2 : Nat) : Int) = 2 from rfl] at h2
  rw [show ((1 : Nat) : Int) = 1 from rfl] at h1
  rw [h2, h1]
  rfl
def pgA (A : Option Addr) : Pg := ⟨0, 2, 0, A, 1, 1⟩
theorem pgA_ok (A : Option Addr) : (pgA A).Ok := ⟨Nat.le_refl _, (by decide : (1 : Nat) ≤ maxLen)⟩
theorem pgA_is (A : Option Addr) : isP ⟨3, 2, 1⟩ (pgA A) = true := by rfl
theorem pgA_all (A : Option Addr) : (allP (pgA A)).length = 10 := by rfl
theorem less_al : lessP ⟨2, 2, 0⟩ ⟨3, 2, 1⟩ = true := by rfl
set_option maxRecDepth 100000 in
set_option maxHeartbeats 4000000 in
theorem alive_any (w : World) (hL : Laid w) : Calls Tryd.prog 7 #[] w fun e w' => e = .returned (.bool true) ∧ Below w.heap.size w w' := by
  obtain ⟨z, ez⟩ : ∃ z, z = w.heap.size + 1 + 1 := ⟨_, rfl⟩
  obtain ⟨A, eA⟩ : ∃ A : Option Addr, A = some ⟨w.heap.size + 1, 0, none⟩ := ⟨_, rfl⟩
  obtain ⟨W0, eW0⟩ : ∃ W, W = ((((w.alloc (.cells #[] 100)).alloc (.cells #[.slice (some ⟨w.heap.size, 0, none⟩) 0 0] 39)).alloc (.cells #[.int .i64 0, .int .i64 2, .int .i64 0, .slice (some ⟨w.heap.size + 1, 0, none⟩) 1 1] 26)).alloc (.cells #[.int .i64 3, .int .i64 2, .int .i64 1] 23)) := ⟨_, rfl⟩
  have hb0 : Below w.heap.size w W0 := by rw [eW0]; exact ((((Below.refl _ w).alloc (Nat.le_refl _) _).alloc (by simp) _).alloc (by simp; omega) _).alloc (by simp; omega) _
  have hp0 : Blk W0 z 26 #[.int .i64 0, .int .i64 2, .int .i64 0, .slice A 1 1] := by rw [eW0, eA]; exact Blk.below (blk_new _ _ 26 _ (by rw [ez]; simp)) ((Below.refl _ _).alloc (Nat.le_refl _) _) (by rw [ez]; simp)
  have hx0 : Blk W0 (z + 1) 23 #[.int .i64 3, .int .i64 2, .int .i64 1] := by rw [eW0]; exact blk_new _ _ 23 _ (by rw [ez]; simp)
  have h9 : ∀ W, Calls Tryd.prog 9 #[.agg #[.int .i64 3, .int .i64 2, .int .i64 1], .agg #[.int .i64 0, .int .i64 2, .int .i64 0, .slice A 1 1]] W fun e w' => e = .returned (.bool true) ∧ Below W.heap.size W w' := fun W => is_any ⟨3, 2, 1⟩ (pgA A) (pgA_ok A) W
  obtain ⟨S, eS⟩ : ∃ S, S = txt (joinL (wordsP [102, 105, 101, 108, 100] [2, 1])) := ⟨_, rfl⟩
  have hS : (S.toList == [102, 105, 101, 108, 100, 32, 50, 32, 49]) = true := by rw [eS, field21, ByteArray.toList_eq]; exact beq_iff_eq.2 (oct_txt _)
  have h18 : ∀ W, Laid W → Calls Tryd.prog 18 #[.agg #[.int .i64 3, .int .i64 2, .int .i64 1]] W fun e w' => e = .returned (.string S) ∧ Below W.heap.size W w' := fun W hW => by rw [eS]; exact text_3 2 1 (by unfold Wide; omega) (by unfold Wide; omega) W hW
  have h11 : ∀ W, Calls Tryd.prog 11 #[.agg #[.int .i64 3, .int .i64 2, .int .i64 1]] W fun e w' => e = .returned (.bool true) ∧ Below W.heap.size W w' := fun W => holds_3 2 1 W
  have h12 : ∀ W, Calls Tryd.prog 12 #[.agg #[.int .i64 0, .int .i64 2, .int .i64 0, .slice A 1 1]] W fun e w' => ∃ B cap, e = .returned (.slice B 10 cap) ∧ Below W.heap.size W w' := fun W => (all_any (pgA A) (pgA_ok A) W).mono fun e w' ⟨v, h1, h2, h3⟩ => by
    obtain ⟨B, cap, rfl⟩ : ∃ B cap, v = .slice B 10 cap := by
      rw [pgA_all] at h2
      rcases h2.2 with ⟨_, h0⟩ | ⟨g, cap, cur, rfl, _⟩
      · omega
      · exact ⟨_, cap, rfl⟩
    exact ⟨B, cap, h1, h3⟩
  have h16 : ∀ W, Calls Tryd.prog 16 #[.agg #[.int .i64 2, .int .i64 2, .int .i64 0], .agg #[.int .i64 3, .int .i64 2, .int .i64 1]] W fun e w' => e = .returned (.bool true) ∧ Below W.heap.size W w' := fun W => less_any ⟨2, 2, 0⟩ ⟨3, 2, 1⟩ W
  clear eS
  go_enter Tryd.func7, Tryd.ntmps7
  go_wp2_with fail
  rw [← eW0, ← ez, ← eA]
  clear eW0
  have EZ := Lib.hid (And.intro ez eA)
  clear ez eA
  refine (h9 W0).mono ?_
  rintro e w1 ⟨rfl, hb1⟩
  have hB1 := hb0.trans (hb1.mono hb0.size)
  have hx1 := hx0.on hb1
  have hp1 := hp0.on hb1
  have c0 : w1.cell? ⟨z + 1, 0, none⟩ = some (.int .i64 3) := hx1.cell 0
  have c1 : w1.cell? ⟨z + 1, 1, none⟩ = some (.int .i64 2) := hx1.cell 1
  have c2 : w1.cell? ⟨z + 1, 2, none⟩ = some (.int .i64 1) := hx1.cell 2
  go_wp2_with fail
  refine (h18 w1 (hL.on hB1)).mono ?_
  rintro e w2 ⟨rfl, hb2⟩
  have hx2 := hx1.on hb2
  have hp2 := hp1.on hb2
  have hB2 := hB1.trans (hb2.mono hB1.size)
  clear c0 c1 c2
  have c0 : w2.cell? ⟨z + 1, 0, none⟩ = some (.int .i64 3) := hx2.cell 0
  have c1 : w2.cell? ⟨z + 1, 1, none⟩ = some (.int .i64 2) := hx2.cell 1
  have c2 : w2.cell? ⟨z + 1, 2, none⟩ = some (.int .i64 1) := hx2.cell 2
  go_wp2_with fail
  refine (h11 w2).mono ?_
  rintro e w3 ⟨rfl, hb3⟩
  have hx3 := hx2.on hb3
  have hp3 := hp2.on hb3
  have hB3 := hB2.trans (hb3.mono hB2.size)
  clear c0 c1 c2
  have d0 : w3.cell? ⟨z, 0, none⟩ = some (.int .i64 0) := hp3.cell 0
  have d1 : w3.cell? ⟨z, 1, none⟩ = some (.int .i64 2) := hp3.cell 1
  have d2 : w3.cell? ⟨z, 2, none⟩ = some (.int .i64 0) := hp3.cell 2
  have d3 : w3.cell? ⟨z, 3, none⟩ = some (.slice A 1 1) := hp3.cell 3
  go_wp2_with fail
  refine (h12 w3).mono ?_
  rintro e w4 ⟨B, cap, rfl, hb4⟩
  have hx4 := hx3.on hb4
  have hB4 := hB3.trans (hb4.mono hB3.size)
  clear d0 d1 d2 d3
  have c0 : w4.cell? ⟨z + 1, 0, none⟩ = some (.int .i64 3) := hx4.cell 0
  have c1 : w4.cell? ⟨z + 1, 1, none⟩ = some (.int .i64 2) := hx4.cell 1
  have c2 : w4.cell? ⟨z + 1, 2, none⟩ = some (.int .i64 1) := hx4.cell 2
  go_wp2_with fail
  refine (h16 w4).mono ?_
  rintro e w5 ⟨rfl, hb5⟩
  have hB5 := hB4.trans (hb5.mono hB4.size)
  go_wp2
  go_ret
  exact ⟨rfl, hB5⟩
end Go.Proofs.YtabnfiligbpocaaDoor
