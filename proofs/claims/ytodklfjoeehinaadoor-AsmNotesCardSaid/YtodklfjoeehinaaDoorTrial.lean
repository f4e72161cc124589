/- The contract of the statements' own trial, which answers true, and of their cut. Conditions: the variables lie as they are laid, for the trial. -/
import Derived.Test.YtodklfjoeehinaaDoorParse
namespace Go.Proofs.YtodklfjoeehinaaDoor
open Go.RowKit Nine

def litP : ByteArray := ⟨#[119, 97, 114, 114, 101, 110, 101, 114, 32, 48, 32, 48, 32, 48, 10, 116, 104, 114, 101, 97, 100, 10, 104, 97, 108, 116, 10]⟩
def litI : ByteArray := ⟨#[115, 101, 116, 32, 49, 32, 45, 53]⟩
theorem lit_text : textP 0 0 0 [[⟨1, 0, 0, 0, 0⟩]] = oct litP := by decide +kernel
theorem lit_chk : chkP 0 0 0 [[⟨1, 0, 0, 0, 0⟩]] = 0 := by decide +kernel
theorem lit_runs : Runs St.none (parts 10 (oct litP)) ⟨true, 0, 0, 0, [[⟨1, 0, 0, 0, 0⟩]]⟩ := by
  rw [← lit_text, parts_textP]
  exact runs_prog lit_chk fun xs hx x hx2 => by
    simp at hx
    subst hx
    simp at hx2
    subst hx2
    exact ⟨by unfold Wide; decide, by unfold Wide; decide, by unfold Wide; decide, by unfold Wide; decide⟩
theorem lit_len : (parts 10 (oct litP)).length = 3 := by decide +kernel
theorem lit_line : lineI ⟨2, 1, 0, 0, -5⟩ = oct litI := by decide +kernel
theorem lit_chk2 : chkI ⟨2, 1, 0, 0, -5⟩ 0 0 0 = 0 := by decide +kernel
theorem lit_instr : instrA (wordsL (oct litI)) = (⟨2, 1, 0, 0, -5⟩, 0) := by
  rw [← lit_line, words_line lit_chk2]
  exact instr_back lit_chk2 (by decide) (by decide) (by decide) ⟨by unfold Wide; decide, by unfold Wide; decide, by unfold Wide; decide, by unfold Wide; decide⟩
set_option maxRecDepth 100000 in
set_option maxHeartbeats 2000000 in
theorem alive_any (w : World) (hL : Laid w) : Calls Tryd.prog 6 #[] w fun e w' => e = .returned (.bool true) ∧ Below w.heap.size w w' := by
  have hP := parse_any litP (by decide +kernel) 0 0 0 [[⟨1, 0, 0, 0, 0⟩]] w hL lit_chk lit_runs
  rw [lit_len] at hP
  have HL := Lib.hid hL
  clear hL
  unfold litP at hP
  go_enter Tryd.func6, Tryd.ntmps6
  go_wp2_with fail
  refine hP.mono ?_
  rintro e w1 ⟨A, m, cap, rfl, hM, hb1⟩
  obtain rfl : m = 1 := hM.len.symm
  have b1 : Below w.heap.size w (w1.alloc (.cells #[.int .i64 0, .int .i64 0, .int .i64 0, .slice A 1 cap] 32)) := hb1.alloc hb1.size _
  have z1 : Blk (w1.alloc (.cells #[.int .i64 0, .int .i64 0, .int .i64 0, .slice A 1 cap] 32)) w1.heap.size 32 (prg 0 0 0 A 1 cap) := heap_alloc_new w1 _
  have hI := line_any litI (by decide +kernel) _ (HL.out.on b1)
  rw [lit_instr] at hI
  replace hI : Calls Tryd.prog 8 #[.string ⟨#[115, 101, 116, 32, 49, 32, 45, 53]⟩] (w1.alloc (.cells #[.int .i64 0, .int .i64 0, .int .i64 0, .slice A 1 cap] 32)) fun e w' => e = .returned (.tuple #[.agg #[.int .i64 2, .int .i64 1, .int .i64 0, .int .i64 0, .int .i64 (-5)], .int .i64 0]) ∧ Below (w1.alloc (.cells #[.int .i64 0, .int .i64 0, .int .i64 0, .slice A 1 cap] 32)).heap.size (w1.alloc (.cells #[.int .i64 0, .int .i64 0, .int .i64 0, .slice A 1 cap] 32)) w' := hI
  have HB := Lib.hid b1
  have hrm := hM.most
  have hrr := hM.room
  unfold maxLen at hrm
  clear hM hb1 b1 hP
  unfold prg
  go_wp2_with fail
  refine hI.mono ?_
  rintro e w2 ⟨rfl, hb2⟩
  have z2 := z1.below hb2 z1.lt
  have b3 : Below w2.heap.size w2 (w2.alloc (.cells #[.int .i64 2, .int .i64 1, .int .i64 0, .int .i64 0, .int .i64 (-5)] 25)) := (Below.refl _ w2).alloc (Nat.le_refl _) _
  have z3 := z2.below b3 z2.lt
  have y3 : (w2.alloc (.cells #[.int .i64 2, .int .i64 1, .int .i64 0, .int .i64 0, .int .i64 (-5)] 25)).cell? ⟨w1.heap.size, 3, none⟩ = some (.slice A 1 cap) := z3.cell 3
  obtain ⟨d0, d1, d2, d3, d4⟩ := At5.new w2 2 1 0 0 (-5)
  have HF := Lib.hid (HB.out.trans ((hb2.mono HB.out.size).trans (b3.mono (Nat.le_trans HB.out.size hb2.size))))
  clear hb2 b3 z1 z2 z3 hI
  go_wp2
  go_ret
  exact ⟨by simp, HF.out⟩
theorem take_all (s : ByteArray) (k : Nat) (h : s.size ≤ k) : txt ((oct s).take k) = s := by rw [List.take_of_length_le (by rw [oct_len]; exact h), txt_oct]
/-- Of a text no more than so many octets are looked at. -/
theorem cut13_any (s : ByteArray) (k : Nat) (hk : k ≤ 10000) (w : World) : Calls Tryd.prog 7 #[.string s, .int .i64 k] w fun e w' => e = .returned (.string (txt ((oct s).take k))) ∧ w = w' := by
  by_cases h : k < s.size
  · have t0 : decide ((k : Int) < (s.size : Int)) = true := decide_eq_true (by omega)
    have i0 : (0 : Int) ≤ (k : Int) := by omega
    have i1 : (k : Int) ≤ (s.size : Int) := by omega
    have e1 := extract_txt s 0 k
    rw [List.drop_zero] at e1
    rw [← e1]
    clear e1
    go_enter Tryd.func7, Tryd.ntmps7
    go_wp2
    go_ret
    exact ⟨rfl, rfl⟩
  · have t0 : decide ((k : Int) < (s.size : Int)) = false := decide_eq_false (by omega)
    rw [take_all s k (by omega)]
    go_enter Tryd.func7, Tryd.ntmps7
    go_wp2
    go_ret
    exact ⟨rfl, rfl⟩
end Go.Proofs.YtodklfjoeehinaaDoor
