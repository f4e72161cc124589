/- What the walk of 'OctetBack' needs: Near, the front of a slice, and that a number that has room is what its octets tell. Conditions: none. -/
import Derived.Test.YtoejoacffgnjnaaAlive
import Derived.DataShut
namespace Go.Proofs.Ytoejoacffgnjnaa
open Go.RowKit

theorem near_any (a : Int) : ∃ k : Nat, 1 ≤ k ∧ k ≤ 8 ∧ ∀ w, Calls Try.prog 17 #[.int .i64 a, .int .i64 1, .int .i64 8] w fun e w' => e = .returned (.int .i64 (k : Int)) ∧ w = w' := by
  by_cases h1 : a < 1
  · refine ⟨1, by omega, by omega, fun w => ?_⟩
    go_enter Try.func17, Try.ntmps17
    go_wp2
    go_ret
    exact ⟨rfl, rfl⟩
  · by_cases h8 : 8 < a
    · refine ⟨8, by omega, by omega, fun w => ?_⟩
      go_enter Try.func17, Try.ntmps17
      go_wp2
      go_ret
      exact ⟨rfl, rfl⟩
    · obtain ⟨k, rfl⟩ := Int.eq_ofNat_of_zero_le (show 0 ≤ a by omega)
      refine ⟨k, by omega, by omega, fun w => ?_⟩
      go_enter Try.func17, Try.ntmps17
      go_wp2
      go_ret
      exact ⟨rfl, rfl⟩

/-- A slice of octets that came in. -/
theorem oct_in {w : World} {a : Option Addr} {len cap : Nat} {zs : List Int} (h : (a = none ∧ len = 0 ∧ cap = 0 ∧ zs = []) ∨
    ∃ x, a = some x ∧ len ≤ cap ∧ cap ≤ maxLen ∧ zs.length = cap ∧ (∀ i, i < zs.length → w.cell? (x.add i) = some (.int .u8 (zs.getD i 0))) ∧ ∀ n ∈ zs, (Lit.int .u8 n).wf = true) :
    Oct w w.heap.size a len cap (zs.take len) := by
  rcases h with ⟨rfl, rfl, rfl, rfl⟩ | ⟨x, rfl, hl, hm, hz, hc, hw⟩
  · exact Oct.nil _ _
  · refine ⟨by rw [List.length_take]; omega, hl, hm, fun h => (by cases h), ?_, fun ad ha i hi => ?_⟩
    · intro n hn
      have := (Lit.wf_int_iff .u8 n).1 (hw n (List.mem_of_mem_take hn))
      exact ⟨this.1, this.2⟩
    · injection ha with ha
      subst ha
      have hci := hc i (by omega)
      refine ⟨by have := World.block_lt_of_cell? w _ hci; rwa [add_block] at this, ?_⟩
      rw [hci]
      simp [List.getD, hi]

/-- 'b[:k]', k not 0. -/
theorem cut_front (A : Option Addr) (n cap k : Nat) (h1 : 1 ≤ k) (hc : k ≤ cap) (w : World) :
    (Instr.slice 22 (.slice A n cap) none (some (.int .i64 (k : Int))) none).run Try.prog w = .ok (.slice A k cap) w := by
  rw [run_slice_h w 22 A n cap under22 .i64 _ (by omega) (by omega), size22]
  have e3 : ¬ cap = 0 := by omega
  simp only [Result.andThen, sliced, Int.toNat_natCast, if_neg e3, Nat.sub_zero, Nat.zero_mul]
  rcases A with _ | ad
  · rfl
  · simp [Addr.add]

theorem val_digs (x : Int) (k : Nat) (h8 : k ≤ 8) : val (digs x k) = x % 256 ^ k := by
  induction k with
  | zero => simp [digs, val]
  | succ k ih =>
    rw [digs, val_cons, digs_len, ih (by omega)]
    unfold dig
    rcases (by omega : k = 0 ∨ k = 1 ∨ k = 2 ∨ k = 3 ∨ k = 4 ∨ k = 5 ∨ k = 6 ∨ k = 7) with rfl | rfl | rfl | rfl | rfl | rfl | rfl | rfl <;>
      simp only [Nat.reduceMul, Nat.reduceAdd, Int.reducePow] <;> omega
theorem sg_digs (n : Int) (k : Nat) (h1 : 1 ≤ k) (h8 : k ≤ 8) : sg (digs (wrap64 (n * 2 ^ (64 - 8 * k)) / 2 ^ (64 - 8 * k)) k) = wrap64 (n * 2 ^ (64 - 8 * k)) / 2 ^ (64 - 8 * k) := by
  rw [← sg_code _ (digs_small _ k) k (digs_len _ k) h1 h8, val_digs _ k h8]
  rcases (by omega : k = 1 ∨ k = 2 ∨ k = 3 ∨ k = 4 ∨ k = 5 ∨ k = 6 ∨ k = 7 ∨ k = 8) with rfl | rfl | rfl | rfl | rfl | rfl | rfl | rfl <;>
    simp only [Nat.reduceMul, Nat.reduceSub, Int.reducePow] <;> unfold wrap64 <;> omega
end Go.Proofs.Ytoejoacffgnjnaa
