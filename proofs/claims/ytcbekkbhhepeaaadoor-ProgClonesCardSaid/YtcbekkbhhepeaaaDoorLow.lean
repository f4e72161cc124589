/- The contract of plain.Low: a number laid between 0 and below another. Conditions: none. -/
import Derived.Test.YtcbekkbhhepeaaaDoorAlive
namespace Go.Proofs.YtcbekkbhhepeaaaDoor
open Go.RowKit

def Lows (n : Nat) (w : World) (e : Ending) (w' : World) : Prop := ∃ k : Nat, k < n ∧ e = .returned (.int .i64 (k : Int)) ∧ w = w'
theorem low_any (x : Int) (n : Nat) (hn : 0 < n) (hn2 : n ≤ 2000) (w : World) : Calls Tryd.prog 17 #[.int .i64 x, .int .i64 (n : Int)] w (Lows n w) := by
  have h1 : x.tmod n < n := Int.tmod_lt_of_pos x (by omega)
  have h2 : -(n : Int) < x.tmod n := Int.lt_tmod_of_pos x (by omega)
  have H := Lib.hid (And.intro h1 h2)
  clear h1 h2
  have t0 : (n : Int) ≠ 0 := by omega
  go_enter Tryd.func17, Tryd.ntmps17
  go_wp2
  · rename_i h
    obtain ⟨h1, h2⟩ := H.out
    go_ret
    refine ⟨(x.tmod n + n).toNat, by omega, ?_, rfl⟩
    have : wrap64 (x.tmod n + n) = x.tmod n + n := by unfold wrap64; omega
    rw [Int.toNat_of_nonneg (by omega)]
    simp [this]
  · rename_i h
    have h1 := H.out.1
    go_ret
    exact ⟨(x.tmod n).toNat, by omega, by rw [Int.toNat_of_nonneg h]; rfl, rfl⟩
end Go.Proofs.YtcbekkbhhepeaaaDoor
