/- Two bags that are the same. Conditions: none. -/
import Derived.Test.YtcajoekmigkhjaaBase
import Derived.Deep.QuietTactic
namespace Go.Proofs.Ytcajoekmigkhjaa
open Go.RowKit Go.ChangeShapes Go.WideShapes

set_option maxRecDepth 100000 in
set_option maxHeartbeats 4000000 in
/-- Two lists that are the same. -/
theorem bags_same (A A' : Option Addr) (n cap cap' : Nat) (xs : List Bg) (w : World) (h : SeesB w A n cap xs) (h' : SeesB w A' n cap' xs) :
    Calls Try.prog 26 #[.slice A n cap, .slice A' n cap'] w fun e w' => e = .returned (.bool true) ∧ Below w.heap.size w w' := by
  have hmx := h.most
  have hrm := h.room
  unfold maxLen at hmx
  go_enter Try.func26, Try.ntmps26
  go_wp2
  go_loopw [5] (fun i wr => ∃ k : Nat, k ≤ n ∧ i = .int .i64 k ∧ Below w.heap.size w wr) (fun i _ => n - (intOf i).toNat)
  case atStart => exact ⟨0, Nat.zero_le _, rfl, Below.refl _ _⟩
  case round =>
    obtain ⟨k, hk, rfl, hb⟩ := hrel
    by_cases hlt : k < n
    · obtain ⟨g, o, rfl, hr⟩ := (h.on hb).get hlt
      obtain ⟨g', o', rfl, hr'⟩ := (h'.on hb).get hlt
      generalize xs.getD k noB = x at hr hr'
      have c0 : wr.cell? ⟨g, o + k * 3, none⟩ = some (.int .i64 x.c) := hr 0 _ rfl
      have c1 : wr.cell? ⟨g, o + k * 3 + 1, none⟩ = some (.int .i64 x.g) := hr 1 _ rfl
      have c2 : wr.cell? ⟨g, o + k * 3 + 2, none⟩ = some (.int .i64 x.n) := hr 2 _ rfl
      have d0 : wr.cell? ⟨g', o' + k * 3, none⟩ = some (.int .i64 x.c) := hr' 0 _ rfl
      have d1 : wr.cell? ⟨g', o' + k * 3 + 1, none⟩ = some (.int .i64 x.g) := hr' 1 _ rfl
      have d2 : wr.cell? ⟨g', o' + k * 3 + 2, none⟩ = some (.int .i64 x.n) := hr' 2 _ rfl
      have hne : ∀ W, (binOp BinOp.neq 48 (.agg #[.int .i64 x.c, .int .i64 x.g, .int .i64 x.n]) (.agg #[.int .i64 x.c, .int .i64 x.g, .int .i64 x.n])).run Try.prog W = .ok (.bool false) W := fun W => by
        have := neq48 x x W
        rw [decide_eq_true rfl] at this
        exact this
      have hkI : (k : Int) < (n : Int) := by omega
      have hk0 : (0 : Int) ≤ (k : Int) := by omega
      clear hr hr'
      go_wp2
      go_quiet (fail)
      go_wp2
      go_roundw
      case rel => exact ⟨k + 1, by omega, by go_num, below_dn hb _⟩
      case measure => simp [intOf]; omega
    · go_wp2
      go_ret
      exact ⟨rfl, hb⟩

end Go.Proofs.Ytcajoekmigkhjaa
