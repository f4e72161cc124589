/- Of answers the set of its numbers; Ints tells whether two lists are the same. Conditions: those that each row names. -/
import Derived.Test.YteonjolmnbbhfaaDoorList
import Derived.Deep.QuietTactic
import Derived.BigQuiet
namespace Go.Proofs.YteonjolmnbbhfaaDoor
open Go.RowKit

/-- The set of some numbers. -/
def ofN (xs : List Int) : Nat := xs.foldl withN 0
theorem fold_lt (xs : List Int) : ∀ s, s < 18446744073709551616 → xs.foldl withN s < 18446744073709551616 := by
  induction xs with
  | nil => intro s hs; exact hs
  | cons x xs ih => intro s hs; exact ih _ (with_lt s x hs)
theorem of_lt (xs : List Int) : ofN xs < 18446744073709551616 := fold_lt xs 0 (by decide)
theorem fold_bit (xs : List Int) (j : Nat) (hj : j < 64) : ∀ s, (xs.foldl withN s).testBit j = (s.testBit j || decide ((j : Int) ∈ xs)) := by
  induction xs with
  | nil => intro s; simp
  | cons x xs ih =>
    intro s
    rw [List.foldl_cons, ih]
    by_cases hx : 0 ≤ x ∧ x ≤ 63
    · obtain ⟨k, rfl⟩ := Int.eq_ofNat_of_zero_le hx.1
      rw [with_bit s k j (by omega)]
      by_cases e : k = j
      · subst e
        simp
      · have e2 : ¬ (j : Int) = (k : Int) := by omega
        simp [e, e2]
    · rw [with_out s x hx]
      have e2 : ¬ (j : Int) = x := by omega
      simp [e2]
theorem of_bit (xs : List Int) (j : Nat) (hj : j < 64) : (ofN xs).testBit j = decide ((j : Int) ∈ xs) := by
  unfold ofN
  rw [fold_bit xs j hj]
  simp
theorem of_take (xs : List Int) (k : Nat) (hk : k < xs.length) : ofN (xs.take (k + 1)) = withN (ofN (xs.take k)) (xs.getD k 0) := by
  unfold ofN
  rw [List.take_succ_eq_append_getElem hk, List.foldl_append]
  simp [List.getD, List.getElem?_eq_getElem hk]
theorem of_mem (s : Nat) (hs : s < 18446744073709551616) : ofN ((mem s).map fun (x : Nat) => (x : Int)) = s := by
  refine same_bits _ _ (of_lt _) hs fun j hj => ?_
  rw [of_bit _ j hj, Bool.eq_iff_iff]
  simp only [decide_eq_true_eq, List.mem_map]
  constructor
  · rintro ⟨x, hx, e⟩
    obtain rfl : x = j := by omega
    exact (mem_iff s x hj).1 hx
  · intro h
    exact ⟨j, (mem_iff s j hj).2 h, rfl⟩

/-- The slice value '.slice A n cap' holds the numbers xs, and lies below block B. -/
structure Row (w : World) (B : Nat) (A : Option Addr) (n cap : Nat) (xs : List Int) : Prop where
  len : xs.length = n
  room : n ≤ cap
  most : cap ≤ maxLen
  none_ : A = none → cap = 0
  cell : ∀ ad, A = some ad → ∀ i, i < n → ad.block < B ∧ w.cell? (ad.add i) = some (.int .i64 (xs.getD i 0))
theorem add_block (a : Addr) (n : Nat) : (a.add n).block = a.block := by unfold Addr.add; split <;> rfl
section
variable {w w' : World} {B n cap : Nat} {A : Option Addr} {xs : List Int}
theorem Row.nil (w : World) (B : Nat) : Row w B none 0 0 [] := ⟨rfl, Nat.le_refl _, Nat.zero_le _, fun _ => rfl, fun _ h => (by cases h)⟩
theorem Row.below (h : Row w B A n cap xs) (hb : Below B w w') : Row w' B A n cap xs :=
  ⟨h.len, h.room, h.most, h.none_, fun ad ha i hi => ⟨(h.cell ad ha i hi).1, (hb.cell (by rw [add_block]; exact (h.cell ad ha i hi).1)).trans (h.cell ad ha i hi).2⟩⟩
theorem Row.drewN (h : Row w B A n cap xs) (q : Nat) : Row (w.drewN q) B A n cap xs :=
  ⟨h.len, h.room, h.most, h.none_, h.cell⟩
theorem Below.drewN {b : Nat} (h : Below b w w') (q : Nat) : Below b w (w'.drewN q) := ⟨h.os, h.tape, h.output, h.size, h.block⟩
theorem Row.more {B' : Nat} (h : Row w B A n cap xs) (hB : B ≤ B') : Row w B' A n cap xs :=
  ⟨h.len, h.room, h.most, h.none_, fun ad ha i hi => ⟨Nat.lt_of_lt_of_le (h.cell ad ha i hi).1 hB, (h.cell ad ha i hi).2⟩⟩
theorem Row.zero (h : Row w B none n cap xs) : n = 0 ∧ cap = 0 ∧ xs = [] := by
  have hc := h.none_ rfl
  have hr := h.room
  have hl := h.len
  exact ⟨by omega, hc, List.eq_nil_of_length_eq_zero (by omega)⟩
theorem Row.front (h : Row w B A n cap xs) {k : Nat} (hk : k ≤ n) : Row w B A k cap (xs.take k) :=
  ⟨by rw [List.length_take, h.len]; omega, Nat.le_trans hk h.room, h.most, h.none_, fun ad ha i hi => ⟨(h.cell ad ha i (by omega)).1, by
    rw [(h.cell ad ha i (by omega)).2]
    simp [List.getD, hi]⟩⟩
/-- What the call owns reads so. -/
theorem Row.own {base : Nat} {v : Value} {ys : List Nat} (h : w.ownsRow base 3 1 v n (vals ys)) : ∃ A cap, v = .slice A n cap ∧ Row w w.heap.size A n cap (ys.map fun (x : Nat) => (x : Int)) := by
  have hl : ys.length = n := by have := h.1; simp [vals] at this; omega
  rcases h.2 with ⟨rfl, rfl⟩ | ⟨g, cap, cur, rfl, _, hg, hnc, hcm, hcs, ht⟩
  · refine ⟨none, 0, rfl, ?_⟩
    obtain rfl : ys = [] := List.eq_nil_of_length_eq_zero hl
    exact Row.nil _ _
  · refine ⟨_, cap, rfl, by simpa using hl, hnc, hcm, fun hh => (by cases hh), fun ad ha i hi => ?_⟩
    injection ha with ha
    subst ha
    refine ⟨(Array.getElem?_eq_some_iff.1 hg).1, h.cells (g := g) rfl i _ ?_⟩
    rw [vals, List.getElem?_map, List.getElem?_eq_getElem (by omega)]
    simp [List.getD, List.getElem?_eq_getElem (show i < ys.length by omega)]
end

theorem of_any (A : Option Addr) (n cap : Nat) (xs : List Int) (B : Nat) (w : World) (h : Row w B A n cap xs) :
    Calls Tryd.prog 7 #[.slice A n cap] w fun e w' => e = .returned (.int .u64 (ofN xs : Int)) ∧ w = w' := by
  have hl := h.len
  have hmx := h.most
  have hrm := h.room
  unfold maxLen at hmx
  have HL := Lib.hid hl
  clear hl
  go_enter Tryd.func7, Tryd.ntmps7
  go_wp2
  go_loop [3, 8] (fun x i => ∃ k : Nat, k ≤ n ∧ i = .int .i64 k ∧ x = .int .u64 (ofN (xs.take k) : Int)) (fun _ i => n - (intOf i).toNat)
  case atStart => exact ⟨0, Nat.zero_le _, rfl, rfl⟩
  case round =>
    obtain ⟨k, hk, rfl, rfl⟩ := hrel
    by_cases hlt : k < n
    · obtain ⟨ad, rfl⟩ : ∃ ad, A = some ad := by
        cases A with
        | none => have := h.zero.1; omega
        | some ad => exact ⟨ad, rfl⟩
      have hcy := (h.cell ad rfl k hlt).2
      have HV := Lib.hid (of_take xs k (by rw [HL.out]; exact hlt))
      have hso := of_lt (xs.take k)
      go_wp2_with (first
        | (go_at_call 12; refine (with_any _ _ hso _).mono ?_; rintro e w' ⟨rfl, rfl⟩))
      go_round
      case rel => exact ⟨k + 1, by omega, by go_num, by rw [HV.out]; simp⟩
      case measure => simp [intOf]; omega
    · go_wp2
      go_ret
      have ek : k = n := by omega
      subst ek
      refine ⟨?_, rfl⟩
      have et : xs.take k = xs := List.take_of_length_le (by rw [HL.out]; omega)
      simp [et]

/-- Two lists that are the same. -/
theorem ints_same (A A' : Option Addr) (n cap cap' : Nat) (xs : List Int) (B B' : Nat) (w : World) (h : Row w B A n cap xs) (h' : Row w B' A' n cap' xs) :
    Calls Tryd.prog 9 #[.slice A n cap, .slice A' n cap'] w fun e w' => e = .returned (.bool true) ∧ Below w.heap.size w w' := by
  have hmx := h.most
  have hrm := h.room
  unfold maxLen at hmx
  go_enter Tryd.func9, Tryd.ntmps9
  go_wp2
  go_loopw [5] (fun i wr => ∃ k : Nat, k ≤ n ∧ i = .int .i64 k ∧ Below w.heap.size w wr ∧ Row wr B A n cap xs ∧ Row wr B' A' n cap' xs) (fun i _ => n - (intOf i).toNat)
  case atStart => exact ⟨0, Nat.zero_le _, rfl, Below.refl _ _, h, h'⟩
  case round =>
    obtain ⟨k, hk, rfl, hb, r, r'⟩ := hrel
    by_cases hlt : k < n
    · obtain ⟨ad, rfl⟩ : ∃ ad, A = some ad := by
        cases A with
        | none => have := h.zero.1; omega
        | some ad => exact ⟨ad, rfl⟩
      obtain ⟨ad', rfl⟩ : ∃ ad, A' = some ad := by
        cases A' with
        | none => have := h'.zero.1; omega
        | some ad => exact ⟨ad, rfl⟩
      have hcy := (r.cell ad rfl k hlt).2
      have hcz := (r'.cell ad' rfl k hlt).2
      go_wp2
      go_quiet (fail)
      go_wp2
      go_roundw
      case rel => exact ⟨k + 1, by omega, by go_num, YteonjolmnbbhfaaDoor.Below.drewN hb _, r.drewN _, r'.drewN _⟩
      case measure => simp [intOf]; omega
    · go_wp2
      go_ret
      exact ⟨rfl, hb⟩
end Go.Proofs.YteonjolmnbbhfaaDoor
