/- Rows of texts: a slice of texts in memory. Conditions: none. -/
import Derived.Test.YtngnnpmojaglnaaDoorBase
import Derived.OwnWalk
import Derived.Maps.AppendAt
import Derived.Deep.QuietTactic
namespace Go.Proofs.YtngnnpmojaglnaaDoor
open Go.RowKit

theorem info9 : (Tryd.prog.info? 9).map (fun i => (i.zero, i.size, i.bytes)) = some (some (.string ⟨#[]⟩), 1, 16) := by kernel_rfl
/-- Texts as the cells hold them. -/
def vals (xs : List (List UInt8)) : List Value := xs.map fun x => Value.string (txt x)
theorem vals_snoc (pre : List (List UInt8)) (x : List UInt8) : vals (pre ++ [x]) = vals pre ++ [Value.string (txt x)] := by simp [vals]
theorem vals_len (xs : List (List UInt8)) : (vals xs).length = xs.length := by simp [vals]

/-- The slice value '.slice A n cap' holds the texts xs, and lies below block B. -/
structure Row (w : World) (B : Nat) (A : Option Addr) (n cap : Nat) (xs : List (List UInt8)) : Prop where
  len : xs.length = n
  room : n ≤ cap
  most : cap ≤ maxLen
  none_ : A = none → cap = 0
  cell : ∀ ad, A = some ad → ∀ i, i < n → ad.block < B ∧ w.cell? (ad.add i) = some (.string (txt (xs.getD i [])))
theorem add_block (a : Addr) (n : Nat) : (a.add n).block = a.block := by unfold Addr.add; split <;> rfl
section
variable {w w' : World} {B n cap : Nat} {A : Option Addr} {xs : List (List UInt8)}
theorem Row.nil (w : World) (B : Nat) : Row w B none 0 0 [] := ⟨rfl, Nat.le_refl _, Nat.zero_le _, fun _ => rfl, fun _ h => (by cases h)⟩
theorem Row.below (h : Row w B A n cap xs) (hb : Below B w w') : Row w' B A n cap xs :=
  ⟨h.len, h.room, h.most, h.none_, fun ad ha i hi => ⟨(h.cell ad ha i hi).1, (hb.cell (by rw [add_block]; exact (h.cell ad ha i hi).1)).trans (h.cell ad ha i hi).2⟩⟩
theorem Row.drewN (h : Row w B A n cap xs) (q : Nat) : Row (w.drewN q) B A n cap xs := ⟨h.len, h.room, h.most, h.none_, h.cell⟩
theorem below_drewN {b : Nat} (h : Below b w w') (q : Nat) : Below b w (w'.drewN q) := ⟨h.os, h.tape, h.output, h.size, h.block⟩
theorem Row.more {B' : Nat} (h : Row w B A n cap xs) (hB : B ≤ B') : Row w B' A n cap xs :=
  ⟨h.len, h.room, h.most, h.none_, fun ad ha i hi => ⟨Nat.lt_of_lt_of_le (h.cell ad ha i hi).1 hB, (h.cell ad ha i hi).2⟩⟩
theorem Row.zero (h : Row w B none n cap xs) : n = 0 ∧ cap = 0 ∧ xs = [] := by
  have hc := h.none_ rfl
  have hr := h.room
  have hl := h.len
  exact ⟨by omega, hc, List.eq_nil_of_length_eq_zero (by omega)⟩
theorem Row.at_ (h : Row w B A n cap xs) (i : Nat) (hi : i < n) : ∃ ad, A = some ad ∧ ad.block < B ∧ w.cell? (ad.add i) = some (.string (txt (xs.getD i []))) := by
  cases A with
  | none => have := h.zero.1; omega
  | some ad => exact ⟨ad, rfl, h.cell ad rfl i hi⟩
/-- What the call owns reads so. -/
theorem Row.own {base : Nat} {v : Value} (h : w.ownsRow base 9 1 v n (vals xs)) : ∃ A cap, v = .slice A n cap ∧ Row w w.heap.size A n cap xs := by
  have hl : xs.length = n := by have := h.1; rw [vals_len] at this; omega
  rcases h.2 with ⟨rfl, rfl⟩ | ⟨g, cap, cur, rfl, _, hg, hnc, hcm, hcs, ht⟩
  · refine ⟨none, 0, rfl, ?_⟩
    obtain rfl : xs = [] := List.eq_nil_of_length_eq_zero hl
    exact Row.nil _ _
  · refine ⟨_, cap, rfl, by simpa using hl, hnc, hcm, fun hh => (by cases hh), fun ad ha i hi => ?_⟩
    injection ha with ha
    subst ha
    refine ⟨(Array.getElem?_eq_some_iff.1 hg).1, h.cells (g := g) rfl i _ ?_⟩
    rw [vals, List.getElem?_map, List.getElem?_eq_getElem (by omega)]
    simp [List.getD, List.getElem?_eq_getElem (show i < xs.length by omega)]
end

end Go.Proofs.YtngnnpmojaglnaaDoor
