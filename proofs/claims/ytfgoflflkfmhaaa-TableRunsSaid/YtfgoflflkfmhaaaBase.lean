/- Texts under sums: which stand under one sum, where one stands; what holds of a table in memory. Conditions: none. -/
import Derived.Test.YtfgoflflkfmhaaaRows
import Derived.WalkKit
import Derived.ProofKit
import Derived.Below
import Derived.BigQuiet
import Derived.WalkSpells
import Derived.Maps.GroupsBeside
import Derived.Lib.Hide
namespace Go.Proofs.Ytfgoflflkfmhaaa
open Go.RowKit Go.ChangeShapes Go.WideShapes Go.Maps

theorem law27 : Keyed Try.prog 27 := int_keyed Try.underlying27
theorem info3 : (Try.prog.info? 3).map (fun i => (i.zero, i.size, i.bytes)) = some (some (.int .i64 0), 1, 8) := by kernel_rfl
theorem info52 : (Try.prog.info? 52).map (fun i => (i.zero, i.size, i.bytes)) = some (some (.agg #[.int .u64 0, .string ⟨#[]⟩]), 2, 24) := by kernel_rfl
theorem info29 : (Try.prog.info? 29).map (fun i => (i.zero, i.size, i.bytes)) = some (some (.agg #[.int .u64 0, .string ⟨#[]⟩, .bool false]), 3, 32) := by kernel_rfl
theorem zero57 (w : World) : (zeroValue 57).run Try.prog w = .ok (.slice none 0 0) w := by kernel_rfl
theorem cells3 : Try.prog.cellsOf 3 = 1 := by kernel_rfl
theorem hmf : ∀ (fn : Fn) (first cap : Array Value) (w : World), (Instr.makeFunc fn first cap).run Try.prog w = .ok (.func fn first cap) w := fun _ _ _ _ => rfl

theorem grown_below {w w' : World} (h : Below w.heap.size w w') (row : Option Nat) : w.grownBy w' row := ⟨h.os, h.tape, h.output, h.size, fun k hk _ => h.block k hk⟩

theorem eq_txt (x y : ByteArray) : (x.toList == y.toList) = decide (x = y) := by
  rw [ByteArray.toList_eq, ByteArray.toList_eq, Bool.eq_iff_iff, beq_iff_eq, decide_eq_true_iff]
  refine ⟨fun h => ByteArray.ext (Array.ext' h), fun h => by rw [h]⟩

/-! ### texts -/
/-- A text under a sum. -/
abbrev Txt := Int × ByteArray
/-- The numbers of those that stand under h, where the first has number i. -/
def numsFrom (h : Int) : Nat → List Txt → List Int
  | _, [] => []
  | i, x :: r => if x.1 = h then (i : Int) :: numsFrom h (i + 1) r else numsFrom h (i + 1) r
theorem numsFrom_snoc (h : Int) (x : Txt) : ∀ (i : Nat) (l : List Txt), numsFrom h i (l ++ [x]) = numsFrom h i l ++ (if x.1 = h then [((i + l.length : Nat) : Int)] else [])
  | i, [] => by by_cases e : x.1 = h <;> simp [numsFrom, e]
  | i, y :: r => by
    simp only [List.cons_append, numsFrom, numsFrom_snoc h x (i + 1) r, List.length_cons]
    have : i + 1 + r.length = i + (r.length + 1) := by omega
    rw [this]
    split <;> simp
theorem numsFrom_len (h : Int) : ∀ (i : Nat) (l : List Txt), (numsFrom h i l).length ≤ l.length
  | i, [] => by simp [numsFrom]
  | i, x :: r => by
    have := numsFrom_len h (i + 1) r
    simp only [numsFrom]
    split <;> simp <;> omega
def nums (h : Int) (l : List Txt) : List Int := numsFrom h 0 l
theorem nums_snoc (h : Int) (x : Txt) (l : List Txt) : nums h (l ++ [x]) = nums h l ++ (if x.1 = h then [(l.length : Int)] else []) := by simpa [nums] using numsFrom_snoc h x 0 l

/-- Is it that text under that sum? -/
def same (h : Int) (s : ByteArray) (x : Txt) : Bool := decide (x.1 = h) && decide (x.2 = s)
/-- Where it stands. -/
def spot (h : Int) (s : ByteArray) (l : List Txt) : Option Nat := l.findIdx? (same h s)
/-- Does one stand under that sum? -/
def isUnder (h : Int) (l : List Txt) : Bool := l.any (fun x => decide (x.1 = h))
/-- The text of number z. -/
def txtAt (l : List Txt) (z : Int) : ByteArray := (l.getD z.toNat (0, ByteArray.empty)).2

theorem nums_pos {h z : Int} : ∀ {i : Nat} {l : List Txt}, z ∈ numsFrom h i l → ∃ j : Nat, z = j ∧ i ≤ j ∧ j < i + l.length ∧ ∃ x, l[j - i]? = some x ∧ x.1 = h
  | i, [], hz => by simp [numsFrom] at hz
  | i, x :: r, hz => by
    simp only [numsFrom] at hz
    have step : z ∈ numsFrom h (i + 1) r → ∃ j : Nat, z = j ∧ i ≤ j ∧ j < i + (x :: r).length ∧ ∃ y, (x :: r)[j - i]? = some y ∧ y.1 = h := fun hz' => by
      obtain ⟨j, rfl, h1, h2, y, hy, hyh⟩ := nums_pos hz'
      refine ⟨j, rfl, by omega, by simp; omega, y, ?_, hyh⟩
      have e : j - i = (j - (i + 1)) + 1 := by omega
      rw [e, List.getElem?_cons_succ]
      exact hy
    split at hz
    · rename_i hx
      rcases List.mem_cons.1 hz with rfl | hz'
      · exact ⟨i, rfl, Nat.le_refl _, by simp, x, by simp, hx⟩
      · exact step hz'
    · exact step hz
theorem nums_lt {h z : Int} {l : List Txt} (hz : z ∈ nums h l) : ∃ j : Nat, z = j ∧ j < l.length ∧ ∃ x, l[j]? = some x ∧ x.1 = h := by
  obtain ⟨j, h1, _, h3, h4⟩ := nums_pos hz
  exact ⟨j, h1, by omega, by simpa using h4⟩

/-- The first one under h whose text is s is the place of s under h. -/
theorem find_from (h : Int) (s : ByteArray) (all : List Txt) : ∀ (i : Nat) (l : List Txt), all.drop i = l → (numsFrom h i l).find? (fun z => decide (txtAt all z = s)) = (l.findIdx? (same h s)).map (fun j => ((i + j : Nat) : Int))
  | i, [], _ => by simp [numsFrom]
  | i, x :: r, hd => by
    have hx : txtAt all (i : Int) = x.2 := by
      have : all[i]? = some x := by
        have := congrArg (fun l => l[0]?) hd
        simpa using this
      simp [txtAt, List.getD, this]
    have hr : all.drop (i + 1) = r := by rw [← List.tail_drop, hd]; rfl
    have ih := find_from h s all (i + 1) r hr
    have e1 : (fun j => ((i + 1 + j : Nat) : Int)) = (fun j => ((i + (j + 1) : Nat) : Int)) := by funext j; congr 1; omega
    rw [e1] at ih
    rw [List.findIdx?_cons]
    by_cases hh : x.1 = h
    · have e2 : numsFrom h i (x :: r) = (i : Int) :: numsFrom h (i + 1) r := by simp [numsFrom, hh]
      rw [e2, List.find?_cons, hx]
      by_cases hs : x.2 = s
      · simp [same, hh, hs]
      · simp only [same, hs, decide_false, ih, Bool.and_false, Bool.false_eq_true, if_false]
        rw [Option.map_map]
        rfl
    · have e2 : numsFrom h i (x :: r) = numsFrom h (i + 1) r := by simp [numsFrom, hh]
      rw [e2, ih]
      simp only [same, hh, decide_false, Bool.false_and, Bool.false_eq_true, if_false]
      rw [Option.map_map]
      rfl
theorem find_spot (h : Int) (s : ByteArray) (l : List Txt) : (nums h l).find? (fun z => decide (txtAt l z = s)) = (spot h s l).map (fun j : Nat => (j : Int)) := by
  have e := find_from h s l 0 l rfl
  simp only [Nat.zero_add] at e
  exact e
theorem spot_lt {h : Int} {s : ByteArray} {l : List Txt} {j : Nat} (hj : spot h s l = some j) : j < l.length := (List.findIdx?_eq_some_iff_getElem.1 hj).1
end Go.Proofs.Ytfgoflflkfmhaaa
