/- How the laws' arguments came in: lists of picks, octets, numbers. Conditions: none. -/
import Derived.Test.YtcgoaallfhompaaDoorAlive
import Derived.Deep.Slices
import Derived.DataShut
import Derived.ProofKit
import Derived.OpenShut
import Derived.ChangeOld
import Derived.Below
namespace Go.Proofs.YtcgoaallfhompaaDoor
open Go.RowKit Go.ChangeShapes Go.WideShapes
set_option linter.unusedSimpArgs false
set_option linter.unusedVariables false

open Go.Deep
theorem list1 {α : Type} {l : List α} (h : l.length = 1) : ∃ v0, l = [v0] := by
  match l, h with
  | [v0], _ => exact ⟨v0, rfl⟩
theorem slice_in {α : Type} [Inhabited α] {G : α → Prop} {f : α → List Value} {k : Nat} (hf : ∀ x, (f x).length = k) (hk : 0 < k) {t e : TypeId} (ht : Tryd.prog.underlying t = some (.slice e)) (hce : Tryd.prog.cellsOf e = k) {H : Type} {enc : TypeId × Value → H} {w : World} {base : Nat} {spare : Nat → Bool} {held : Bool} {fuel : Nat} {A : Option Addr} {n c : Nat} {x : DataW H × List MemPlace}
    (hin : ∀ {fuel : Nat} {cs : List Value} {x : DataW H × List MemPlace}, cs.length = k → DataW.trod enc Tryd.prog w base spare held fuel e cs = some x → ∃ o : α, cs = f o ∧ G o)
    (h : DataW.trod enc Tryd.prog w base spare held fuel t [.slice A n c] = some x) : ∃ l : List α, Sees w k A n c (l.flatMap f) ∧ ∀ x ∈ l, G x := by
  rcases open_slice ht h with ⟨hcs, _⟩ | ⟨a, len, cap, m, n', D, Pl, hcs, hb, hl, hm, hmm, hx, hi⟩
  · simp at hcs
    obtain ⟨rfl, rfl, rfl⟩ := hcs
    exact ⟨[], ⟨by simp, Nat.le_refl _, Nat.zero_le _, fun _ => rfl, fun ad h => (by cases h)⟩, fun x hx => (by cases hx)⟩
  · simp at hcs
    obtain ⟨rfl, rfl, rfl⟩ := hcs
    have hlm : n ≤ m := by rw [hmm]; split <;> omega
    have each : ∀ i, i < n → ∃ o : α, G o ∧ ∀ j v, (f o)[j]? = some v → w.cell? ((a.add (i * k)).add j) = some v := by
      intro i hin2
      obtain ⟨cs, hc, ht2⟩ := hi i (by omega)
      rw [hce] at hc
      obtain ⟨_, hcl, hat⟩ := World.cells?_some hc
      obtain ⟨o, rfl, ho⟩ := hin hcl ht2
      refine ⟨o, ho, fun j v hv => ?_⟩
      obtain ⟨hj, e⟩ := List.getElem?_eq_some_iff.1 hv
      have := hat j (by rw [hcl] at hj; exact hj)
      rw [this, hv]
    obtain ⟨O, hO⟩ := choose_lt each
    have hlen : ((List.range n).map O).length = n := by simp
    refine ⟨(List.range n).map O, ⟨by rw [flat_len hf, hlen], hl, hm, fun e => (by cases e), fun ad e h0 => ?_⟩, fun x hx => ?_⟩
    rotate_left 1
    · obtain ⟨i, hi3, rfl⟩ := List.mem_map.1 hx
      exact (hO i (List.mem_range.1 hi3)).1
    injection e with e
    subst e
    obtain ⟨b, off, spot⟩ := a
    have h1 : ∀ i, i < n → ∀ j v, (f (O i))[j]? = some v → w.cell? (((⟨b, off, spot⟩ : Addr).add (i * k)).add j) = some v := fun i hi4 => (hO i hi4).2
    obtain ⟨v0, hv0⟩ : ∃ v, (f (O 0))[0]? = some v := ⟨_, List.getElem?_eq_getElem (by rw [hf]; exact hk)⟩
    have hspot : spot = none := by
      have := h1 0 h0 0 _ hv0
      simpa [Addr.add] using World.cell?_spot this
    subst hspot
    refine ⟨b, off, rfl, ?_, fun j v hv => ?_⟩
    · have := World.block_lt_of_cell? w _ (h1 0 h0 0 _ hv0)
      simpa [Addr.add] using this
    · have hj : j < n * k := by
        have := (List.getElem?_eq_some_iff.1 hv).1
        rw [flat_len hf, hlen] at this
        exact this
      have hi2 : j / k < n := Nat.div_lt_of_lt_mul (by rw [Nat.mul_comm]; exact hj)
      have hr : j % k < k := Nat.mod_lt _ hk
      have ej : j / k * k + j % k = j := by rw [Nat.mul_comm]; exact Nat.div_add_mod j k
      have hg := flat_get hf ((List.range n).map O) (j / k) (O (j / k)) (by simp [hi2]) (j % k) hr
      rw [ej, hv] at hg
      have := h1 (j / k) hi2 (j % k) v hg.symm
      rw [Addr.add_mid, Addr.add_mid, Nat.add_assoc, ej] at this
      exact this
theorem is_slice {t e : TypeId} (hu : Tryd.prog.underlying t = some (.slice e)) {H : Type} {enc : TypeId × Value → H} {w : World} {base : Nat} {spare : Nat → Bool} {held : Bool} {fuel : Nat} {v : Value} {x : DataW H × List MemPlace} (ht : DataW.trod enc Tryd.prog w base spare held fuel t [v] = some x) : ∃ A n c, v = .slice A n c ∧ n ≤ c ∧ c ≤ maxLen ∧ (A = none → c = 0) := by
  rcases open_slice hu ht with ⟨hcs, _⟩ | ⟨a, len, cap, m, n', D, Pl, hcs, hb, hln, hm, hmm, hx, hi⟩
  · simp at hcs
    exact ⟨none, 0, 0, hcs, Nat.le_refl _, Nat.zero_le _, fun _ => rfl⟩
  · simp at hcs
    exact ⟨some a, len, cap, hcs, hln, hm, fun h => (by cases h)⟩

def Wide (n : Int) : Prop := -9223372036854775808 ≤ n ∧ n ≤ 9223372036854775807
theorem wide_of {n : Int} (h : (Lit.int .i64 n).wf = true) : Wide n := (Lit.wf_int_iff .i64 n).1 h
theorem cells3 : Tryd.prog.cellsOf 3 = 1 := by kernel_rfl
set_option maxRecDepth 100000 in
theorem int_in {H : Type} {enc : TypeId × Value → H} {w : World} {base : Nat} {spare : Nat → Bool} {held : Bool} {fuel : Nat} {cs : List Value} {x : DataW H × List MemPlace}
    (hl : cs.length = 1) (ht : DataW.trod enc Tryd.prog w base spare held fuel 3 cs = some x) : ∃ o : Int, cs = int1 o ∧ True := by
  obtain ⟨v0, rfl⟩ := list1 hl
  obtain ⟨z0, e0, _, _⟩ := DataW.trod_int Tryd.underlying3 ht
  simp at e0
  subst e0
  exact ⟨z0, rfl, trivial⟩
theorem nums_in {H : Type} {enc : TypeId × Value → H} {w : World} {base : Nat} {spare : Nat → Bool} {held : Bool} {fuel : Nat} {v : Value} {x : DataW H × List MemPlace} (ht : DataW.trod enc Tryd.prog w base spare held fuel 28 [v] = some x) : ∃ (A : Option Addr) (n c : Nat) (z : List Int), v = .slice A n c ∧ SeesI w A n c z := by
  obtain ⟨A, n, c, rfl, _⟩ := is_slice Tryd.underlying28 ht
  obtain ⟨z, hz, _⟩ := slice_in (G := fun _ => True) int1_len (by omega) Tryd.underlying28 cells3 (fun h1 h2 => int_in h1 h2) ht
  exact ⟨A, n, c, z, rfl, hz⟩
theorem picks_in {H : Type} {enc : TypeId × Value → H} {w : World} {r : Reach} {b0 base : Nat} {spare : Nat → Bool} {held : Bool} {v : Value} {d : DataW H} {p : List MemPlace}
    (hv : Value.okWide Tryd.prog w r b0 28 v) (h : DataW.Trod enc Tryd.prog w base spare held 28 v d p) : ∃ (A : Option Addr) (n c : Nat) (z : List Int), v = .slice A n c ∧ SeesI w A n c z := by
  obtain ⟨A, n, c, rfl⟩ := okWide_slice Tryd.underlying28 hv
  obtain ⟨fuel, hf⟩ := h
  exact nums_in hf
theorem oct_in {w : World} {a : Option Addr} {len cap : Nat} {zs : List Int} (h : (a = none ∧ len = 0 ∧ cap = 0 ∧ zs = []) ∨
    ∃ x, a = some x ∧ len ≤ cap ∧ cap ≤ maxLen ∧ zs.length = cap ∧ (∀ i, i < zs.length → w.cell? (x.add i) = some (.int .u8 (zs.getD i 0))) ∧ ∀ n ∈ zs, (Lit.int .u8 n).wf = true) :
    Oct w w.heap.size a len cap (zs.take len) := by
  rcases h with ⟨rfl, rfl, rfl, rfl⟩ | ⟨x, rfl, hl, hm, hz, hc, hw⟩
  · exact Oct.nil _ _
  · refine ⟨by rw [List.length_take]; omega, hl, hm, fun h => (by cases h), ?_, fun ad ha i hi => ?_⟩
    · intro n hn
      have := (Lit.wf_int_iff .u8 n).1 (hw n (List.mem_of_mem_take hn))
      exact ⟨this.1, this.2⟩
    · injection ha with ha
      subst ha
      have hci := hc i (by omega)
      refine ⟨by have := World.block_lt_of_cell? w _ hci; rwa [add_block] at this, ?_⟩
      rw [hci]
      simp [List.getD, hi]
/-- A slice of octets that came in. -/
theorem octs_in {H : Type} {enc : TypeId × Value → H} {w : World} {base : Nat} {held : Bool} {a : Option Addr} {len cap : Nat} {d : DataW H} {p : List MemPlace}
    (h : DataW.Trod enc Tryd.prog w base (fun _ => true) held 23 (.slice a len cap) d p) : ∃ xs, Oct w w.heap.size a len cap xs := by
  obtain ⟨fuel, hf⟩ := h
  rcases Go.ChangeShapes.open_ints Tryd.underlying23 Tryd.underlying5 (by kernel_rfl) hf with ⟨hcs, _⟩ | ⟨x, l, c, zs, hcs, _, hl, hm, hz, _, hcell, hwz⟩
  · simp [Value.cells] at hcs
    obtain ⟨rfl, rfl, rfl⟩ := hcs
    exact ⟨_, oct_in (.inl ⟨rfl, rfl, rfl, rfl⟩)⟩
  · simp [Value.cells] at hcs
    obtain ⟨rfl, rfl, rfl⟩ := hcs
    exact ⟨_, oct_in (zs := zs) (.inr ⟨_, rfl, hl, hm, by simpa using hz, hcell, hwz⟩)⟩


/-- What the rows list: three tables of the library, which no walk here reads. -/
def lst : List (String × DataW Unit) := [("math/bits.deBruijn32tab", Rows.laid_math_bits_deBruijn32tab), ("math/bits.deBruijn64tab", Rows.laid_math_bits_deBruijn64tab), ("internal/strconv.uint64pow10", Rows.laid_internal_strconv_uint64pow10)]
end Go.Proofs.YtcgoaallfhompaaDoor
