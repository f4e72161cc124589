/- How the law's bag came in. Conditions: none. -/
import Derived.Test.YtmhpkpihojdchaaLawS
import Derived.Deep.Slices
import Derived.DataShut
import Derived.ProofKit
import Derived.OpenShut
import Derived.ChangeOld
import Derived.Below
namespace Go.Proofs.Ytmhpkpihojdchaa
open Go.RowKit Go.ChangeShapes Go.WideShapes Go.Deep

theorem cells2 : Try.prog.cellsOf 2 = 1 := by kernel_rfl
theorem cells3 : Try.prog.cellsOf 3 = 1 := by kernel_rfl
theorem cells28 : Try.prog.cellsOf 28 = 3 := by kernel_rfl
theorem list3 {α : Type} {l : List α} (h : l.length = 3) : ∃ v0 v1 v2, l = [v0, v1, v2] := by
  match l, h with
  | [v0, v1, v2], _ => exact ⟨v0, v1, v2, rfl⟩
set_option maxRecDepth 100000 in
theorem bg_in {H : Type} {enc : TypeId × Value → H} {w : World} {base : Nat} {spare : Nat → Bool} {held : Bool} {fuel : Nat} {cs : List Value} {x : DataW H × List MemPlace}
    (hl : cs.length = 3) (ht : DataW.trod enc Try.prog w base spare held fuel 28 cs = some x) : ∃ o : Bg, cs = o.cs ∧ Wide o.n := by
  obtain ⟨v0, v1, v2, rfl⟩ := list3 hl
  obtain ⟨ys, k, _, _, _, hyl, hf⟩ := DataW.trod_struct Try.underlying28 ht
  match ys, hyl with
  | [y0, y1, y2], _ =>
    have f0 : DataW.trod enc Try.prog w base spare held k 3 (([v0, v1, v2].drop 0).take (Try.prog.cellsOf 3)) = some y0 := hf 0 _ rfl
    rw [cells3] at f0
    have f1 : DataW.trod enc Try.prog w base spare held k 3 (([v0, v1, v2].drop 1).take (Try.prog.cellsOf 3)) = some y1 := hf 1 _ rfl
    rw [cells3] at f1
    have f2 : DataW.trod enc Try.prog w base spare held k 2 (([v0, v1, v2].drop 2).take (Try.prog.cellsOf 2)) = some y2 := hf 2 _ rfl
    rw [cells2] at f2
    obtain ⟨z0, e0, _, _⟩ := DataW.trod_int Try.underlying3 f0
    simp at e0
    obtain ⟨z1, e1, _, _⟩ := DataW.trod_int Try.underlying3 f1
    simp at e1
    obtain ⟨z2, e2, _, w2⟩ := DataW.trod_int Try.underlying2 f2
    simp at e2
    subst e0
    subst e1
    subst e2
    exact ⟨⟨z0, z1, z2⟩, rfl, wide_of w2⟩
theorem slice_in {α : Type} [Inhabited α] {G : α → Prop} {f : α → List Value} {k : Nat} (hf : ∀ x, (f x).length = k) (hk : 0 < k) {t e : TypeId} (ht : Try.prog.underlying t = some (.slice e)) (hce : Try.prog.cellsOf e = k) {H : Type} {enc : TypeId × Value → H} {w : World} {base : Nat} {spare : Nat → Bool} {held : Bool} {fuel : Nat} {A : Option Addr} {n c : Nat} {x : DataW H × List MemPlace}
    (hin : ∀ {fuel : Nat} {cs : List Value} {x : DataW H × List MemPlace}, cs.length = k → DataW.trod enc Try.prog w base spare held fuel e cs = some x → ∃ o : α, cs = f o ∧ G o)
    (h : DataW.trod enc Try.prog w base spare held fuel t [.slice A n c] = some x) : ∃ l : List α, Sees w k A n c (l.flatMap f) ∧ ∀ x ∈ l, G x := by
  rcases open_slice ht h with ⟨hcs, _⟩ | ⟨a, len, cap, m, n', D, Pl, hcs, hb, hl, hm, hmm, hx, hi⟩
  · simp at hcs
    obtain ⟨rfl, rfl, rfl⟩ := hcs
    exact ⟨[], ⟨by simp, Nat.le_refl _, Nat.zero_le _, fun _ => rfl, fun ad h => (by cases h)⟩, fun x hx => (by cases hx)⟩
  · simp at hcs
    obtain ⟨rfl, rfl, rfl⟩ := hcs
    have hlm : n ≤ m := by rw [hmm]; split <;> omega
    have each : ∀ i, i < n → ∃ o : α, G o ∧ ∀ j v, (f o)[j]? = some v → w.cell? ((a.add (i * k)).add j) = some v := by
      intro i hin2
      obtain ⟨cs, hc, ht2⟩ := hi i (by omega)
      rw [hce] at hc
      obtain ⟨_, hcl, hat⟩ := World.cells?_some hc
      obtain ⟨o, rfl, ho⟩ := hin hcl ht2
      refine ⟨o, ho, fun j v hv => ?_⟩
      obtain ⟨hj, e⟩ := List.getElem?_eq_some_iff.1 hv
      have := hat j (by rw [hcl] at hj; exact hj)
      rw [this, hv]
    obtain ⟨O, hO⟩ := choose_lt each
    have hlen : ((List.range n).map O).length = n := by simp
    refine ⟨(List.range n).map O, ⟨by rw [flat_len hf, hlen], hl, hm, fun e => (by cases e), fun ad e h0 => ?_⟩, fun x hx => ?_⟩
    rotate_left 1
    · obtain ⟨i, hi3, rfl⟩ := List.mem_map.1 hx
      exact (hO i (List.mem_range.1 hi3)).1
    injection e with e
    subst e
    obtain ⟨b, off, spot⟩ := a
    have h1 : ∀ i, i < n → ∀ j v, (f (O i))[j]? = some v → w.cell? (((⟨b, off, spot⟩ : Addr).add (i * k)).add j) = some v := fun i hi4 => (hO i hi4).2
    obtain ⟨v0, hv0⟩ : ∃ v, (f (O 0))[0]? = some v := ⟨_, List.getElem?_eq_getElem (by rw [hf]; exact hk)⟩
    have hspot : spot = none := by
      have := h1 0 h0 0 _ hv0
      simpa [Addr.add] using World.cell?_spot this
    subst hspot
    refine ⟨b, off, rfl, ?_, fun j v hv => ?_⟩
    · have := World.block_lt_of_cell? w _ (h1 0 h0 0 _ hv0)
      simpa [Addr.add] using this
    · have hj : j < n * k := by
        have := (List.getElem?_eq_some_iff.1 hv).1
        rw [flat_len hf, hlen] at this
        exact this
      have hi2 : j / k < n := Nat.div_lt_of_lt_mul (by rw [Nat.mul_comm]; exact hj)
      have hr : j % k < k := Nat.mod_lt _ hk
      have ej : j / k * k + j % k = j := by rw [Nat.mul_comm]; exact Nat.div_add_mod j k
      have hg := flat_get hf ((List.range n).map O) (j / k) (O (j / k)) (by simp [hi2]) (j % k) hr
      rw [ej, hv] at hg
      have := h1 (j / k) hi2 (j % k) v hg.symm
      rw [Addr.add_mid, Addr.add_mid, Nat.add_assoc, ej] at this
      exact this
theorem bag_in {H : Type} {enc : TypeId × Value → H} {w : World} {r : Reach} {b0 base : Nat} {spare : Nat → Bool} {held : Bool} {v : Value} {d : DataW H} {p : List MemPlace}
    (hv : Value.okWide Try.prog w r b0 26 v) (h : DataW.Trod enc Try.prog w base spare held 26 v d p) : ∃ (A : Option Addr) (n cap : Nat) (l : List Bg), v = .slice A n cap ∧ SeesB w A n cap l ∧ ∀ b ∈ l, Wide b.n := by
  obtain ⟨A, n, cap, rfl⟩ := okWide_slice Try.underlying26 hv
  obtain ⟨fuel, hf⟩ := h
  obtain ⟨l, hl, hw⟩ := slice_in (G := fun b => Wide b.n) Bg.len (by omega) Try.underlying26 cells28 (fun h1 h2 => bg_in h1 h2) hf
  exact ⟨A, n, cap, l, rfl, hl, hw⟩
end Go.Proofs.Ytmhpkpihojdchaa
