/- How the laws' bag and counts came in. Conditions: none. -/
import Derived.Test.YtobkhefehkcopaaLawS
import Derived.Test.YtobkhefehkcopaaLawT
import Derived.SizedLaws
import Derived.Deep.Slices
import Derived.DataShut
import Derived.ProofKit
import Derived.OpenShut
import Derived.ChangeOld
import Derived.Below
namespace Go.Proofs.Ytobkhefehkcopaa
open Go.RowKit Go.ChangeShapes Go.WideShapes Go.Deep

theorem cells2 : Try.prog.cellsOf 2 = 1 := by kernel_rfl
theorem cells3 : Try.prog.cellsOf 3 = 1 := by kernel_rfl
theorem cells34 : Try.prog.cellsOf 34 = 3 := by kernel_rfl
theorem list1 {α : Type} {l : List α} (h : l.length = 1) : ∃ v0, l = [v0] := by
  match l, h with
  | [v0], _ => exact ⟨v0, rfl⟩
theorem list3 {α : Type} {l : List α} (h : l.length = 3) : ∃ v0 v1 v2, l = [v0, v1, v2] := by
  match l, h with
  | [v0, v1, v2], _ => exact ⟨v0, v1, v2, rfl⟩
set_option maxRecDepth 100000 in
theorem bg_in {H : Type} {enc : TypeId × Value → H} {w : World} {base : Nat} {spare : Nat → Bool} {held : Bool} {fuel : Nat} {cs : List Value} {x : DataW H × List MemPlace}
    (hl : cs.length = 3) (ht : DataW.trod enc Try.prog w base spare held fuel 34 cs = some x) : ∃ o : Bg, cs = o.cs := by
  obtain ⟨v0, v1, v2, rfl⟩ := list3 hl
  obtain ⟨ys, k, _, _, _, hyl, hf⟩ := DataW.trod_struct Try.underlying34 ht
  match ys, hyl with
  | [y0, y1, y2], _ =>
    have f0 : DataW.trod enc Try.prog w base spare held k 3 (([v0, v1, v2].drop 0).take (Try.prog.cellsOf 3)) = some y0 := hf 0 _ rfl
    rw [cells3] at f0
    have f1 : DataW.trod enc Try.prog w base spare held k 3 (([v0, v1, v2].drop 1).take (Try.prog.cellsOf 3)) = some y1 := hf 1 _ rfl
    rw [cells3] at f1
    have f2 : DataW.trod enc Try.prog w base spare held k 2 (([v0, v1, v2].drop 2).take (Try.prog.cellsOf 2)) = some y2 := hf 2 _ rfl
    rw [cells2] at f2
    obtain ⟨z0, e0, _, _⟩ := DataW.trod_int Try.underlying3 f0
    simp at e0
    obtain ⟨z1, e1, _, _⟩ := DataW.trod_int Try.underlying3 f1
    simp at e1
    obtain ⟨z2, e2, _, _⟩ := DataW.trod_int Try.underlying2 f2
    simp at e2
    subst e0
    subst e1
    subst e2
    exact ⟨⟨z0, z1, z2⟩, rfl⟩
set_option maxRecDepth 100000 in
theorem int_in {H : Type} {enc : TypeId × Value → H} {w : World} {base : Nat} {spare : Nat → Bool} {held : Bool} {fuel : Nat} {cs : List Value} {x : DataW H × List MemPlace}
    (hl : cs.length = 1) (ht : DataW.trod enc Try.prog w base spare held fuel 2 cs = some x) : ∃ o : Int, cs = int1 o := by
  obtain ⟨v0, rfl⟩ := list1 hl
  obtain ⟨z0, e0, _, _⟩ := DataW.trod_int Try.underlying2 ht
  simp at e0
  subst e0
  exact ⟨z0, rfl⟩
theorem slice_in {α : Type} [Inhabited α] {f : α → List Value} {k : Nat} (hf : ∀ x, (f x).length = k) (hk : 0 < k) {t e : TypeId} (ht : Try.prog.underlying t = some (.slice e)) (hce : Try.prog.cellsOf e = k) {H : Type} {enc : TypeId × Value → H} {w : World} {base : Nat} {spare : Nat → Bool} {held : Bool} {fuel : Nat} {A : Option Addr} {n c : Nat} {x : DataW H × List MemPlace}
    (hin : ∀ {fuel : Nat} {cs : List Value} {x : DataW H × List MemPlace}, cs.length = k → DataW.trod enc Try.prog w base spare held fuel e cs = some x → ∃ o : α, cs = f o)
    (h : DataW.trod enc Try.prog w base spare held fuel t [.slice A n c] = some x) : ∃ l : List α, Sees w k A n c (l.flatMap f) ∧ (n = 0 ∨ ∃ el sp, x.1 = .slice el sp ∧ el.length = n) := by
  rcases open_slice ht h with ⟨hcs, _⟩ | ⟨a, len, cap, m, n', D, Pl, hcs, hb, hl, hm, hmm, hx, hi⟩
  · simp at hcs
    obtain ⟨rfl, rfl, rfl⟩ := hcs
    exact ⟨[], ⟨by simp, Nat.le_refl _, Nat.zero_le _, fun _ => rfl, fun ad h => (by cases h)⟩, .inl rfl⟩
  · simp at hcs
    obtain ⟨rfl, rfl, rfl⟩ := hcs
    have hlm : n ≤ m := by rw [hmm]; split <;> omega
    have each : ∀ i, i < n → ∃ o : α, ∀ j v, (f o)[j]? = some v → w.cell? ((a.add (i * k)).add j) = some v := by
      intro i hin2
      obtain ⟨cs, hc, ht2⟩ := hi i (by omega)
      rw [hce] at hc
      obtain ⟨_, hcl, hat⟩ := World.cells?_some hc
      obtain ⟨o, rfl⟩ := hin hcl ht2
      refine ⟨o, fun j v hv => ?_⟩
      obtain ⟨hj, e⟩ := List.getElem?_eq_some_iff.1 hv
      have := hat j (by rw [hcl] at hj; exact hj)
      rw [this, hv]
    obtain ⟨O, hO⟩ := choose_lt each
    have hlen : ((List.range n).map O).length = n := by simp
    refine ⟨(List.range n).map O, ⟨by rw [flat_len hf, hlen], hl, hm, fun e => (by cases e), fun ad e h0 => ?_⟩, .inr ⟨_, _, congrArg Prod.fst hx, by simp⟩⟩
    injection e with e
    subst e
    obtain ⟨b, off, spot⟩ := a
    have h1 : ∀ i, i < n → ∀ j v, (f (O i))[j]? = some v → w.cell? (((⟨b, off, spot⟩ : Addr).add (i * k)).add j) = some v := hO
    obtain ⟨v0, hv0⟩ : ∃ v, (f (O 0))[0]? = some v := ⟨_, List.getElem?_eq_getElem (by rw [hf]; exact hk)⟩
    have hspot : spot = none := by
      have := h1 0 h0 0 _ hv0
      simpa [Addr.add] using World.cell?_spot this
    subst hspot
    refine ⟨b, off, rfl, ?_, fun j v hv => ?_⟩
    · have := World.block_lt_of_cell? w _ (h1 0 h0 0 _ hv0)
      simpa [Addr.add] using this
    · have hj : j < n * k := by
        have := (List.getElem?_eq_some_iff.1 hv).1
        rw [flat_len hf, hlen] at this
        exact this
      have hi2 : j / k < n := Nat.div_lt_of_lt_mul (by rw [Nat.mul_comm]; exact hj)
      have hr : j % k < k := Nat.mod_lt _ hk
      have ej : j / k * k + j % k = j := by rw [Nat.mul_comm]; exact Nat.div_add_mod j k
      have hg := flat_get hf ((List.range n).map O) (j / k) (O (j / k)) (by simp [hi2]) (j % k) hr
      rw [ej, hv] at hg
      have := h1 (j / k) hi2 (j % k) v hg.symm
      rw [Addr.add_mid, Addr.add_mid, Nat.add_assoc, ej] at this
      exact this
theorem bag_in {H : Type} {enc : TypeId × Value → H} {w : World} {r : Reach} {b0 base : Nat} {spare : Nat → Bool} {held : Bool} {v : Value} {d : DataW H} {p : List MemPlace}
    (hv : Value.okWide Try.prog w r b0 28 v) (h : DataW.Trod enc Try.prog w base spare held 28 v d p) : ∃ (A : Option Addr) (n cap : Nat) (l : List Bg), v = .slice A n cap ∧ SeesB w A n cap l ∧ (n = 0 ∨ ∃ el sp, d = .slice el sp ∧ el.length = n) := by
  obtain ⟨A, n, cap, rfl⟩ := okWide_slice Try.underlying28 hv
  obtain ⟨fuel, hf⟩ := h
  obtain ⟨l, hl, hs⟩ := slice_in Bg.len (by omega) Try.underlying28 cells34 (fun h1 h2 => bg_in h1 h2) hf
  exact ⟨A, n, cap, l, rfl, hl, hs⟩
theorem seen_in {H : Type} {enc : TypeId × Value → H} {w : World} {r : Reach} {b0 base : Nat} {spare : Nat → Bool} {held : Bool} {v : Value} {d : DataW H} {p : List MemPlace}
    (hv : Value.okWide Try.prog w r b0 22 v) (h : DataW.Trod enc Try.prog w base spare held 22 v d p) : ∃ (A : Option Addr) (n cap : Nat) (l : List Int), v = .slice A n cap ∧ SeesI w A n cap l := by
  obtain ⟨A, n, cap, rfl⟩ := okWide_slice Try.underlying22 hv
  obtain ⟨fuel, hf⟩ := h
  obtain ⟨l, hl, _⟩ := slice_in int1_len (by omega) Try.underlying22 cells2 (fun h1 h2 => int_in h1 h2) hf
  exact ⟨A, n, cap, l, rfl, hl⟩
theorem bytes34 : Try.prog.bytesOf 34 = 24 := by kernel_rfl
/-- A bag that came in has room for a copy. -/
theorem bag_small {H : Type} {ts : List TypeId} {ds : List (DataW H)} {d : DataW H} {j n : Nat} (h : (DataW.weightsEach Try.prog ts ds).all (· ≤ reachBytes) = true) (ht : ts[j]? = some 28) (hd : ds[j]? = some d)
    (hs : n = 0 ∨ ∃ el sp, d = .slice el sp ∧ el.length = n) : n * 24 ≤ 140737488355328 := by
  rcases hs with rfl | ⟨el, sp, rfl, rfl⟩
  · omega
  · have := sized_slice h ht hd Try.underlying28
    rw [bytes34] at this
    have hr := reachBytes_lt
    have h2 : el.length * 24 ≤ (el.length + sp.length) * 24 := Nat.mul_le_mul_right _ (Nat.le_add_right _ _)
    omega
end Go.Proofs.Ytobkhefehkcopaa
