/- How a word, words and cells came in. Conditions: none. -/
import Derived.Test.YtenobgelhkpjcaaBase
import Derived.Deep.Slices
import Derived.DataShut
import Derived.ProofKit
import Derived.OpenShut
import Derived.ChangeOld
import Derived.Below
namespace Go.Proofs.Ytenobgelhkpjcaa
open Go.RowKit Go.ChangeShapes Go.WideShapes Go.Deep

theorem cells35 : Try.prog.cellsOf 35 = 3 := by kernel_rfl
theorem cells36 : Try.prog.cellsOf 36 = 6 := by kernel_rfl
theorem cells38 : Try.prog.cellsOf 38 = 10 := by kernel_rfl
theorem cells2 : Try.prog.cellsOf 2 = 1 := by kernel_rfl
theorem cells3 : Try.prog.cellsOf 3 = 1 := by kernel_rfl
theorem list3 {α : Type} {l : List α} (h : l.length = 3) : ∃ a b c, l = [a, b, c] := by
  match l, h with
  | [a, b, c], _ => exact ⟨a, b, c, rfl⟩
theorem list10 {α : Type} {l : List α} (h : l.length = 10) : ∃ a b c d e f g i j k, l = [a, b, c, d, e, f, g, i, j, k] := by
  match l, h with
  | [a, b, c, d, e, f, g, i, j, k], _ => exact ⟨a, b, c, d, e, f, g, i, j, k, rfl⟩
set_option maxRecDepth 100000 in
theorem wd_in {H : Type} {enc : TypeId × Value → H} {w : World} {base : Nat} {spare : Nat → Bool} {held : Bool} {fuel : Nat} {cs : List Value} {x : DataW H × List MemPlace}
    (hl : cs.length = 3) (ht : DataW.trod enc Try.prog w base spare held fuel 35 cs = some x) : ∃ o : Wd, cs = o.cs := by
  obtain ⟨v0, v1, v2, rfl⟩ := list3 hl
  obtain ⟨ys, k, _, _, _, hyl, hf⟩ := DataW.trod_struct Try.underlying35 ht
  match ys, hyl with
  | [y0, y1, y2], _ =>
    have f0 : DataW.trod enc Try.prog w base spare held k 2 (([v0, v1, v2].drop 0).take (Try.prog.cellsOf 2)) = some y0 := hf 0 _ rfl
    have f1 : DataW.trod enc Try.prog w base spare held k 3 (([v0, v1, v2].drop 1).take (Try.prog.cellsOf 3)) = some y1 := hf 1 _ rfl
    have f2 : DataW.trod enc Try.prog w base spare held k 3 (([v0, v1, v2].drop 2).take (Try.prog.cellsOf 3)) = some y2 := hf 2 _ rfl
    rw [cells2] at f0
    rw [cells3] at f1 f2
    obtain ⟨z0, e0, _, _⟩ := DataW.trod_int Try.underlying2 f0
    obtain ⟨z1, e1, _, _⟩ := DataW.trod_int Try.underlying3 f1
    obtain ⟨z2, e2, _, _⟩ := DataW.trod_int Try.underlying3 f2
    simp at e0 e1 e2
    subst e0 e1 e2
    exact ⟨⟨z0, z1, z2⟩, rfl⟩
set_option maxRecDepth 100000 in
theorem two_in {H : Type} {enc : TypeId × Value → H} {w : World} {base : Nat} {spare : Nat → Bool} {held : Bool} {fuel : Nat} {cs : List Value} {x : DataW H × List MemPlace}
    (hl : cs.length = 6) (ht : DataW.trod enc Try.prog w base spare held fuel 36 cs = some x) : ∃ o p : Wd, cs = o.cs ++ p.cs := by
  obtain ⟨xs, m, _, _, _, hxl, hf⟩ := DataW.trod_array Try.underlying36 ht
  match xs, hxl with
  | [y0, y1], _ =>
    have f0 : DataW.trod enc Try.prog w base spare held m 35 ((cs.drop (0 * Try.prog.cellsOf 35)).take (Try.prog.cellsOf 35)) = some y0 := hf 0 (by omega)
    have f1 : DataW.trod enc Try.prog w base spare held m 35 ((cs.drop (1 * Try.prog.cellsOf 35)).take (Try.prog.cellsOf 35)) = some y1 := hf 1 (by omega)
    rw [cells35] at f0 f1
    obtain ⟨o, ho⟩ := wd_in (by simp [hl]) f0
    obtain ⟨p, hp⟩ := wd_in (by simp [hl]) f1
    refine ⟨o, p, ?_⟩
    rw [← ho, ← hp]
    have e1 : (cs.drop (1 * 3)).take 3 = cs.drop 3 := List.take_of_length_le (by simp [hl])
    rw [e1, Nat.zero_mul, List.drop_zero, List.take_append_drop]
set_option maxRecDepth 100000 in
theorem cel_in {H : Type} {enc : TypeId × Value → H} {w : World} {base : Nat} {spare : Nat → Bool} {held : Bool} {fuel : Nat} {cs : List Value} {x : DataW H × List MemPlace}
    (hl : cs.length = 10) (ht : DataW.trod enc Try.prog w base spare held fuel 38 cs = some x) : ∃ o : Cel, cs = o.cs := by
  obtain ⟨v0, v1, v2, v3, v4, v5, v6, v7, v8, v9, rfl⟩ := list10 hl
  obtain ⟨ys, k, _, _, _, hyl, hf⟩ := DataW.trod_struct Try.underlying38 ht
  match ys, hyl with
  | [y0, y1, y2, y3, y4], _ =>
    have f0 : DataW.trod enc Try.prog w base spare held k 3 (([v0, v1, v2, v3, v4, v5, v6, v7, v8, v9].drop 0).take (Try.prog.cellsOf 3)) = some y0 := hf 0 _ rfl
    have f1 : DataW.trod enc Try.prog w base spare held k 3 (([v0, v1, v2, v3, v4, v5, v6, v7, v8, v9].drop 1).take (Try.prog.cellsOf 3)) = some y1 := hf 1 _ rfl
    have f2 : DataW.trod enc Try.prog w base spare held k 3 (([v0, v1, v2, v3, v4, v5, v6, v7, v8, v9].drop 2).take (Try.prog.cellsOf 3)) = some y2 := hf 2 _ rfl
    have f3 : DataW.trod enc Try.prog w base spare held k 3 (([v0, v1, v2, v3, v4, v5, v6, v7, v8, v9].drop 3).take (Try.prog.cellsOf 3)) = some y3 := hf 3 _ rfl
    have f4 : DataW.trod enc Try.prog w base spare held k 36 (([v0, v1, v2, v3, v4, v5, v6, v7, v8, v9].drop 4).take (Try.prog.cellsOf 36)) = some y4 := hf 4 _ rfl
    rw [cells3] at f0 f1 f2 f3
    rw [cells36] at f4
    obtain ⟨z0, e0, _, _⟩ := DataW.trod_int Try.underlying3 f0
    obtain ⟨z1, e1, _, _⟩ := DataW.trod_int Try.underlying3 f1
    obtain ⟨z2, e2, _, _⟩ := DataW.trod_int Try.underlying3 f2
    obtain ⟨z3, e3, _, _⟩ := DataW.trod_int Try.underlying3 f3
    simp at e0 e1 e2 e3
    obtain ⟨o, p, hop⟩ := two_in rfl f4
    have hop' : [v4, v5, v6, v7, v8, v9] = o.cs ++ p.cs := hop
    subst e0 e1 e2 e3
    refine ⟨⟨z0, z1, z2, z3, o, p⟩, ?_⟩
    show _ :: _ :: _ :: _ :: [v4, v5, v6, v7, v8, v9] = _
    rw [hop']
    rfl
theorem slice_in {α : Type} [Inhabited α] {f : α → List Value} {k : Nat} (hf : ∀ x, (f x).length = k) (hk : 0 < k) {t e : TypeId} (ht : Try.prog.underlying t = some (.slice e)) (hce : Try.prog.cellsOf e = k) {H : Type} {enc : TypeId × Value → H} {w : World} {base : Nat} {spare : Nat → Bool} {held : Bool} {fuel : Nat} {A : Option Addr} {n c : Nat} {x : DataW H × List MemPlace}
    (hin : ∀ {fuel : Nat} {cs : List Value} {x : DataW H × List MemPlace}, cs.length = k → DataW.trod enc Try.prog w base spare held fuel e cs = some x → ∃ o : α, cs = f o)
    (h : DataW.trod enc Try.prog w base spare held fuel t [.slice A n c] = some x) : ∃ l : List α, Sees w k A n c (l.flatMap f) := by
  rcases open_slice ht h with ⟨hcs, _⟩ | ⟨a, len, cap, m, n', D, Pl, hcs, hb, hl, hm, hmm, hx, hi⟩
  · simp at hcs
    obtain ⟨rfl, rfl, rfl⟩ := hcs
    exact ⟨[], by simp, Nat.le_refl _, Nat.zero_le _, fun _ => rfl, fun ad h => (by cases h)⟩
  · simp at hcs
    obtain ⟨rfl, rfl, rfl⟩ := hcs
    have hlm : n ≤ m := by rw [hmm]; split <;> omega
    have each : ∀ i, i < n → ∃ o : α, ∀ j v, (f o)[j]? = some v → w.cell? ((a.add (i * k)).add j) = some v := by
      intro i hin2
      obtain ⟨cs, hc, ht2⟩ := hi i (by omega)
      rw [hce] at hc
      obtain ⟨_, hcl, hat⟩ := World.cells?_some hc
      obtain ⟨o, rfl⟩ := hin hcl ht2
      refine ⟨o, fun j v hv => ?_⟩
      obtain ⟨hj, e⟩ := List.getElem?_eq_some_iff.1 hv
      have := hat j (by rw [hcl] at hj; exact hj)
      rw [this, hv]
    obtain ⟨O, hO⟩ := choose_lt each
    have hlen : ((List.range n).map O).length = n := by simp
    refine ⟨(List.range n).map O, by rw [flat_len hf, hlen], hl, hm, fun e => (by cases e), fun ad e h0 => ?_⟩
    injection e with e
    subst e
    obtain ⟨b, off, spot⟩ := a
    have h1 : ∀ i, i < n → ∀ j v, (f (O i))[j]? = some v → w.cell? (((⟨b, off, spot⟩ : Addr).add (i * k)).add j) = some v := hO
    obtain ⟨v0, hv0⟩ : ∃ v, (f (O 0))[0]? = some v := ⟨_, List.getElem?_eq_getElem (by rw [hf]; exact hk)⟩
    have hspot : spot = none := by
      have := h1 0 h0 0 _ hv0
      simpa [Addr.add] using World.cell?_spot this
    subst hspot
    refine ⟨b, off, rfl, ?_, fun j v hv => ?_⟩
    · have := World.block_lt_of_cell? w _ (h1 0 h0 0 _ hv0)
      simpa [Addr.add] using this
    · have hj : j < n * k := by
        have := (List.getElem?_eq_some_iff.1 hv).1
        rw [flat_len hf, hlen] at this
        exact this
      have hi2 : j / k < n := Nat.div_lt_of_lt_mul (by rw [Nat.mul_comm]; exact hj)
      have hr : j % k < k := Nat.mod_lt _ hk
      have ej : j / k * k + j % k = j := by rw [Nat.mul_comm]; exact Nat.div_add_mod j k
      have hg := flat_get hf ((List.range n).map O) (j / k) (O (j / k)) (by simp [hi2]) (j % k) hr
      rw [ej, hv] at hg
      have := h1 (j / k) hi2 (j % k) v hg.symm
      rw [Addr.add_mid, Addr.add_mid, Nat.add_assoc, ej] at this
      exact this
theorem words_in {H : Type} {enc : TypeId × Value → H} {w : World} {r : Reach} {b0 base : Nat} {spare : Nat → Bool} {held : Bool} {v : Value} {d : DataW H} {p : List MemPlace}
    (hv : Value.okWide Try.prog w r b0 22 v) (h : DataW.Trod enc Try.prog w base spare held 22 v d p) : ∃ (A : Option Addr) (n c : Nat) (l : List Wd), v = .slice A n c ∧ Sees w 3 A n c (flatW l) := by
  obtain ⟨A, n, c, rfl⟩ := okWide_slice Try.underlying22 hv
  obtain ⟨fuel, hf⟩ := h
  obtain ⟨l, hl⟩ := slice_in Wd.len (by omega) Try.underlying22 cells35 (fun h1 h2 => wd_in h1 h2) hf
  exact ⟨A, n, c, l, rfl, hl⟩
theorem cels_in {H : Type} {enc : TypeId × Value → H} {w : World} {r : Reach} {b0 base : Nat} {spare : Nat → Bool} {held : Bool} {v : Value} {d : DataW H} {p : List MemPlace}
    (hv : Value.okWide Try.prog w r b0 23 v) (h : DataW.Trod enc Try.prog w base spare held 23 v d p) : ∃ (A : Option Addr) (n c : Nat) (l : List Cel), v = .slice A n c ∧ Sees w 10 A n c (flatC l) := by
  obtain ⟨A, n, c, rfl⟩ := okWide_slice Try.underlying23 hv
  obtain ⟨fuel, hf⟩ := h
  obtain ⟨l, hl⟩ := slice_in Cel.len (by omega) Try.underlying23 cells38 (fun h1 h2 => cel_in h1 h2) hf
  exact ⟨A, n, c, l, rfl, hl⟩
theorem word_in {H : Type} {enc : TypeId × Value → H} {w : World} {r : Reach} {b0 base : Nat} {spare : Nat → Bool} {held : Bool} {v : Value} {d : DataW H} {p : List MemPlace}
    (hv : Value.okWide Try.prog w r b0 35 v) (h : DataW.Trod enc Try.prog w base spare held 35 v d p) : ∃ x : Wd, v = .agg x.cs.toArray := by
  obtain ⟨cs, rfl, hsz⟩ := okWide_struct Try.underlying35 hv
  obtain ⟨fuel, hf⟩ := h
  obtain ⟨x, hx⟩ := wd_in (cs := cs.toList) (by simpa using hsz.trans cells35) hf
  exact ⟨x, by rw [← hx]⟩
end Go.Proofs.Ytenobgelhkpjcaa
