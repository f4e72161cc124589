/- How the laws' threads, configs, words, instructions and lists of them came in. Conditions: none. -/
import Derived.Test.YtfadfdfpocpelaaGreatDoorFew
import Derived.Deep.Slices
import Derived.DataShut
import Derived.ProofKit
import Derived.OpenShut
import Derived.ChangeOld
import Derived.Below
namespace Go.Proofs.YtfadfdfpocpelaaGreatDoor
open Go.RowKit Go.ChangeShapes Go.WideShapes Go.Deep

def Wide (n : Int) : Prop := -9223372036854775808 ≤ n ∧ n ≤ 9223372036854775807
theorem wide_of {n : Int} (h : (Lit.int .i64 n).wf = true) : Wide n := (Lit.wf_int_iff .i64 n).1 h
theorem cells2 : Tryz.prog.cellsOf 2 = 1 := by kernel_rfl
theorem cells3 : Tryz.prog.cellsOf 3 = 1 := by kernel_rfl
theorem cells26 : Tryz.prog.cellsOf 26 = 3 := by kernel_rfl
theorem cells27 : Tryz.prog.cellsOf 27 = 12 := by kernel_rfl
theorem cells28 : Tryz.prog.cellsOf 28 = 1 := by kernel_rfl
theorem cells30 : Tryz.prog.cellsOf 30 = 4 := by kernel_rfl
theorem cells31 : Tryz.prog.cellsOf 31 = 1 := by kernel_rfl
theorem cells33 : Tryz.prog.cellsOf 33 = 22 := by kernel_rfl
theorem cells106 : Tryz.prog.cellsOf 106 = 3 := by kernel_rfl
theorem list1 {α : Type} {l : List α} (h : l.length = 1) : ∃ v0, l = [v0] := by
  match l, h with
  | [v0], _ => exact ⟨v0, rfl⟩
theorem list3 {α : Type} {l : List α} (h : l.length = 3) : ∃ v0 v1 v2, l = [v0, v1, v2] := by
  match l, h with
  | [v0, v1, v2], _ => exact ⟨v0, v1, v2, rfl⟩
theorem list4 {α : Type} {l : List α} (h : l.length = 4) : ∃ v0 v1 v2 v3, l = [v0, v1, v2, v3] := by
  match l, h with
  | [v0, v1, v2, v3], _ => exact ⟨v0, v1, v2, v3, rfl⟩
theorem list5 {α : Type} {l : List α} (h : l.length = 5) : ∃ v0 v1 v2 v3 v4, l = [v0, v1, v2, v3, v4] := by
  match l, h with
  | [v0, v1, v2, v3, v4], _ => exact ⟨v0, v1, v2, v3, v4, rfl⟩
theorem list12 {α : Type} {l : List α} (h : l.length = 12) : ∃ v0 v1 v2 v3 v4 v5 v6 v7 v8 v9 v10 v11, l = [v0, v1, v2, v3, v4, v5, v6, v7, v8, v9, v10, v11] := by
  match l, h with
  | [v0, v1, v2, v3, v4, v5, v6, v7, v8, v9, v10, v11], _ => exact ⟨v0, v1, v2, v3, v4, v5, v6, v7, v8, v9, v10, v11, rfl⟩
theorem list22 {α : Type} {l : List α} (h : l.length = 22) : ∃ v0 v1 v2 v3 v4 v5 v6 v7 v8 v9 v10 v11 v12 v13 v14 v15 v16 v17 v18 v19 v20 v21, l = [v0, v1, v2, v3, v4, v5, v6, v7, v8, v9, v10, v11, v12, v13, v14, v15, v16, v17, v18, v19, v20, v21] := by
  match l, h with
  | [v0, v1, v2, v3, v4, v5, v6, v7, v8, v9, v10, v11, v12, v13, v14, v15, v16, v17, v18, v19, v20, v21], _ => exact ⟨v0, v1, v2, v3, v4, v5, v6, v7, v8, v9, v10, v11, v12, v13, v14, v15, v16, v17, v18, v19, v20, v21, rfl⟩
set_option maxRecDepth 100000 in
theorem bg_in {H : Type} {enc : TypeId × Value → H} {w : World} {base : Nat} {spare : Nat → Bool} {held : Bool} {fuel : Nat} {cs : List Value} {x : DataW H × List MemPlace}
    (hl : cs.length = 3) (ht : DataW.trod enc Tryz.prog w base spare held fuel 106 cs = some x) : ∃ o : Bg, cs = o.cs ∧ Wide o.n := by
  obtain ⟨v0, v1, v2, rfl⟩ := list3 hl
  obtain ⟨ys, k, _, _, _, hyl, hf⟩ := DataW.trod_struct Tryz.underlying106 ht
  match ys, hyl with
  | [y0, y1, y2], _ =>
    have f0 : DataW.trod enc Tryz.prog w base spare held k 3 (([v0, v1, v2].drop 0).take (Tryz.prog.cellsOf 3)) = some y0 := hf 0 _ rfl
    rw [cells3] at f0
    have f1 : DataW.trod enc Tryz.prog w base spare held k 3 (([v0, v1, v2].drop 1).take (Tryz.prog.cellsOf 3)) = some y1 := hf 1 _ rfl
    rw [cells3] at f1
    have f2 : DataW.trod enc Tryz.prog w base spare held k 2 (([v0, v1, v2].drop 2).take (Tryz.prog.cellsOf 2)) = some y2 := hf 2 _ rfl
    rw [cells2] at f2
    obtain ⟨z0, e0, _, _⟩ := DataW.trod_int Tryz.underlying3 f0
    simp at e0
    obtain ⟨z1, e1, _, _⟩ := DataW.trod_int Tryz.underlying3 f1
    simp at e1
    obtain ⟨z2, e2, _, w2⟩ := DataW.trod_int Tryz.underlying2 f2
    simp at e2
    subst e0
    subst e1
    subst e2
    exact ⟨⟨z0, z1, z2⟩, rfl, wide_of w2⟩
set_option maxRecDepth 100000 in
theorem int_in {H : Type} {enc : TypeId × Value → H} {w : World} {base : Nat} {spare : Nat → Bool} {held : Bool} {fuel : Nat} {cs : List Value} {x : DataW H × List MemPlace}
    (hl : cs.length = 1) (ht : DataW.trod enc Tryz.prog w base spare held fuel 2 cs = some x) : ∃ o : Int, cs = int1 o ∧ True := by
  obtain ⟨v0, rfl⟩ := list1 hl
  obtain ⟨z0, e0, _, _⟩ := DataW.trod_int Tryz.underlying2 ht
  simp at e0
  subst e0
  exact ⟨z0, rfl, trivial⟩
theorem slice_in {α : Type} [Inhabited α] {G : α → Prop} {f : α → List Value} {k : Nat} (hf : ∀ x, (f x).length = k) (hk : 0 < k) {t e : TypeId} (ht : Tryz.prog.underlying t = some (.slice e)) (hce : Tryz.prog.cellsOf e = k) {H : Type} {enc : TypeId × Value → H} {w : World} {base : Nat} {spare : Nat → Bool} {held : Bool} {fuel : Nat} {A : Option Addr} {n c : Nat} {x : DataW H × List MemPlace}
    (hin : ∀ {fuel : Nat} {cs : List Value} {x : DataW H × List MemPlace}, cs.length = k → DataW.trod enc Tryz.prog w base spare held fuel e cs = some x → ∃ o : α, cs = f o ∧ G o)
    (h : DataW.trod enc Tryz.prog w base spare held fuel t [.slice A n c] = some x) : ∃ l : List α, Sees w k A n c (l.flatMap f) ∧ ∀ x ∈ l, G x := by
  rcases open_slice ht h with ⟨hcs, _⟩ | ⟨a, len, cap, m, n', D, Pl, hcs, hb, hl, hm, hmm, hx, hi⟩
  · simp at hcs
    obtain ⟨rfl, rfl, rfl⟩ := hcs
    exact ⟨[], ⟨by simp, Nat.le_refl _, Nat.zero_le _, fun _ => rfl, fun ad h => (by cases h)⟩, fun x hx => (by cases hx)⟩
  · simp at hcs
    obtain ⟨rfl, rfl, rfl⟩ := hcs
    have hlm : n ≤ m := by rw [hmm]; split <;> omega
    have each : ∀ i, i < n → ∃ o : α, G o ∧ ∀ j v, (f o)[j]? = some v → w.cell? ((a.add (i * k)).add j) = some v := by
      intro i hin2
      obtain ⟨cs, hc, ht2⟩ := hi i (by omega)
      rw [hce] at hc
      obtain ⟨_, hcl, hat⟩ := World.cells?_some hc
      obtain ⟨o, rfl, ho⟩ := hin hcl ht2
      refine ⟨o, ho, fun j v hv => ?_⟩
      obtain ⟨hj, e⟩ := List.getElem?_eq_some_iff.1 hv
      have := hat j (by rw [hcl] at hj; exact hj)
      rw [this, hv]
    obtain ⟨O, hO⟩ := choose_lt each
    have hlen : ((List.range n).map O).length = n := by simp
    refine ⟨(List.range n).map O, ⟨by rw [flat_len hf, hlen], hl, hm, fun e => (by cases e), fun ad e h0 => ?_⟩, fun x hx => ?_⟩
    rotate_left 1
    · obtain ⟨i, hi3, rfl⟩ := List.mem_map.1 hx
      exact (hO i (List.mem_range.1 hi3)).1
    injection e with e
    subst e
    obtain ⟨b, off, spot⟩ := a
    have h1 : ∀ i, i < n → ∀ j v, (f (O i))[j]? = some v → w.cell? (((⟨b, off, spot⟩ : Addr).add (i * k)).add j) = some v := fun i hi4 => (hO i hi4).2
    obtain ⟨v0, hv0⟩ : ∃ v, (f (O 0))[0]? = some v := ⟨_, List.getElem?_eq_getElem (by rw [hf]; exact hk)⟩
    have hspot : spot = none := by
      have := h1 0 h0 0 _ hv0
      simpa [Addr.add] using World.cell?_spot this
    subst hspot
    refine ⟨b, off, rfl, ?_, fun j v hv => ?_⟩
    · have := World.block_lt_of_cell? w _ (h1 0 h0 0 _ hv0)
      simpa [Addr.add] using this
    · have hj : j < n * k := by
        have := (List.getElem?_eq_some_iff.1 hv).1
        rw [flat_len hf, hlen] at this
        exact this
      have hi2 : j / k < n := Nat.div_lt_of_lt_mul (by rw [Nat.mul_comm]; exact hj)
      have hr : j % k < k := Nat.mod_lt _ hk
      have ej : j / k * k + j % k = j := by rw [Nat.mul_comm]; exact Nat.div_add_mod j k
      have hg := flat_get hf ((List.range n).map O) (j / k) (O (j / k)) (by simp [hi2]) (j % k) hr
      rw [ej, hv] at hg
      have := h1 (j / k) hi2 (j % k) v hg.symm
      rw [Addr.add_mid, Addr.add_mid, Nat.add_assoc, ej] at this
      exact this
theorem is_slice {t e : TypeId} (hu : Tryz.prog.underlying t = some (.slice e)) {H : Type} {enc : TypeId × Value → H} {w : World} {base : Nat} {spare : Nat → Bool} {held : Bool} {fuel : Nat} {v : Value} {x : DataW H × List MemPlace} (ht : DataW.trod enc Tryz.prog w base spare held fuel t [v] = some x) : ∃ A n c, v = .slice A n c ∧ n ≤ c ∧ c ≤ maxLen ∧ (A = none → c = 0) := by
  rcases open_slice hu ht with ⟨hcs, _⟩ | ⟨a, len, cap, m, n', D, Pl, hcs, hb, hln, hm, hmm, hx, hi⟩
  · simp at hcs
    exact ⟨none, 0, 0, hcs, Nat.le_refl _, Nat.zero_le _, fun _ => rfl⟩
  · simp at hcs
    exact ⟨some a, len, cap, hcs, hln, hm, fun h => (by cases h)⟩
theorem nums_in {H : Type} {enc : TypeId × Value → H} {w : World} {base : Nat} {spare : Nat → Bool} {held : Bool} {fuel : Nat} {v : Value} {x : DataW H × List MemPlace} (ht : DataW.trod enc Tryz.prog w base spare held fuel 28 [v] = some x) : ∃ (q : Sl) (z : List Int), v = q.v ∧ SeesI w q.A q.n q.cap z := by
  obtain ⟨A, n, c, rfl, _⟩ := is_slice Tryz.underlying28 ht
  obtain ⟨z, hz, _⟩ := slice_in (G := fun _ => True) int1_len (by omega) Tryz.underlying28 cells2 (fun h1 h2 => int_in h1 h2) ht
  exact ⟨⟨A, n, c⟩, z, rfl, hz⟩
theorem bags_in {H : Type} {enc : TypeId × Value → H} {w : World} {base : Nat} {spare : Nat → Bool} {held : Bool} {fuel : Nat} {v : Value} {x : DataW H × List MemPlace} (ht : DataW.trod enc Tryz.prog w base spare held fuel 31 [v] = some x) : ∃ (q : Sl) (l : List Bg), v = q.v ∧ SeesB w q.A q.n q.cap l ∧ ∀ b ∈ l, Wide b.n := by
  obtain ⟨A, n, c, rfl, _⟩ := is_slice Tryz.underlying31 ht
  obtain ⟨l, hl, hw⟩ := slice_in (G := fun b => Wide b.n) Bg.len (by omega) Tryz.underlying31 cells106 (fun h1 h2 => bg_in h1 h2) ht
  exact ⟨⟨A, n, c⟩, l, rfl, hl, hw⟩
theorem one_in {t : TypeId} (hu : Tryz.prog.underlying t = some (.int .i64)) {H : Type} {enc : TypeId × Value → H} {w : World} {base : Nat} {spare : Nat → Bool} {held : Bool} {fuel : Nat} {v : Value} {x : DataW H × List MemPlace} (ht : DataW.trod enc Tryz.prog w base spare held fuel t [v] = some x) : ∃ z, v = .int .i64 z ∧ Wide z := by
  obtain ⟨z, e, _, hw⟩ := DataW.trod_int hu ht
  simp at e
  exact ⟨z, e, wide_of hw⟩
set_option maxRecDepth 100000 in
theorem w3_in {H : Type} {enc : TypeId × Value → H} {w : World} {base : Nat} {spare : Nat → Bool} {held : Bool} {fuel : Nat} {v0 v1 v2 : Value} {x : DataW H × List MemPlace} (ht : DataW.trod enc Tryz.prog w base spare held fuel 26 [v0, v1, v2] = some x) : ∃ a b c : Int, v0 = .int .i64 a ∧ v1 = .int .i64 b ∧ v2 = .int .i64 c := by
  obtain ⟨ys, k, _, _, _, hyl, hat⟩ := DataW.trod_struct Tryz.underlying26 ht
  match ys, hyl with
  | [y0, y1, y2], _ =>
    have g0 : DataW.trod enc Tryz.prog w base spare held k 2 (([v0, v1, v2].drop 0).take (Tryz.prog.cellsOf 2)) = some y0 := hat 0 _ rfl
    rw [cells2] at g0
    have f0 : DataW.trod enc Tryz.prog w base spare held k 2 [v0] = some y0 := g0
    have g1 : DataW.trod enc Tryz.prog w base spare held k 3 (([v0, v1, v2].drop 1).take (Tryz.prog.cellsOf 3)) = some y1 := hat 1 _ rfl
    rw [cells3] at g1
    have f1 : DataW.trod enc Tryz.prog w base spare held k 3 [v1] = some y1 := g1
    have g2 : DataW.trod enc Tryz.prog w base spare held k 3 (([v0, v1, v2].drop 2).take (Tryz.prog.cellsOf 3)) = some y2 := hat 2 _ rfl
    rw [cells3] at g2
    have f2 : DataW.trod enc Tryz.prog w base spare held k 3 [v2] = some y2 := g2
    obtain ⟨a, ea, _⟩ := one_in Tryz.underlying2 f0
    obtain ⟨b, eb, _⟩ := one_in Tryz.underlying3 f1
    obtain ⟨c, ec, _⟩ := one_in Tryz.underlying3 f2
    exact ⟨a, b, c, ea, eb, ec⟩
set_option maxRecDepth 100000 in
theorem rg_in {H : Type} {enc : TypeId × Value → H} {w : World} {base : Nat} {spare : Nat → Bool} {held : Bool} {fuel : Nat} {v0 v1 v2 v3 v4 v5 v6 v7 v8 v9 v10 v11 : Value} {x : DataW H × List MemPlace} (ht : DataW.trod enc Tryz.prog w base spare held fuel 27 [v0, v1, v2, v3, v4, v5, v6, v7, v8, v9, v10, v11] = some x) : ∃ a0 a1 a2 a3 a4 a5 a6 a7 a8 a9 a10 a11 : Int, [v0, v1, v2, v3, v4, v5, v6, v7, v8, v9, v10, v11] = [Value.int .i64 a0, Value.int .i64 a1, Value.int .i64 a2, Value.int .i64 a3, Value.int .i64 a4, Value.int .i64 a5, Value.int .i64 a6, Value.int .i64 a7, Value.int .i64 a8, Value.int .i64 a9, Value.int .i64 a10, Value.int .i64 a11] := by
  obtain ⟨xs, m, _, _, _, hxl, hall⟩ := DataW.trod_array Tryz.underlying27 ht
  rw [cells26] at hall
  match xs, hxl with
  | [y0, y1, y2, y3], _ =>
    have f0 : DataW.trod enc Tryz.prog w base spare held m 26 [v0, v1, v2] = some y0 := hall 0 (by omega)
    obtain ⟨a0, a1, a2, rfl, rfl, rfl⟩ := w3_in f0
    have f1 : DataW.trod enc Tryz.prog w base spare held m 26 [v3, v4, v5] = some y1 := hall 1 (by omega)
    obtain ⟨a3, a4, a5, rfl, rfl, rfl⟩ := w3_in f1
    have f2 : DataW.trod enc Tryz.prog w base spare held m 26 [v6, v7, v8] = some y2 := hall 2 (by omega)
    obtain ⟨a6, a7, a8, rfl, rfl, rfl⟩ := w3_in f2
    have f3 : DataW.trod enc Tryz.prog w base spare held m 26 [v9, v10, v11] = some y3 := hall 3 (by omega)
    obtain ⟨a9, a10, a11, rfl, rfl, rfl⟩ := w3_in f3
    exact ⟨a0, a1, a2, a3, a4, a5, a6, a7, a8, a9, a10, a11, rfl⟩
set_option maxRecDepth 100000 in
theorem mi_in {H : Type} {enc : TypeId × Value → H} {w : World} {base : Nat} {spare : Nat → Bool} {held : Bool} {fuel : Nat} {v0 v1 v2 v3 : Value} {x : DataW H × List MemPlace} (ht : DataW.trod enc Tryz.prog w base spare held fuel 30 [v0, v1, v2, v3] = some x) : ∃ (m : Mi) (z : List Int), [v0, v1, v2, v3] = m.cs ∧ SeesI w m.se.A m.se.n m.se.cap z ∧ Wide m.n := by
  obtain ⟨ys, k, _, _, _, hyl, hat⟩ := DataW.trod_struct Tryz.underlying30 ht
  match ys, hyl with
  | [y0, y1, y2, y3], _ =>
    have g0 : DataW.trod enc Tryz.prog w base spare held k 3 (([v0, v1, v2, v3].drop 0).take (Tryz.prog.cellsOf 3)) = some y0 := hat 0 _ rfl
    rw [cells3] at g0
    have f0 : DataW.trod enc Tryz.prog w base spare held k 3 [v0] = some y0 := g0
    have g1 : DataW.trod enc Tryz.prog w base spare held k 3 (([v0, v1, v2, v3].drop 1).take (Tryz.prog.cellsOf 3)) = some y1 := hat 1 _ rfl
    rw [cells3] at g1
    have f1 : DataW.trod enc Tryz.prog w base spare held k 3 [v1] = some y1 := g1
    have g2 : DataW.trod enc Tryz.prog w base spare held k 2 (([v0, v1, v2, v3].drop 2).take (Tryz.prog.cellsOf 2)) = some y2 := hat 2 _ rfl
    rw [cells2] at g2
    have f2 : DataW.trod enc Tryz.prog w base spare held k 2 [v2] = some y2 := g2
    have g3 : DataW.trod enc Tryz.prog w base spare held k 28 (([v0, v1, v2, v3].drop 3).take (Tryz.prog.cellsOf 28)) = some y3 := hat 3 _ rfl
    rw [cells28] at g3
    have f3 : DataW.trod enc Tryz.prog w base spare held k 28 [v3] = some y3 := g3
    obtain ⟨k, rfl, _⟩ := one_in Tryz.underlying3 f0
    obtain ⟨i, rfl, _⟩ := one_in Tryz.underlying3 f1
    obtain ⟨n, rfl, hn⟩ := one_in Tryz.underlying2 f2
    obtain ⟨q, z, rfl, hz⟩ := nums_in f3
    exact ⟨⟨k, i, n, q⟩, z, rfl, hz, hn⟩
set_option maxRecDepth 100000 in
theorem th_in {H : Type} {enc : TypeId × Value → H} {w : World} {base : Nat} {spare : Nat → Bool} {held : Bool} {fuel : Nat} {v0 v1 v2 v3 v4 v5 v6 v7 v8 v9 v10 v11 v12 v13 v14 v15 v16 v17 v18 v19 v20 v21 : Value} {x : DataW H × List MemPlace} (ht : DataW.trod enc Tryz.prog w base spare held fuel 33 [v0, v1, v2, v3, v4, v5, v6, v7, v8, v9, v10, v11, v12, v13, v14, v15, v16, v17, v18, v19, v20, v21] = some x) : ∃ (y : Th) (z s : List Int) (l : List Bg), [v0, v1, v2, v3, v4, v5, v6, v7, v8, v9, v10, v11, v12, v13, v14, v15, v16, v17, v18, v19, v20, v21] = y.cs ∧ Reads w y z l s ∧ (∀ b ∈ l, Wide b.n) ∧ Wide y.n := by
  obtain ⟨ys, k, _, _, _, hyl, hat⟩ := DataW.trod_struct Tryz.underlying33 ht
  match ys, hyl with
  | [y0, y1, y2, y3, y4, y5, y6, y7], _ =>
    have g0 : DataW.trod enc Tryz.prog w base spare held k 3 (([v0, v1, v2, v3, v4, v5, v6, v7, v8, v9, v10, v11, v12, v13, v14, v15, v16, v17, v18, v19, v20, v21].drop 0).take (Tryz.prog.cellsOf 3)) = some y0 := hat 0 _ rfl
    rw [cells3] at g0
    have f0 : DataW.trod enc Tryz.prog w base spare held k 3 [v0] = some y0 := g0
    have g1 : DataW.trod enc Tryz.prog w base spare held k 3 (([v0, v1, v2, v3, v4, v5, v6, v7, v8, v9, v10, v11, v12, v13, v14, v15, v16, v17, v18, v19, v20, v21].drop 1).take (Tryz.prog.cellsOf 3)) = some y1 := hat 1 _ rfl
    rw [cells3] at g1
    have f1 : DataW.trod enc Tryz.prog w base spare held k 3 [v1] = some y1 := g1
    have g2 : DataW.trod enc Tryz.prog w base spare held k 3 (([v0, v1, v2, v3, v4, v5, v6, v7, v8, v9, v10, v11, v12, v13, v14, v15, v16, v17, v18, v19, v20, v21].drop 2).take (Tryz.prog.cellsOf 3)) = some y2 := hat 2 _ rfl
    rw [cells3] at g2
    have f2 : DataW.trod enc Tryz.prog w base spare held k 3 [v2] = some y2 := g2
    have g3 : DataW.trod enc Tryz.prog w base spare held k 27 (([v0, v1, v2, v3, v4, v5, v6, v7, v8, v9, v10, v11, v12, v13, v14, v15, v16, v17, v18, v19, v20, v21].drop 3).take (Tryz.prog.cellsOf 27)) = some y3 := hat 3 _ rfl
    rw [cells27] at g3
    have f3 : DataW.trod enc Tryz.prog w base spare held k 27 [v3, v4, v5, v6, v7, v8, v9, v10, v11, v12, v13, v14] = some y3 := g3
    have g4 : DataW.trod enc Tryz.prog w base spare held k 30 (([v0, v1, v2, v3, v4, v5, v6, v7, v8, v9, v10, v11, v12, v13, v14, v15, v16, v17, v18, v19, v20, v21].drop 15).take (Tryz.prog.cellsOf 30)) = some y4 := hat 4 _ rfl
    rw [cells30] at g4
    have f4 : DataW.trod enc Tryz.prog w base spare held k 30 [v15, v16, v17, v18] = some y4 := g4
    have g5 : DataW.trod enc Tryz.prog w base spare held k 31 (([v0, v1, v2, v3, v4, v5, v6, v7, v8, v9, v10, v11, v12, v13, v14, v15, v16, v17, v18, v19, v20, v21].drop 19).take (Tryz.prog.cellsOf 31)) = some y5 := hat 5 _ rfl
    rw [cells31] at g5
    have f5 : DataW.trod enc Tryz.prog w base spare held k 31 [v19] = some y5 := g5
    have g6 : DataW.trod enc Tryz.prog w base spare held k 28 (([v0, v1, v2, v3, v4, v5, v6, v7, v8, v9, v10, v11, v12, v13, v14, v15, v16, v17, v18, v19, v20, v21].drop 20).take (Tryz.prog.cellsOf 28)) = some y6 := hat 6 _ rfl
    rw [cells28] at g6
    have f6 : DataW.trod enc Tryz.prog w base spare held k 28 [v20] = some y6 := g6
    have g7 : DataW.trod enc Tryz.prog w base spare held k 3 (([v0, v1, v2, v3, v4, v5, v6, v7, v8, v9, v10, v11, v12, v13, v14, v15, v16, v17, v18, v19, v20, v21].drop 21).take (Tryz.prog.cellsOf 3)) = some y7 := hat 7 _ rfl
    rw [cells3] at g7
    have f7 : DataW.trod enc Tryz.prog w base spare held k 3 [v21] = some y7 := g7
    obtain ⟨pc, rfl, _⟩ := one_in Tryz.underlying3 f0
    obtain ⟨fu, rfl, _⟩ := one_in Tryz.underlying3 f1
    obtain ⟨st, rfl, _⟩ := one_in Tryz.underlying3 f2
    obtain ⟨a0, a1, a2, a3, a4, a5, a6, a7, a8, a9, a10, a11, eR⟩ := rg_in f3
    simp only [List.cons.injEq, and_true] at eR
    obtain ⟨rfl, rfl, rfl, rfl, rfl, rfl, rfl, rfl, rfl, rfl, rfl, rfl⟩ := eR
    obtain ⟨m, z, eM, hz, hn⟩ := mi_in f4
    simp only [Mi.cs, List.cons.injEq, and_true] at eM
    obtain ⟨rfl, rfl, rfl, rfl⟩ := eM
    obtain ⟨q, l, rfl, hl, hw⟩ := bags_in f5
    obtain ⟨q', s, rfl, hs⟩ := nums_in f6
    obtain ⟨old, rfl, _⟩ := one_in Tryz.underlying3 f7
    exact ⟨⟨pc, fu, st, a0, a1, a2, a3, a4, a5, a6, a7, a8, a9, a10, a11, m.k, m.i, m.n, m.se, q, q', old⟩, z, s, l, rfl, ⟨hz, hl, hs⟩, hw, hn⟩
set_option maxRecDepth 100000 in
theorem thread_in {H : Type} {enc : TypeId × Value → H} {w : World} {r : Reach} {b0 base : Nat} {spare : Nat → Bool} {held : Bool} {v : Value} {d : DataW H} {p : List MemPlace}
    (hv : Value.okWide Tryz.prog w r b0 33 v) (h : DataW.Trod enc Tryz.prog w base spare held 33 v d p) : ∃ (y : Th) (z s : List Int) (l : List Bg), v = .agg y.cs.toArray ∧ Reads w y z l s ∧ (∀ b ∈ l, Wide b.n) ∧ Wide y.n := by
  obtain ⟨cs, rfl, hsz⟩ := okWide_struct Tryz.underlying33 hv
  obtain ⟨fuel, hf⟩ := h
  obtain ⟨v0, v1, v2, v3, v4, v5, v6, v7, v8, v9, v10, v11, v12, v13, v14, v15, v16, v17, v18, v19, v20, v21, hl⟩ := list22 (l := cs.toList) (by simpa using hsz.trans cells33)
  obtain rfl : cs = #[v0, v1, v2, v3, v4, v5, v6, v7, v8, v9, v10, v11, v12, v13, v14, v15, v16, v17, v18, v19, v20, v21] := by apply Array.ext'; exact hl
  obtain ⟨y, z, s, l, e, hr, hw, hn⟩ := th_in hf
  exact ⟨y, z, s, l, by rw [← e], hr, hw, hn⟩
set_option maxRecDepth 100000 in
theorem word_in {H : Type} {enc : TypeId × Value → H} {w : World} {r : Reach} {b0 base : Nat} {spare : Nat → Bool} {held : Bool} {v : Value} {d : DataW H} {p : List MemPlace}
    (hv : Value.okWide Tryz.prog w r b0 26 v) (h : DataW.Trod enc Tryz.prog w base spare held 26 v d p) : ∃ x : Wd, v = .agg x.cs.toArray := by
  obtain ⟨cs, rfl, hsz⟩ := okWide_struct Tryz.underlying26 hv
  obtain ⟨fuel, hf⟩ := h
  obtain ⟨v0, v1, v2, hl⟩ := list3 (l := cs.toList) (by simpa using hsz.trans cells26)
  obtain rfl : cs = #[v0, v1, v2] := by apply Array.ext'; exact hl
  obtain ⟨a, b, c, rfl, rfl, rfl⟩ := w3_in hf
  exact ⟨⟨a, b, c⟩, rfl⟩
end Go.Proofs.YtfadfdfpocpelaaGreatDoor
