/- How the laws' states, and octets, came in. Conditions: of bulk at most 1048576. -/
import Derived.Test.YtfmkmmmaoiepmaaWides
import Derived.Deep.Slices
import Derived.DataShut
import Derived.ProofKit
import Derived.OpenShut
import Derived.ChangeOld
import Derived.Below
namespace Go.Proofs.Ytfmkmmmaoiepmaa
set_option linter.unusedSimpArgs false
set_option linter.unusedVariables false
open Go.RowKit Go.ChangeShapes Go.WideShapes Go.Deep

instance : Inhabited Tc := ⟨noTc⟩
instance : Inhabited Bu := ⟨noBu⟩
theorem wide_of {n : Int} (h : (Lit.int .i64 n).wf = true) : Wide n := (Lit.wf_int_iff .i64 n).1 h
theorem bulk_one {H : Type} (d : DataW H) : 1 ≤ Rows.uptoBulk d := by
  cases d with
  | lit l => cases l <;> simp [Rows.uptoBulk]
  | nil => simp [Rows.uptoBulk]
  | ptr d => simp [Rows.uptoBulk]
  | slice elems spare => simp [Rows.uptoBulk]
  | agg parts => simp [Rows.uptoBulk]
  | iface t d => simp [Rows.uptoBulk]
  | map entries => simp [Rows.uptoBulk]
  | held h => simp [Rows.uptoBulk]
theorem bulk_part {H : Type} {d : DataW H} {l : List (DataW H)} (h : d ∈ l) : Rows.uptoBulk d ≤ Rows.uptoBulkAll l := by
  induction l with
  | nil => cases h
  | cons x r ih =>
    simp only [Rows.uptoBulkAll]
    rcases List.mem_cons.1 h with e | e
    · subst e; omega
    · have := ih e; omega
theorem bulk_len {H : Type} (l : List (DataW H)) : l.length ≤ Rows.uptoBulkAll l := by
  induction l with
  | nil => simp [Rows.uptoBulkAll]
  | cons x r ih => have := bulk_one x; simp only [Rows.uptoBulkAll, List.length_cons]; omega
theorem agg_part {H : Type} {d : DataW H} {l : List (DataW H)} (h : d ∈ l) (hb : Rows.uptoBulk (.agg l) ≤ 1048576) : Rows.uptoBulk d ≤ 1048576 := by
  have := bulk_part h
  simp only [Rows.uptoBulk] at hb
  omega
theorem cellsOf2 : Try.prog.cellsOf 2 = 1 := by kernel_rfl
theorem cellsOf3 : Try.prog.cellsOf 3 = 1 := by kernel_rfl
theorem cellsOf22 : Try.prog.cellsOf 22 = 1 := by kernel_rfl
theorem cellsOf23 : Try.prog.cellsOf 23 = 1 := by kernel_rfl
theorem cellsOf24 : Try.prog.cellsOf 24 = 1 := by kernel_rfl
theorem cellsOf25 : Try.prog.cellsOf 25 = 1 := by kernel_rfl
theorem cellsOf26 : Try.prog.cellsOf 26 = 1 := by kernel_rfl
theorem cellsOf27 : Try.prog.cellsOf 27 = 1 := by kernel_rfl
theorem cellsOf29 : Try.prog.cellsOf 29 = 9 := by kernel_rfl
theorem cellsOf35 : Try.prog.cellsOf 35 = 3 := by kernel_rfl
theorem cellsOf36 : Try.prog.cellsOf 36 = 12 := by kernel_rfl
theorem cellsOf38 : Try.prog.cellsOf 38 = 4 := by kernel_rfl
theorem cellsOf39 : Try.prog.cellsOf 39 = 1 := by kernel_rfl
theorem cellsOf41 : Try.prog.cellsOf 41 = 22 := by kernel_rfl
theorem cellsOf43 : Try.prog.cellsOf 43 = 1 := by kernel_rfl
theorem cellsOf62 : Try.prog.cellsOf 62 = 3 := by kernel_rfl
theorem cellsOf65 : Try.prog.cellsOf 65 = 3 := by kernel_rfl
theorem cellsOf67 : Try.prog.cellsOf 67 = 8 := by kernel_rfl
theorem cellsOf70 : Try.prog.cellsOf 70 = 6 := by kernel_rfl
theorem cellsOf72 : Try.prog.cellsOf 72 = 10 := by kernel_rfl
theorem list3 {α : Type} {l : List α} (h : l.length = 3) : ∃ v0 v1 v2, l = [v0, v1, v2] := by
  match l, h with
  | [v0, v1, v2], _ => exact ⟨v0, v1, v2, rfl⟩
theorem list4 {α : Type} {l : List α} (h : l.length = 4) : ∃ v0 v1 v2 v3, l = [v0, v1, v2, v3] := by
  match l, h with
  | [v0, v1, v2, v3], _ => exact ⟨v0, v1, v2, v3, rfl⟩
theorem list6 {α : Type} {l : List α} (h : l.length = 6) : ∃ v0 v1 v2 v3 v4 v5, l = [v0, v1, v2, v3, v4, v5] := by
  match l, h with
  | [v0, v1, v2, v3, v4, v5], _ => exact ⟨v0, v1, v2, v3, v4, v5, rfl⟩
theorem list8 {α : Type} {l : List α} (h : l.length = 8) : ∃ v0 v1 v2 v3 v4 v5 v6 v7, l = [v0, v1, v2, v3, v4, v5, v6, v7] := by
  match l, h with
  | [v0, v1, v2, v3, v4, v5, v6, v7], _ => exact ⟨v0, v1, v2, v3, v4, v5, v6, v7, rfl⟩
theorem list9 {α : Type} {l : List α} (h : l.length = 9) : ∃ v0 v1 v2 v3 v4 v5 v6 v7 v8, l = [v0, v1, v2, v3, v4, v5, v6, v7, v8] := by
  match l, h with
  | [v0, v1, v2, v3, v4, v5, v6, v7, v8], _ => exact ⟨v0, v1, v2, v3, v4, v5, v6, v7, v8, rfl⟩
theorem list10 {α : Type} {l : List α} (h : l.length = 10) : ∃ v0 v1 v2 v3 v4 v5 v6 v7 v8 v9, l = [v0, v1, v2, v3, v4, v5, v6, v7, v8, v9] := by
  match l, h with
  | [v0, v1, v2, v3, v4, v5, v6, v7, v8, v9], _ => exact ⟨v0, v1, v2, v3, v4, v5, v6, v7, v8, v9, rfl⟩
theorem list12 {α : Type} {l : List α} (h : l.length = 12) : ∃ v0 v1 v2 v3 v4 v5 v6 v7 v8 v9 v10 v11, l = [v0, v1, v2, v3, v4, v5, v6, v7, v8, v9, v10, v11] := by
  match l, h with
  | [v0, v1, v2, v3, v4, v5, v6, v7, v8, v9, v10, v11], _ => exact ⟨v0, v1, v2, v3, v4, v5, v6, v7, v8, v9, v10, v11, rfl⟩
theorem list22 {α : Type} {l : List α} (h : l.length = 22) : ∃ v0 v1 v2 v3 v4 v5 v6 v7 v8 v9 v10 v11 v12 v13 v14 v15 v16 v17 v18 v19 v20 v21, l = [v0, v1, v2, v3, v4, v5, v6, v7, v8, v9, v10, v11, v12, v13, v14, v15, v16, v17, v18, v19, v20, v21] := by
  match l, h with
  | [v0, v1, v2, v3, v4, v5, v6, v7, v8, v9, v10, v11, v12, v13, v14, v15, v16, v17, v18, v19, v20, v21], _ => exact ⟨v0, v1, v2, v3, v4, v5, v6, v7, v8, v9, v10, v11, v12, v13, v14, v15, v16, v17, v18, v19, v20, v21, rfl⟩
theorem one_in {t : TypeId} (hu : Try.prog.underlying t = some (.int .i64)) {H : Type} {enc : TypeId × Value → H} {w : World} {base : Nat} {spare : Nat → Bool} {held : Bool} {fuel : Nat} {v : Value} {x : DataW H × List MemPlace} (ht : DataW.trod enc Try.prog w base spare held fuel t [v] = some x) : ∃ z, v = .int .i64 z ∧ Wide z := by
  obtain ⟨z, e, _, hw⟩ := DataW.trod_int hu ht
  simp at e
  exact ⟨z, e, wide_of hw⟩
theorem slice_in {α : Type} [Inhabited α] {G : α → Prop} {f : α → List Value} {k : Nat} (hf : ∀ x, (f x).length = k) (hk : 0 < k) {t e : TypeId} (ht : Try.prog.underlying t = some (.slice e)) (hce : Try.prog.cellsOf e = k) {H : Type} {enc : TypeId × Value → H} {w : World} {base : Nat} {spare : Nat → Bool} {held : Bool} {fuel : Nat} {A : Option Addr} {n c : Nat} {x : DataW H × List MemPlace}
    (hin : ∀ {fuel : Nat} {cs : List Value} {x : DataW H × List MemPlace}, cs.length = k → DataW.trod enc Try.prog w base spare held fuel e cs = some x → Rows.uptoBulk x.1 ≤ 1048576 → ∃ o : α, cs = f o ∧ G o)
    (h : DataW.trod enc Try.prog w base spare held fuel t [.slice A n c] = some x) (hbk : Rows.uptoBulk x.1 ≤ 1048576) : ∃ l : List α, Sees w k A n c (l.flatMap f) ∧ (∀ x ∈ l, G x) ∧ n ≤ 1048576 := by
  rcases open_slice ht h with ⟨hcs, _⟩ | ⟨a, len, cap, m, n', D, Pl, hcs, hb, hl, hm, hmm, hx, hi⟩
  · simp at hcs
    obtain ⟨rfl, rfl, rfl⟩ := hcs
    exact ⟨[], ⟨by simp, Nat.le_refl _, Nat.zero_le _, fun _ => rfl, fun ad h => (by cases h)⟩, fun x hx => (by cases hx), Nat.zero_le _⟩
  · simp at hcs
    obtain ⟨rfl, rfl, rfl⟩ := hcs
    have hlm : n ≤ m := by rw [hmm]; split <;> omega
    have hDn : n ≤ 1048576 := by
      rw [hx] at hbk
      simp only [Rows.uptoBulk] at hbk
      have := bulk_len ((List.range n).map D)
      rw [List.length_map, List.length_range] at this
      omega
    have hD : ∀ i, i < n → Rows.uptoBulk (D i) ≤ 1048576 := fun i hi => by
      rw [hx] at hbk
      simp only [Rows.uptoBulk] at hbk
      have := bulk_part (show D i ∈ (List.range n).map D from List.mem_map.2 ⟨i, List.mem_range.2 hi, rfl⟩)
      omega
    have each : ∀ i, i < n → ∃ o : α, G o ∧ ∀ j v, (f o)[j]? = some v → w.cell? ((a.add (i * k)).add j) = some v := by
      intro i hin2
      obtain ⟨cs, hc, ht2⟩ := hi i (by omega)
      rw [hce] at hc
      obtain ⟨_, hcl, hat⟩ := World.cells?_some hc
      obtain ⟨o, rfl, ho⟩ := hin hcl ht2 (hD i hin2)
      refine ⟨o, ho, fun j v hv => ?_⟩
      obtain ⟨hj, e⟩ := List.getElem?_eq_some_iff.1 hv
      have := hat j (by rw [hcl] at hj; exact hj)
      rw [this, hv]
    obtain ⟨O, hO⟩ := choose_lt each
    have hlen : ((List.range n).map O).length = n := by simp
    refine ⟨(List.range n).map O, ⟨by rw [flat_len hf, hlen], hl, hm, fun e => (by cases e), fun ad e h0 => ?_⟩, fun x hx => ?_, hDn⟩
    rotate_left 1
    · obtain ⟨i, hi3, rfl⟩ := List.mem_map.1 hx
      exact (hO i (List.mem_range.1 hi3)).1
    injection e with e
    subst e
    obtain ⟨b, off, spot⟩ := a
    have h1 : ∀ i, i < n → ∀ j v, (f (O i))[j]? = some v → w.cell? (((⟨b, off, spot⟩ : Addr).add (i * k)).add j) = some v := fun i hi4 => (hO i hi4).2
    obtain ⟨v0, hv0⟩ : ∃ v, (f (O 0))[0]? = some v := ⟨_, List.getElem?_eq_getElem (by rw [hf]; exact hk)⟩
    have hspot : spot = none := by
      have := h1 0 h0 0 _ hv0
      simpa [Addr.add] using World.cell?_spot this
    subst hspot
    refine ⟨b, off, rfl, ?_, fun j v hv => ?_⟩
    · have := World.block_lt_of_cell? w _ (h1 0 h0 0 _ hv0)
      simpa [Addr.add] using this
    · have hj : j < n * k := by
        have := (List.getElem?_eq_some_iff.1 hv).1
        rw [flat_len hf, hlen] at this
        exact this
      have hi2 : j / k < n := Nat.div_lt_of_lt_mul (by rw [Nat.mul_comm]; exact hj)
      have hr : j % k < k := Nat.mod_lt _ hk
      have ej : j / k * k + j % k = j := by rw [Nat.mul_comm]; exact Nat.div_add_mod j k
      have hg := flat_get hf ((List.range n).map O) (j / k) (O (j / k)) (by simp [hi2]) (j % k) hr
      rw [ej, hv] at hg
      have := h1 (j / k) hi2 (j % k) v hg.symm
      rw [Addr.add_mid, Addr.add_mid, Nat.add_assoc, ej] at this
      exact this
theorem is_slice {t e : TypeId} (hu : Try.prog.underlying t = some (.slice e)) {H : Type} {enc : TypeId × Value → H} {w : World} {base : Nat} {spare : Nat → Bool} {held : Bool} {fuel : Nat} {v : Value} {x : DataW H × List MemPlace} (ht : DataW.trod enc Try.prog w base spare held fuel t [v] = some x) : ∃ A n c, v = .slice A n c ∧ n ≤ c ∧ c ≤ maxLen ∧ (A = none → c = 0) := by
  rcases open_slice hu ht with ⟨hcs, _⟩ | ⟨a, len, cap, m, n', D, Pl, hcs, hb, hln, hm, hmm, hx, hi⟩
  · simp at hcs
    exact ⟨none, 0, 0, hcs, Nat.le_refl _, Nat.zero_le _, fun _ => rfl⟩
  · simp at hcs
    exact ⟨some a, len, cap, hcs, hln, hm, fun h => (by cases h)⟩
set_option maxRecDepth 100000 in
theorem w3_in {H : Type} {enc : TypeId × Value → H} {w : World} {base : Nat} {spare : Nat → Bool} {held : Bool} {fuel : Nat} {v0 v1 v2 : Value} {x : DataW H × List MemPlace} (ht : DataW.trod enc Try.prog w base spare held fuel 35 [v0, v1, v2] = some x) (hb : Rows.uptoBulk x.1 ≤ 1048576) : ∃ y : Wd, [v0, v1, v2] = y.cs ∧ ∀ x ∈ y.ns, Wide x := by
  obtain ⟨ys, k, _, rfl, _, hyl, hat⟩ := DataW.trod_struct Try.underlying35 ht
  match ys, hyl with
  | [y0, y1, y2], _ =>
    have g0 : DataW.trod enc Try.prog w base spare held k 2 (([v0, v1, v2].drop 0).take (Try.prog.cellsOf 2)) = some y0 := hat 0 _ rfl
    rw [cellsOf2] at g0
    have f0 : DataW.trod enc Try.prog w base spare held k 2 [v0] = some y0 := g0
    have p0 : Rows.uptoBulk y0.1 ≤ 1048576 := agg_part (by simp) hb
    clear g0
    have g1 : DataW.trod enc Try.prog w base spare held k 3 (([v0, v1, v2].drop 1).take (Try.prog.cellsOf 3)) = some y1 := hat 1 _ rfl
    rw [cellsOf3] at g1
    have f1 : DataW.trod enc Try.prog w base spare held k 3 [v1] = some y1 := g1
    have p1 : Rows.uptoBulk y1.1 ≤ 1048576 := agg_part (by simp) hb
    clear g1
    have g2 : DataW.trod enc Try.prog w base spare held k 3 (([v0, v1, v2].drop 2).take (Try.prog.cellsOf 3)) = some y2 := hat 2 _ rfl
    rw [cellsOf3] at g2
    have f2 : DataW.trod enc Try.prog w base spare held k 3 [v2] = some y2 := g2
    have p2 : Rows.uptoBulk y2.1 ≤ 1048576 := agg_part (by simp) hb
    clear g2
    clear hat hb ht
    obtain ⟨z0, rfl, w0⟩ := one_in Try.underlying2 f0
    obtain ⟨z1, rfl, w1⟩ := one_in Try.underlying3 f1
    obtain ⟨z2, rfl, w2⟩ := one_in Try.underlying3 f2
    refine ⟨⟨z0, z1, z2⟩, rfl, fun x hx => ?_⟩
    simp only [Wd.ns, List.mem_cons, List.not_mem_nil, or_false] at hx
    rcases hx with rfl | rfl | rfl <;> assumption
set_option maxRecDepth 100000 in
theorem b3_in {H : Type} {enc : TypeId × Value → H} {w : World} {base : Nat} {spare : Nat → Bool} {held : Bool} {fuel : Nat} {v0 v1 v2 : Value} {x : DataW H × List MemPlace} (ht : DataW.trod enc Try.prog w base spare held fuel 62 [v0, v1, v2] = some x) (hb : Rows.uptoBulk x.1 ≤ 1048576) : ∃ y : Bg, [v0, v1, v2] = y.cs ∧ ∀ x ∈ y.ns, Wide x := by
  obtain ⟨ys, k, _, rfl, _, hyl, hat⟩ := DataW.trod_struct Try.underlying62 ht
  match ys, hyl with
  | [y0, y1, y2], _ =>
    have g0 : DataW.trod enc Try.prog w base spare held k 3 (([v0, v1, v2].drop 0).take (Try.prog.cellsOf 3)) = some y0 := hat 0 _ rfl
    rw [cellsOf3] at g0
    have f0 : DataW.trod enc Try.prog w base spare held k 3 [v0] = some y0 := g0
    have p0 : Rows.uptoBulk y0.1 ≤ 1048576 := agg_part (by simp) hb
    clear g0
    have g1 : DataW.trod enc Try.prog w base spare held k 3 (([v0, v1, v2].drop 1).take (Try.prog.cellsOf 3)) = some y1 := hat 1 _ rfl
    rw [cellsOf3] at g1
    have f1 : DataW.trod enc Try.prog w base spare held k 3 [v1] = some y1 := g1
    have p1 : Rows.uptoBulk y1.1 ≤ 1048576 := agg_part (by simp) hb
    clear g1
    have g2 : DataW.trod enc Try.prog w base spare held k 2 (([v0, v1, v2].drop 2).take (Try.prog.cellsOf 2)) = some y2 := hat 2 _ rfl
    rw [cellsOf2] at g2
    have f2 : DataW.trod enc Try.prog w base spare held k 2 [v2] = some y2 := g2
    have p2 : Rows.uptoBulk y2.1 ≤ 1048576 := agg_part (by simp) hb
    clear g2
    clear hat hb ht
    obtain ⟨z0, rfl, w0⟩ := one_in Try.underlying3 f0
    obtain ⟨z1, rfl, w1⟩ := one_in Try.underlying3 f1
    obtain ⟨z2, rfl, w2⟩ := one_in Try.underlying2 f2
    refine ⟨⟨z0, z1, z2⟩, rfl, fun x hx => ?_⟩
    simp only [Bg.ns, List.mem_cons, List.not_mem_nil, or_false] at hx
    rcases hx with rfl | rfl | rfl <;> assumption
set_option maxRecDepth 100000 in
theorem p3_in {H : Type} {enc : TypeId × Value → H} {w : World} {base : Nat} {spare : Nat → Bool} {held : Bool} {fuel : Nat} {v0 v1 v2 : Value} {x : DataW H × List MemPlace} (ht : DataW.trod enc Try.prog w base spare held fuel 65 [v0, v1, v2] = some x) (hb : Rows.uptoBulk x.1 ≤ 1048576) : ∃ a b c : Int, [v0, v1, v2] = [.int .i64 a, .int .i64 b, .int .i64 c] ∧ Wide a ∧ Wide b ∧ Wide c := by
  obtain ⟨ys, k, _, rfl, _, hyl, hat⟩ := DataW.trod_struct Try.underlying65 ht
  match ys, hyl with
  | [y0, y1, y2], _ =>
    have g0 : DataW.trod enc Try.prog w base spare held k 3 (([v0, v1, v2].drop 0).take (Try.prog.cellsOf 3)) = some y0 := hat 0 _ rfl
    rw [cellsOf3] at g0
    have f0 : DataW.trod enc Try.prog w base spare held k 3 [v0] = some y0 := g0
    have p0 : Rows.uptoBulk y0.1 ≤ 1048576 := agg_part (by simp) hb
    clear g0
    have g1 : DataW.trod enc Try.prog w base spare held k 3 (([v0, v1, v2].drop 1).take (Try.prog.cellsOf 3)) = some y1 := hat 1 _ rfl
    rw [cellsOf3] at g1
    have f1 : DataW.trod enc Try.prog w base spare held k 3 [v1] = some y1 := g1
    have p1 : Rows.uptoBulk y1.1 ≤ 1048576 := agg_part (by simp) hb
    clear g1
    have g2 : DataW.trod enc Try.prog w base spare held k 3 (([v0, v1, v2].drop 2).take (Try.prog.cellsOf 3)) = some y2 := hat 2 _ rfl
    rw [cellsOf3] at g2
    have f2 : DataW.trod enc Try.prog w base spare held k 3 [v2] = some y2 := g2
    have p2 : Rows.uptoBulk y2.1 ≤ 1048576 := agg_part (by simp) hb
    clear g2
    clear hat hb ht
    obtain ⟨z0, rfl, w0⟩ := one_in Try.underlying3 f0
    obtain ⟨z1, rfl, w1⟩ := one_in Try.underlying3 f1
    obtain ⟨z2, rfl, w2⟩ := one_in Try.underlying3 f2
    exact ⟨z0, z1, z2, rfl, w0, w1, w2⟩
set_option maxRecDepth 100000 in
theorem e8_in {H : Type} {enc : TypeId × Value → H} {w : World} {base : Nat} {spare : Nat → Bool} {held : Bool} {fuel : Nat} {v0 v1 v2 v3 v4 v5 v6 v7 : Value} {x : DataW H × List MemPlace} (ht : DataW.trod enc Try.prog w base spare held fuel 67 [v0, v1, v2, v3, v4, v5, v6, v7] = some x) (hb : Rows.uptoBulk x.1 ≤ 1048576) : ∃ y : Ent, [v0, v1, v2, v3, v4, v5, v6, v7] = y.cs ∧ ∀ x ∈ y.ns, Wide x := by
  obtain ⟨ys, k, _, rfl, _, hyl, hat⟩ := DataW.trod_struct Try.underlying67 ht
  match ys, hyl with
  | [y0, y1, y2, y3], _ =>
    have g0 : DataW.trod enc Try.prog w base spare held k 65 (([v0, v1, v2, v3, v4, v5, v6, v7].drop 0).take (Try.prog.cellsOf 65)) = some y0 := hat 0 _ rfl
    rw [cellsOf65] at g0
    have f0 : DataW.trod enc Try.prog w base spare held k 65 [v0, v1, v2] = some y0 := g0
    have p0 : Rows.uptoBulk y0.1 ≤ 1048576 := agg_part (by simp) hb
    clear g0
    have g1 : DataW.trod enc Try.prog w base spare held k 35 (([v0, v1, v2, v3, v4, v5, v6, v7].drop 3).take (Try.prog.cellsOf 35)) = some y1 := hat 1 _ rfl
    rw [cellsOf35] at g1
    have f1 : DataW.trod enc Try.prog w base spare held k 35 [v3, v4, v5] = some y1 := g1
    have p1 : Rows.uptoBulk y1.1 ≤ 1048576 := agg_part (by simp) hb
    clear g1
    have g2 : DataW.trod enc Try.prog w base spare held k 3 (([v0, v1, v2, v3, v4, v5, v6, v7].drop 6).take (Try.prog.cellsOf 3)) = some y2 := hat 2 _ rfl
    rw [cellsOf3] at g2
    have f2 : DataW.trod enc Try.prog w base spare held k 3 [v6] = some y2 := g2
    have p2 : Rows.uptoBulk y2.1 ≤ 1048576 := agg_part (by simp) hb
    clear g2
    have g3 : DataW.trod enc Try.prog w base spare held k 3 (([v0, v1, v2, v3, v4, v5, v6, v7].drop 7).take (Try.prog.cellsOf 3)) = some y3 := hat 3 _ rfl
    rw [cellsOf3] at g3
    have f3 : DataW.trod enc Try.prog w base spare held k 3 [v7] = some y3 := g3
    have p3 : Rows.uptoBulk y3.1 ≤ 1048576 := agg_part (by simp) hb
    clear g3
    clear hat hb ht
    obtain ⟨a, b, c, e0, h0, h1, h2⟩ := p3_in f0 p0
    obtain ⟨y, e1, h3⟩ := w3_in f1 p1
    obtain ⟨z6, rfl, w6⟩ := one_in Try.underlying3 f2
    obtain ⟨z7, rfl, w7⟩ := one_in Try.underlying3 f3
    simp only [Wd.cs, List.cons.injEq, and_true] at e0 e1
    obtain ⟨rfl, rfl, rfl⟩ := e0
    obtain ⟨rfl, rfl, rfl⟩ := e1
    refine ⟨⟨a, b, c, y.n, y.c, y.g, z6, z7⟩, rfl, fun x hx => ?_⟩
    simp only [Ent.ns, List.mem_cons, List.not_mem_nil, or_false] at hx
    simp only [Wd.ns, List.mem_cons, List.not_mem_nil, or_false, forall_eq_or_imp, forall_eq] at h3
    obtain ⟨k0, k1, k2⟩ := h3
    rcases hx with rfl | rfl | rfl | rfl | rfl | rfl | rfl | rfl <;> assumption
set_option maxRecDepth 100000 in
theorem f6_in {H : Type} {enc : TypeId × Value → H} {w : World} {base : Nat} {spare : Nat → Bool} {held : Bool} {fuel : Nat} {v0 v1 v2 v3 v4 v5 : Value} {x : DataW H × List MemPlace} (ht : DataW.trod enc Try.prog w base spare held fuel 70 [v0, v1, v2, v3, v4, v5] = some x) (hb : Rows.uptoBulk x.1 ≤ 1048576) : ∃ u0 u1 : Wd, [v0, v1, v2, v3, v4, v5] = u0.cs ++ u1.cs ∧ ∀ x ∈ u0.ns ++ u1.ns, Wide x := by
  obtain ⟨xs, m, _, rfl, _, hxl, hall⟩ := DataW.trod_array Try.underlying70 ht
  rw [cellsOf35] at hall
  match xs, hxl with
  | [y0, y1], _ =>
    have f0 : DataW.trod enc Try.prog w base spare held m 35 [v0, v1, v2] = some y0 := hall 0 (by omega)
    obtain ⟨u0, e0, h0⟩ := w3_in f0 (agg_part (by simp) hb)
    have f1 : DataW.trod enc Try.prog w base spare held m 35 [v3, v4, v5] = some y1 := hall 1 (by omega)
    obtain ⟨u1, e1, h1⟩ := w3_in f1 (agg_part (by simp) hb)
    refine ⟨u0, u1, by rw [← e0, ← e1]; rfl, fun x hx => ?_⟩
    simp only [List.mem_append, or_assoc] at hx
    rcases hx with hx | hx
    · exact h0 x hx
    · exact h1 x hx
set_option maxRecDepth 100000 in
theorem rg_in {H : Type} {enc : TypeId × Value → H} {w : World} {base : Nat} {spare : Nat → Bool} {held : Bool} {fuel : Nat} {v0 v1 v2 v3 v4 v5 v6 v7 v8 v9 v10 v11 : Value} {x : DataW H × List MemPlace} (ht : DataW.trod enc Try.prog w base spare held fuel 36 [v0, v1, v2, v3, v4, v5, v6, v7, v8, v9, v10, v11] = some x) (hb : Rows.uptoBulk x.1 ≤ 1048576) : ∃ u0 u1 u2 u3 : Wd, [v0, v1, v2, v3, v4, v5, v6, v7, v8, v9, v10, v11] = u0.cs ++ u1.cs ++ u2.cs ++ u3.cs ∧ ∀ x ∈ u0.ns ++ u1.ns ++ u2.ns ++ u3.ns, Wide x := by
  obtain ⟨xs, m, _, rfl, _, hxl, hall⟩ := DataW.trod_array Try.underlying36 ht
  rw [cellsOf35] at hall
  match xs, hxl with
  | [y0, y1, y2, y3], _ =>
    have f0 : DataW.trod enc Try.prog w base spare held m 35 [v0, v1, v2] = some y0 := hall 0 (by omega)
    obtain ⟨u0, e0, h0⟩ := w3_in f0 (agg_part (by simp) hb)
    have f1 : DataW.trod enc Try.prog w base spare held m 35 [v3, v4, v5] = some y1 := hall 1 (by omega)
    obtain ⟨u1, e1, h1⟩ := w3_in f1 (agg_part (by simp) hb)
    have f2 : DataW.trod enc Try.prog w base spare held m 35 [v6, v7, v8] = some y2 := hall 2 (by omega)
    obtain ⟨u2, e2, h2⟩ := w3_in f2 (agg_part (by simp) hb)
    have f3 : DataW.trod enc Try.prog w base spare held m 35 [v9, v10, v11] = some y3 := hall 3 (by omega)
    obtain ⟨u3, e3, h3⟩ := w3_in f3 (agg_part (by simp) hb)
    refine ⟨u0, u1, u2, u3, by rw [← e0, ← e1, ← e2, ← e3]; rfl, fun x hx => ?_⟩
    simp only [List.mem_append, or_assoc] at hx
    rcases hx with hx | hx | hx | hx
    · exact h0 x hx
    · exact h1 x hx
    · exact h2 x hx
    · exact h3 x hx
set_option maxRecDepth 100000 in
theorem c10_in {H : Type} {enc : TypeId × Value → H} {w : World} {base : Nat} {spare : Nat → Bool} {held : Bool} {fuel : Nat} {v0 v1 v2 v3 v4 v5 v6 v7 v8 v9 : Value} {x : DataW H × List MemPlace} (ht : DataW.trod enc Try.prog w base spare held fuel 72 [v0, v1, v2, v3, v4, v5, v6, v7, v8, v9] = some x) (hb : Rows.uptoBulk x.1 ≤ 1048576) : ∃ y : Cel, [v0, v1, v2, v3, v4, v5, v6, v7, v8, v9] = y.cs ∧ ∀ x ∈ y.ns, Wide x := by
  obtain ⟨ys, k, _, rfl, _, hyl, hat⟩ := DataW.trod_struct Try.underlying72 ht
  match ys, hyl with
  | [y0, y1, y2, y3, y4], _ =>
    have g0 : DataW.trod enc Try.prog w base spare held k 3 (([v0, v1, v2, v3, v4, v5, v6, v7, v8, v9].drop 0).take (Try.prog.cellsOf 3)) = some y0 := hat 0 _ rfl
    rw [cellsOf3] at g0
    have f0 : DataW.trod enc Try.prog w base spare held k 3 [v0] = some y0 := g0
    have p0 : Rows.uptoBulk y0.1 ≤ 1048576 := agg_part (by simp) hb
    clear g0
    have g1 : DataW.trod enc Try.prog w base spare held k 3 (([v0, v1, v2, v3, v4, v5, v6, v7, v8, v9].drop 1).take (Try.prog.cellsOf 3)) = some y1 := hat 1 _ rfl
    rw [cellsOf3] at g1
    have f1 : DataW.trod enc Try.prog w base spare held k 3 [v1] = some y1 := g1
    have p1 : Rows.uptoBulk y1.1 ≤ 1048576 := agg_part (by simp) hb
    clear g1
    have g2 : DataW.trod enc Try.prog w base spare held k 3 (([v0, v1, v2, v3, v4, v5, v6, v7, v8, v9].drop 2).take (Try.prog.cellsOf 3)) = some y2 := hat 2 _ rfl
    rw [cellsOf3] at g2
    have f2 : DataW.trod enc Try.prog w base spare held k 3 [v2] = some y2 := g2
    have p2 : Rows.uptoBulk y2.1 ≤ 1048576 := agg_part (by simp) hb
    clear g2
    have g3 : DataW.trod enc Try.prog w base spare held k 3 (([v0, v1, v2, v3, v4, v5, v6, v7, v8, v9].drop 3).take (Try.prog.cellsOf 3)) = some y3 := hat 3 _ rfl
    rw [cellsOf3] at g3
    have f3 : DataW.trod enc Try.prog w base spare held k 3 [v3] = some y3 := g3
    have p3 : Rows.uptoBulk y3.1 ≤ 1048576 := agg_part (by simp) hb
    clear g3
    have g4 : DataW.trod enc Try.prog w base spare held k 70 (([v0, v1, v2, v3, v4, v5, v6, v7, v8, v9].drop 4).take (Try.prog.cellsOf 70)) = some y4 := hat 4 _ rfl
    rw [cellsOf70] at g4
    have f4 : DataW.trod enc Try.prog w base spare held k 70 [v4, v5, v6, v7, v8, v9] = some y4 := g4
    have p4 : Rows.uptoBulk y4.1 ≤ 1048576 := agg_part (by simp) hb
    clear g4
    clear hat hb ht
    obtain ⟨z0, rfl, w0⟩ := one_in Try.underlying3 f0
    obtain ⟨z1, rfl, w1⟩ := one_in Try.underlying3 f1
    obtain ⟨z2, rfl, w2⟩ := one_in Try.underlying3 f2
    obtain ⟨z3, rfl, w3⟩ := one_in Try.underlying3 f3
    obtain ⟨u, v, e1, h3⟩ := f6_in f4 p4
    simp only [Wd.cs, List.cons_append, List.nil_append, List.cons.injEq, and_true] at e1
    obtain ⟨rfl, rfl, rfl, rfl, rfl, rfl⟩ := e1
    refine ⟨⟨z0, z1, z2, z3, u.n, u.c, u.g, v.n, v.c, v.g⟩, rfl, fun x hx => ?_⟩
    simp only [Cel.ns, List.mem_cons, List.not_mem_nil, or_false] at hx
    simp only [Wd.ns, List.cons_append, List.nil_append, List.mem_cons, List.not_mem_nil, or_false, forall_eq_or_imp, forall_eq] at h3
    obtain ⟨k0, k1, k2, k3, k4, k5⟩ := h3
    rcases hx with rfl | rfl | rfl | rfl | rfl | rfl | rfl | rfl | rfl | rfl <;> assumption
theorem ints_in {H : Type} {enc : TypeId × Value → H} {w : World} {base : Nat} {spare : Nat → Bool} {held : Bool} {fuel : Nat} {v : Value} {x : DataW H × List MemPlace} (ht : DataW.trod enc Try.prog w base spare held fuel 26 [v] = some x) (hb : Rows.uptoBulk x.1 ≤ 1048576) : ∃ (q : Sl) (z : List Int), v = q.v ∧ SeesI w q.A q.n q.cap z ∧ (∀ x ∈ z, Wide x) ∧ z.length ≤ 1048576 := by
  obtain ⟨A, n, c, rfl, _⟩ := is_slice Try.underlying26 ht
  obtain ⟨l, hl, hw, hn⟩ := slice_in (α := Int) (G := Wide) (f := int1) (k := 1) int1_len (by omega) Try.underlying26 cellsOf3 (fun {fuel cs x} h1 h2 h3 => by
    match cs, h1 with
    | [v0], _ =>
      obtain ⟨z, rfl, hz⟩ := one_in Try.underlying3 h2
      exact ⟨z, rfl, hz⟩) ht hb
  exact ⟨⟨A, n, c⟩, l, rfl, hl, hw, by rw [SeesI.len hl]; exact hn⟩
theorem nums_in {H : Type} {enc : TypeId × Value → H} {w : World} {base : Nat} {spare : Nat → Bool} {held : Bool} {fuel : Nat} {v : Value} {x : DataW H × List MemPlace} (ht : DataW.trod enc Try.prog w base spare held fuel 27 [v] = some x) (hb : Rows.uptoBulk x.1 ≤ 1048576) : ∃ (q : Sl) (z : List Int), v = q.v ∧ SeesI w q.A q.n q.cap z ∧ (∀ x ∈ z, Wide x) ∧ z.length ≤ 1048576 := by
  obtain ⟨A, n, c, rfl, _⟩ := is_slice Try.underlying27 ht
  obtain ⟨l, hl, hw, hn⟩ := slice_in (α := Int) (G := Wide) (f := int1) (k := 1) int1_len (by omega) Try.underlying27 cellsOf2 (fun {fuel cs x} h1 h2 h3 => by
    match cs, h1 with
    | [v0], _ =>
      obtain ⟨z, rfl, hz⟩ := one_in Try.underlying2 h2
      exact ⟨z, rfl, hz⟩) ht hb
  exact ⟨⟨A, n, c⟩, l, rfl, hl, hw, by rw [SeesI.len hl]; exact hn⟩
theorem words_in {H : Type} {enc : TypeId × Value → H} {w : World} {base : Nat} {spare : Nat → Bool} {held : Bool} {fuel : Nat} {v : Value} {x : DataW H × List MemPlace} (ht : DataW.trod enc Try.prog w base spare held fuel 24 [v] = some x) (hb : Rows.uptoBulk x.1 ≤ 1048576) : ∃ (q : Sl) (l : List Wd), v = q.v ∧ SeesW w q.A q.n q.cap l ∧ (∀ y ∈ l, ∀ x ∈ Wd.ns y, Wide x) ∧ l.length ≤ 1048576 := by
  obtain ⟨A, n, c, rfl, _⟩ := is_slice Try.underlying24 ht
  obtain ⟨l, hl, hw, hn⟩ := slice_in (α := Wd) (G := fun y => ∀ x ∈ Wd.ns y, Wide x) (f := Wd.cs) (k := 3) Wd.len (by omega) Try.underlying24 cellsOf35 (fun {fuel cs x} h1 h2 h3 => by
    obtain ⟨v0, v1, v2, rfl⟩ := list3 h1
    obtain ⟨y, e, hy⟩ := w3_in h2 h3
    exact ⟨y, e, hy⟩) ht hb
  exact ⟨⟨A, n, c⟩, l, rfl, hl, hw, by rw [SeesW.len hl]; exact hn⟩
theorem bags_in {H : Type} {enc : TypeId × Value → H} {w : World} {base : Nat} {spare : Nat → Bool} {held : Bool} {fuel : Nat} {v : Value} {x : DataW H × List MemPlace} (ht : DataW.trod enc Try.prog w base spare held fuel 39 [v] = some x) (hb : Rows.uptoBulk x.1 ≤ 1048576) : ∃ (q : Sl) (l : List Bg), v = q.v ∧ SeesB w q.A q.n q.cap l ∧ (∀ y ∈ l, ∀ x ∈ Bg.ns y, Wide x) ∧ l.length ≤ 1048576 := by
  obtain ⟨A, n, c, rfl, _⟩ := is_slice Try.underlying39 ht
  obtain ⟨l, hl, hw, hn⟩ := slice_in (α := Bg) (G := fun y => ∀ x ∈ Bg.ns y, Wide x) (f := Bg.cs) (k := 3) Bg.len (by omega) Try.underlying39 cellsOf62 (fun {fuel cs x} h1 h2 h3 => by
    obtain ⟨v0, v1, v2, rfl⟩ := list3 h1
    obtain ⟨y, e, hy⟩ := b3_in h2 h3
    exact ⟨y, e, hy⟩) ht hb
  exact ⟨⟨A, n, c⟩, l, rfl, hl, hw, by rw [SeesB.len hl]; exact hn⟩
theorem cells_in {H : Type} {enc : TypeId × Value → H} {w : World} {base : Nat} {spare : Nat → Bool} {held : Bool} {fuel : Nat} {v : Value} {x : DataW H × List MemPlace} (ht : DataW.trod enc Try.prog w base spare held fuel 25 [v] = some x) (hb : Rows.uptoBulk x.1 ≤ 1048576) : ∃ (q : Sl) (l : List Cel), v = q.v ∧ SeesC w q.A q.n q.cap l ∧ (∀ y ∈ l, ∀ x ∈ Cel.ns y, Wide x) ∧ l.length ≤ 1048576 := by
  obtain ⟨A, n, c, rfl, _⟩ := is_slice Try.underlying25 ht
  obtain ⟨l, hl, hw, hn⟩ := slice_in (α := Cel) (G := fun y => ∀ x ∈ Cel.ns y, Wide x) (f := Cel.cs) (k := 10) Cel.len (by omega) Try.underlying25 cellsOf72 (fun {fuel cs x} h1 h2 h3 => by
    obtain ⟨v0, v1, v2, v3, v4, v5, v6, v7, v8, v9, rfl⟩ := list10 h1
    obtain ⟨y, e, hy⟩ := c10_in h2 h3
    exact ⟨y, e, hy⟩) ht hb
  exact ⟨⟨A, n, c⟩, l, rfl, hl, hw, by rw [SeesC.len hl]; exact hn⟩
theorem ents_in {H : Type} {enc : TypeId × Value → H} {w : World} {base : Nat} {spare : Nat → Bool} {held : Bool} {fuel : Nat} {v : Value} {x : DataW H × List MemPlace} (ht : DataW.trod enc Try.prog w base spare held fuel 43 [v] = some x) (hb : Rows.uptoBulk x.1 ≤ 1048576) : ∃ (q : Sl) (l : List Ent), v = q.v ∧ SeesE w q.A q.n q.cap l ∧ (∀ y ∈ l, ∀ x ∈ Ent.ns y, Wide x) ∧ l.length ≤ 1048576 := by
  obtain ⟨A, n, c, rfl, _⟩ := is_slice Try.underlying43 ht
  obtain ⟨l, hl, hw, hn⟩ := slice_in (α := Ent) (G := fun y => ∀ x ∈ Ent.ns y, Wide x) (f := Ent.cs) (k := 8) Ent.len (by omega) Try.underlying43 cellsOf67 (fun {fuel cs x} h1 h2 h3 => by
    obtain ⟨v0, v1, v2, v3, v4, v5, v6, v7, rfl⟩ := list8 h1
    obtain ⟨y, e, hy⟩ := e8_in h2 h3
    exact ⟨y, e, hy⟩) ht hb
  exact ⟨⟨A, n, c⟩, l, rfl, hl, hw, by rw [SeesE.len hl]; exact hn⟩
set_option maxRecDepth 100000 in
theorem mi_in {H : Type} {enc : TypeId × Value → H} {w : World} {base : Nat} {spare : Nat → Bool} {held : Bool} {fuel : Nat} {v0 v1 v2 v3 : Value} {x : DataW H × List MemPlace} (ht : DataW.trod enc Try.prog w base spare held fuel 38 [v0, v1, v2, v3] = some x) (hb : Rows.uptoBulk x.1 ≤ 1048576) : ∃ (m : Mi) (z : List Int), [v0, v1, v2, v3] = m.cs ∧ SeesI w m.se.A m.se.n m.se.cap z ∧ Wide m.k ∧ Wide m.i ∧ Wide m.n ∧ (∀ x ∈ z, Wide x) ∧ z.length ≤ 1048576 := by
  obtain ⟨ys, k, _, rfl, _, hyl, hat⟩ := DataW.trod_struct Try.underlying38 ht
  match ys, hyl with
  | [y0, y1, y2, y3], _ =>
    have g0 : DataW.trod enc Try.prog w base spare held k 3 (([v0, v1, v2, v3].drop 0).take (Try.prog.cellsOf 3)) = some y0 := hat 0 _ rfl
    rw [cellsOf3] at g0
    have f0 : DataW.trod enc Try.prog w base spare held k 3 [v0] = some y0 := g0
    have p0 : Rows.uptoBulk y0.1 ≤ 1048576 := agg_part (by simp) hb
    clear g0
    have g1 : DataW.trod enc Try.prog w base spare held k 3 (([v0, v1, v2, v3].drop 1).take (Try.prog.cellsOf 3)) = some y1 := hat 1 _ rfl
    rw [cellsOf3] at g1
    have f1 : DataW.trod enc Try.prog w base spare held k 3 [v1] = some y1 := g1
    have p1 : Rows.uptoBulk y1.1 ≤ 1048576 := agg_part (by simp) hb
    clear g1
    have g2 : DataW.trod enc Try.prog w base spare held k 2 (([v0, v1, v2, v3].drop 2).take (Try.prog.cellsOf 2)) = some y2 := hat 2 _ rfl
    rw [cellsOf2] at g2
    have f2 : DataW.trod enc Try.prog w base spare held k 2 [v2] = some y2 := g2
    have p2 : Rows.uptoBulk y2.1 ≤ 1048576 := agg_part (by simp) hb
    clear g2
    have g3 : DataW.trod enc Try.prog w base spare held k 27 (([v0, v1, v2, v3].drop 3).take (Try.prog.cellsOf 27)) = some y3 := hat 3 _ rfl
    rw [cellsOf27] at g3
    have f3 : DataW.trod enc Try.prog w base spare held k 27 [v3] = some y3 := g3
    have p3 : Rows.uptoBulk y3.1 ≤ 1048576 := agg_part (by simp) hb
    clear g3
    clear hat hb ht
    obtain ⟨z0, rfl, w0⟩ := one_in Try.underlying3 f0
    obtain ⟨z1, rfl, w1⟩ := one_in Try.underlying3 f1
    obtain ⟨z2, rfl, w2⟩ := one_in Try.underlying2 f2
    obtain ⟨q, z, rfl, hz, wz, lz⟩ := nums_in f3 p3
    exact ⟨⟨z0, z1, z2, q⟩, z, rfl, hz, w0, w1, w2, wz, lz⟩
set_option maxRecDepth 100000 in
theorem th_in {H : Type} {enc : TypeId × Value → H} {w : World} {base : Nat} {spare : Nat → Bool} {held : Bool} {fuel : Nat} {v0 v1 v2 v3 v4 v5 v6 v7 v8 v9 v10 v11 v12 v13 v14 v15 v16 v17 v18 v19 v20 v21 : Value} {x : DataW H × List MemPlace} (ht : DataW.trod enc Try.prog w base spare held fuel 41 [v0, v1, v2, v3, v4, v5, v6, v7, v8, v9, v10, v11, v12, v13, v14, v15, v16, v17, v18, v19, v20, v21] = some x) (hb : Rows.uptoBulk x.1 ≤ 1048576) : ∃ t : Tc, [v0, v1, v2, v3, v4, v5, v6, v7, v8, v9, v10, v11, v12, v13, v14, v15, v16, v17, v18, v19, v20, v21] = t.x.cs ∧ Reads w t.x t.z t.l t.s ∧ (∀ x ∈ t.all, Wide x) ∧ TOk t := by
  obtain ⟨ys, k, _, rfl, _, hyl, hat⟩ := DataW.trod_struct Try.underlying41 ht
  match ys, hyl with
  | [y0, y1, y2, y3, y4, y5, y6, y7], _ =>
    have g0 : DataW.trod enc Try.prog w base spare held k 3 (([v0, v1, v2, v3, v4, v5, v6, v7, v8, v9, v10, v11, v12, v13, v14, v15, v16, v17, v18, v19, v20, v21].drop 0).take (Try.prog.cellsOf 3)) = some y0 := hat 0 _ rfl
    rw [cellsOf3] at g0
    have f0 : DataW.trod enc Try.prog w base spare held k 3 [v0] = some y0 := g0
    have p0 : Rows.uptoBulk y0.1 ≤ 1048576 := agg_part (by simp) hb
    clear g0
    have g1 : DataW.trod enc Try.prog w base spare held k 3 (([v0, v1, v2, v3, v4, v5, v6, v7, v8, v9, v10, v11, v12, v13, v14, v15, v16, v17, v18, v19, v20, v21].drop 1).take (Try.prog.cellsOf 3)) = some y1 := hat 1 _ rfl
    rw [cellsOf3] at g1
    have f1 : DataW.trod enc Try.prog w base spare held k 3 [v1] = some y1 := g1
    have p1 : Rows.uptoBulk y1.1 ≤ 1048576 := agg_part (by simp) hb
    clear g1
    have g2 : DataW.trod enc Try.prog w base spare held k 3 (([v0, v1, v2, v3, v4, v5, v6, v7, v8, v9, v10, v11, v12, v13, v14, v15, v16, v17, v18, v19, v20, v21].drop 2).take (Try.prog.cellsOf 3)) = some y2 := hat 2 _ rfl
    rw [cellsOf3] at g2
    have f2 : DataW.trod enc Try.prog w base spare held k 3 [v2] = some y2 := g2
    have p2 : Rows.uptoBulk y2.1 ≤ 1048576 := agg_part (by simp) hb
    clear g2
    have g3 : DataW.trod enc Try.prog w base spare held k 36 (([v0, v1, v2, v3, v4, v5, v6, v7, v8, v9, v10, v11, v12, v13, v14, v15, v16, v17, v18, v19, v20, v21].drop 3).take (Try.prog.cellsOf 36)) = some y3 := hat 3 _ rfl
    rw [cellsOf36] at g3
    have f3 : DataW.trod enc Try.prog w base spare held k 36 [v3, v4, v5, v6, v7, v8, v9, v10, v11, v12, v13, v14] = some y3 := g3
    have p3 : Rows.uptoBulk y3.1 ≤ 1048576 := agg_part (by simp) hb
    clear g3
    have g4 : DataW.trod enc Try.prog w base spare held k 38 (([v0, v1, v2, v3, v4, v5, v6, v7, v8, v9, v10, v11, v12, v13, v14, v15, v16, v17, v18, v19, v20, v21].drop 15).take (Try.prog.cellsOf 38)) = some y4 := hat 4 _ rfl
    rw [cellsOf38] at g4
    have f4 : DataW.trod enc Try.prog w base spare held k 38 [v15, v16, v17, v18] = some y4 := g4
    have p4 : Rows.uptoBulk y4.1 ≤ 1048576 := agg_part (by simp) hb
    clear g4
    have g5 : DataW.trod enc Try.prog w base spare held k 39 (([v0, v1, v2, v3, v4, v5, v6, v7, v8, v9, v10, v11, v12, v13, v14, v15, v16, v17, v18, v19, v20, v21].drop 19).take (Try.prog.cellsOf 39)) = some y5 := hat 5 _ rfl
    rw [cellsOf39] at g5
    have f5 : DataW.trod enc Try.prog w base spare held k 39 [v19] = some y5 := g5
    have p5 : Rows.uptoBulk y5.1 ≤ 1048576 := agg_part (by simp) hb
    clear g5
    have g6 : DataW.trod enc Try.prog w base spare held k 27 (([v0, v1, v2, v3, v4, v5, v6, v7, v8, v9, v10, v11, v12, v13, v14, v15, v16, v17, v18, v19, v20, v21].drop 20).take (Try.prog.cellsOf 27)) = some y6 := hat 6 _ rfl
    rw [cellsOf27] at g6
    have f6 : DataW.trod enc Try.prog w base spare held k 27 [v20] = some y6 := g6
    have p6 : Rows.uptoBulk y6.1 ≤ 1048576 := agg_part (by simp) hb
    clear g6
    have g7 : DataW.trod enc Try.prog w base spare held k 3 (([v0, v1, v2, v3, v4, v5, v6, v7, v8, v9, v10, v11, v12, v13, v14, v15, v16, v17, v18, v19, v20, v21].drop 21).take (Try.prog.cellsOf 3)) = some y7 := hat 7 _ rfl
    rw [cellsOf3] at g7
    have f7 : DataW.trod enc Try.prog w base spare held k 3 [v21] = some y7 := g7
    have p7 : Rows.uptoBulk y7.1 ≤ 1048576 := agg_part (by simp) hb
    clear g7
    clear hat hb ht
    obtain ⟨z0, rfl, w0⟩ := one_in Try.underlying3 f0
    obtain ⟨z1, rfl, w1⟩ := one_in Try.underlying3 f1
    obtain ⟨z2, rfl, w2⟩ := one_in Try.underlying3 f2
    obtain ⟨u0, u1, u2, u3, eR, hR⟩ := rg_in f3 p3
    obtain ⟨m, z, eM, hz, k0, k1, k2, wz, lz⟩ := mi_in f4 p4
    obtain ⟨q, l, rfl, hl, wl, ll⟩ := bags_in f5 p5
    obtain ⟨q', s, rfl, hs, ws, ls⟩ := nums_in f6 p6
    obtain ⟨z7, rfl, w7⟩ := one_in Try.underlying3 f7
    simp only [Wd.cs, List.cons_append, List.nil_append, List.cons.injEq, and_true] at eR
    obtain ⟨rfl, rfl, rfl, rfl, rfl, rfl, rfl, rfl, rfl, rfl, rfl, rfl⟩ := eR
    simp only [Mi.cs, List.cons.injEq, and_true] at eM
    obtain ⟨rfl, rfl, rfl, rfl⟩ := eM
    refine ⟨⟨⟨z0, z1, z2, u0.n, u0.c, u0.g, u1.n, u1.c, u1.g, u2.n, u2.c, u2.g, u3.n, u3.c, u3.g, m.k, m.i, m.n, m.se, q, q', z7⟩, z, l, s⟩, rfl, ⟨hz, hl, hs⟩, ?_, lz, ll, ls⟩
    simp only [Wd.ns, List.cons_append, List.nil_append, List.mem_cons, List.not_mem_nil, or_false, forall_eq_or_imp, forall_eq] at hR
    obtain ⟨a0, a1, a2, a3, a4, a5, a6, a7, a8, a9, a10, a11⟩ := hR
    refine app_wide ?_ (app_wide wz (app_wide (fun x hx => ?_) (app_wide ws (fun x hx => by rw [List.mem_singleton.1 hx]; exact w7))))
    · intro x hx
      simp only [Th.key, List.mem_cons, List.not_mem_nil, or_false] at hx
      rcases hx with rfl | rfl | rfl | rfl | rfl | rfl | rfl | rfl | rfl | rfl | rfl | rfl | rfl | rfl | rfl | rfl | rfl | rfl <;> assumption
    · obtain ⟨y, hy, hx⟩ := List.mem_flatMap.1 hx
      exact wl y hy x hx
theorem threads_in {H : Type} {enc : TypeId × Value → H} {w : World} {base : Nat} {spare : Nat → Bool} {held : Bool} {fuel : Nat} {v : Value} {x : DataW H × List MemPlace} (ht : DataW.trod enc Try.prog w base spare held fuel 22 [v] = some x) (hb : Rows.uptoBulk x.1 ≤ 1048576) : ∃ (q : Sl) (l : List Tc), v = q.v ∧ SeesT w q.A q.n q.cap l ∧ (∀ t ∈ l, ∀ x ∈ t.all, Wide x) ∧ ∀ t ∈ l, TOk t := by
  obtain ⟨A, n, c, rfl, _⟩ := is_slice Try.underlying22 ht
  obtain ⟨l, hl, hw, hn⟩ := slice_in (α := Tc) (G := fun t => Reads w t.x t.z t.l t.s ∧ (∀ x ∈ t.all, Wide x) ∧ TOk t) (f := fun t => t.x.cs) (k := 22) (fun t => Th.len t.x) (by omega) Try.underlying22 cellsOf41 (fun {fuel cs x} h1 h2 h3 => by
    obtain ⟨v0, v1, v2, v3, v4, v5, v6, v7, v8, v9, v10, v11, v12, v13, v14, v15, v16, v17, v18, v19, v20, v21, rfl⟩ := list22 h1
    obtain ⟨t, e, h⟩ := th_in h2 h3
    exact ⟨t, e, h⟩) ht hb
  exact ⟨⟨A, n, c⟩, l, rfl, ⟨hl, fun t ht => (hw t ht).1⟩, fun t ht => (hw t ht).2.1, fun t ht => (hw t ht).2.2⟩
theorem bufs_in {H : Type} {enc : TypeId × Value → H} {w : World} {base : Nat} {spare : Nat → Bool} {held : Bool} {fuel : Nat} {v : Value} {x : DataW H × List MemPlace} (ht : DataW.trod enc Try.prog w base spare held fuel 23 [v] = some x) (hb : Rows.uptoBulk x.1 ≤ 1048576) : ∃ (q : Sl) (l : List Bu), v = q.v ∧ SeesL w q.A q.n q.cap l ∧ (∀ b ∈ l, ∀ e ∈ b.2, ∀ x ∈ e.ns, Wide x) ∧ ∀ b ∈ l, b.2.length ≤ 1048576 := by
  obtain ⟨A, n, c, rfl, _⟩ := is_slice Try.underlying23 ht
  obtain ⟨l, hl, hw, hn⟩ := slice_in (α := Bu) (G := fun b => SeesE w b.1.A b.1.n b.1.cap b.2 ∧ (∀ e ∈ b.2, ∀ x ∈ e.ns, Wide x) ∧ b.2.length ≤ 1048576) (f := fun b => [b.1.v]) (k := 1) (fun _ => rfl) (by omega) Try.underlying23 cellsOf43 (fun {fuel cs x} h1 h2 h3 => by
    match cs, h1 with
    | [v0], _ =>
      obtain ⟨q, l, rfl, h⟩ := ents_in h2 h3
      exact ⟨(q, l), rfl, h⟩) ht hb
  exact ⟨⟨A, n, c⟩, l, rfl, ⟨hl, fun t ht => (hw t ht).1⟩, fun t ht => (hw t ht).2.1, fun t ht => (hw t ht).2.2⟩
set_option maxRecDepth 100000 in
theorem st_in {H : Type} {enc : TypeId × Value → H} {w : World} {base : Nat} {spare : Nat → Bool} {held : Bool} {fuel : Nat} {v0 v1 v2 v3 v4 v5 v6 v7 v8 : Value} {x : DataW H × List MemPlace} (ht : DataW.trod enc Try.prog w base spare held fuel 29 [v0, v1, v2, v3, v4, v5, v6, v7, v8] = some x) (hb : Rows.uptoBulk x.1 ≤ 1048576) : ∃ (s : St) (c : Sc) (bl : List Bu), [v0, v1, v2, v3, v4, v5, v6, v7, v8] = s.cs ∧ Stat w s c bl ∧ WideS c bl ∧ Caps c bl := by
  obtain ⟨ys, k, _, rfl, _, hyl, hat⟩ := DataW.trod_struct Try.underlying29 ht
  match ys, hyl with
  | [y0, y1, y2, y3, y4, y5, y6, y7, y8], _ =>
    have g0 : DataW.trod enc Try.prog w base spare held k 22 (([v0, v1, v2, v3, v4, v5, v6, v7, v8].drop 0).take (Try.prog.cellsOf 22)) = some y0 := hat 0 _ rfl
    rw [cellsOf22] at g0
    have f0 : DataW.trod enc Try.prog w base spare held k 22 [v0] = some y0 := g0
    have p0 : Rows.uptoBulk y0.1 ≤ 1048576 := agg_part (by simp) hb
    clear g0
    have g1 : DataW.trod enc Try.prog w base spare held k 23 (([v0, v1, v2, v3, v4, v5, v6, v7, v8].drop 1).take (Try.prog.cellsOf 23)) = some y1 := hat 1 _ rfl
    rw [cellsOf23] at g1
    have f1 : DataW.trod enc Try.prog w base spare held k 23 [v1] = some y1 := g1
    have p1 : Rows.uptoBulk y1.1 ≤ 1048576 := agg_part (by simp) hb
    clear g1
    have g2 : DataW.trod enc Try.prog w base spare held k 24 (([v0, v1, v2, v3, v4, v5, v6, v7, v8].drop 2).take (Try.prog.cellsOf 24)) = some y2 := hat 2 _ rfl
    rw [cellsOf24] at g2
    have f2 : DataW.trod enc Try.prog w base spare held k 24 [v2] = some y2 := g2
    have p2 : Rows.uptoBulk y2.1 ≤ 1048576 := agg_part (by simp) hb
    clear g2
    have g3 : DataW.trod enc Try.prog w base spare held k 24 (([v0, v1, v2, v3, v4, v5, v6, v7, v8].drop 3).take (Try.prog.cellsOf 24)) = some y3 := hat 3 _ rfl
    rw [cellsOf24] at g3
    have f3 : DataW.trod enc Try.prog w base spare held k 24 [v3] = some y3 := g3
    have p3 : Rows.uptoBulk y3.1 ≤ 1048576 := agg_part (by simp) hb
    clear g3
    have g4 : DataW.trod enc Try.prog w base spare held k 25 (([v0, v1, v2, v3, v4, v5, v6, v7, v8].drop 4).take (Try.prog.cellsOf 25)) = some y4 := hat 4 _ rfl
    rw [cellsOf25] at g4
    have f4 : DataW.trod enc Try.prog w base spare held k 25 [v4] = some y4 := g4
    have p4 : Rows.uptoBulk y4.1 ≤ 1048576 := agg_part (by simp) hb
    clear g4
    have g5 : DataW.trod enc Try.prog w base spare held k 26 (([v0, v1, v2, v3, v4, v5, v6, v7, v8].drop 5).take (Try.prog.cellsOf 26)) = some y5 := hat 5 _ rfl
    rw [cellsOf26] at g5
    have f5 : DataW.trod enc Try.prog w base spare held k 26 [v5] = some y5 := g5
    have p5 : Rows.uptoBulk y5.1 ≤ 1048576 := agg_part (by simp) hb
    clear g5
    have g6 : DataW.trod enc Try.prog w base spare held k 2 (([v0, v1, v2, v3, v4, v5, v6, v7, v8].drop 6).take (Try.prog.cellsOf 2)) = some y6 := hat 6 _ rfl
    rw [cellsOf2] at g6
    have f6 : DataW.trod enc Try.prog w base spare held k 2 [v6] = some y6 := g6
    have p6 : Rows.uptoBulk y6.1 ≤ 1048576 := agg_part (by simp) hb
    clear g6
    have g7 : DataW.trod enc Try.prog w base spare held k 27 (([v0, v1, v2, v3, v4, v5, v6, v7, v8].drop 7).take (Try.prog.cellsOf 27)) = some y7 := hat 7 _ rfl
    rw [cellsOf27] at g7
    have f7 : DataW.trod enc Try.prog w base spare held k 27 [v7] = some y7 := g7
    have p7 : Rows.uptoBulk y7.1 ≤ 1048576 := agg_part (by simp) hb
    clear g7
    have g8 : DataW.trod enc Try.prog w base spare held k 27 (([v0, v1, v2, v3, v4, v5, v6, v7, v8].drop 8).take (Try.prog.cellsOf 27)) = some y8 := hat 8 _ rfl
    rw [cellsOf27] at g8
    have f8 : DataW.trod enc Try.prog w base spare held k 27 [v8] = some y8 := g8
    have p8 : Rows.uptoBulk y8.1 ≤ 1048576 := agg_part (by simp) hb
    clear g8
    clear hat hb ht
    obtain ⟨q0, th, rfl, h0, w0, c0⟩ := threads_in f0 p0
    obtain ⟨q1, bl, rfl, h1, w1, c1⟩ := bufs_in f1 p1
    obtain ⟨q2, ro, rfl, h2, w2, _⟩ := words_in f2 p2
    obtain ⟨q3, sl, rfl, h3, w3, _⟩ := words_in f3 p3
    obtain ⟨q4, ce, rfl, h4, w4, _⟩ := cells_in f4 p4
    obtain ⟨q5, fr, rfl, h5, w5, _⟩ := ints_in f5 p5
    obtain ⟨ep, rfl, w6⟩ := one_in Try.underlying2 f6
    obtain ⟨q7, ma, rfl, h7, w7, c7⟩ := nums_in f7 p7
    obtain ⟨q8, co, rfl, h8, w8, c8⟩ := nums_in f8 p8
    exact ⟨⟨q0, q1, q2, q3, q4, q5, ep, q7, q8⟩, ⟨th, bl.map Prod.snd, ro, sl, ce, fr, ep, ma, co⟩, bl, rfl, ⟨h0, h1, rfl, ⟨h2, h3, h4, h5, rfl, h7, h8⟩⟩, ⟨w0, w1, w2, w3, w4, w5, w6, w7, w8⟩, ⟨c0, c1, c7, c8⟩⟩
set_option maxRecDepth 100000 in
theorem state_in {H : Type} {enc : TypeId × Value → H} {w : World} {r : Reach} {b0 base : Nat} {spare : Nat → Bool} {held : Bool} {v : Value} {d : DataW H} {p : List MemPlace}
    (hv : Value.okWide Try.prog w r b0 29 v) (h : DataW.Trod enc Try.prog w base spare held 29 v d p) (hb : Rows.uptoBulk d ≤ 1048576) : ∃ (s : St) (c : Sc) (bl : List Bu), v = .agg s.cs.toArray ∧ Stat w s c bl ∧ WideS c bl ∧ Caps c bl := by
  obtain ⟨cs, rfl, hsz⟩ := okWide_struct Try.underlying29 hv
  obtain ⟨fuel, hf⟩ := h
  obtain ⟨v0, v1, v2, v3, v4, v5, v6, v7, v8, hl⟩ := list9 (l := cs.toList) (by simpa using hsz.trans cellsOf29)
  obtain rfl : cs = #[v0, v1, v2, v3, v4, v5, v6, v7, v8] := by apply Array.ext'; exact hl
  obtain ⟨s, c, bl, e, h1, h2, h3⟩ := st_in hf hb
  exact ⟨s, c, bl, by rw [← e], h1, h2, h3⟩
theorem cellsOf5 : Try.prog.cellsOf 5 = 1 := by kernel_rfl
theorem oct_in {w : World} {a : Option Addr} {len cap : Nat} {zs : List Int} (h : (a = none ∧ len = 0 ∧ cap = 0 ∧ zs = []) ∨
    ∃ x, a = some x ∧ len ≤ cap ∧ cap ≤ maxLen ∧ zs.length = cap ∧ (∀ i, i < zs.length → w.cell? (x.add i) = some (.int .u8 (zs.getD i 0))) ∧ ∀ n ∈ zs, (Lit.int .u8 n).wf = true) :
    Oct w w.heap.size a len cap (zs.take len) := by
  rcases h with ⟨rfl, rfl, rfl, rfl⟩ | ⟨x, rfl, hl, hm, hz, hc, hw⟩
  · exact Oct.nil _ _
  · refine ⟨by rw [List.length_take]; omega, hl, hm, fun h => (by cases h), ?_, fun ad ha i hi => ?_⟩
    · intro n hn
      have := (Lit.wf_int_iff .u8 n).1 (hw n (List.mem_of_mem_take hn))
      exact ⟨this.1, this.2⟩
    · injection ha with ha
      subst ha
      have hci := hc i (by omega)
      refine ⟨by have := World.block_lt_of_cell? w _ hci; rwa [add_block] at this, ?_⟩
      rw [hci]
      simp [List.getD, hi]
/-- A slice of octets that came in. -/
theorem octs_in {H : Type} {enc : TypeId × Value → H} {w : World} {base : Nat} {held : Bool} {a : Option Addr} {len cap : Nat} {d : DataW H} {p : List MemPlace}
    (h : DataW.Trod enc Try.prog w base (fun _ => true) held 32 (.slice a len cap) d p) : ∃ xs, Oct w w.heap.size a len cap xs := by
  obtain ⟨fuel, hf⟩ := h
  rcases open_ints Try.underlying32 Try.underlying5 cellsOf5 hf with ⟨hcs, _⟩ | ⟨x, l, c, zs, hcs, _, hl, hm, hz, _, hcell, hwz⟩
  · simp [Value.cells] at hcs
    obtain ⟨rfl, rfl, rfl⟩ := hcs
    exact ⟨_, oct_in (.inl ⟨rfl, rfl, rfl, rfl⟩)⟩
  · simp [Value.cells] at hcs
    obtain ⟨rfl, rfl, rfl⟩ := hcs
    exact ⟨_, oct_in (zs := zs) (.inr ⟨_, rfl, hl, hm, by simpa using hz, hcell, hwz⟩)⟩
end Go.Proofs.Ytfmkmmmaoiepmaa
