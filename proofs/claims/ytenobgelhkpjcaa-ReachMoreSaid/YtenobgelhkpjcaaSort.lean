/- Keys are sorted. Conditions: at most 12 keys. -/
import Derived.Test.YtenobgelhkpjcaaCmp
import Derived.Test.YtenobgelhkpjcaaSeek
namespace Go.Proofs.Ytenobgelhkpjcaa
open Go.ChangeShapes Go.WideShapes Go.RowKit Go.Sort

theorem cmpK_neg (x y : Ky) : cmpK x y < 0 ↔ x.t < y.t ∨ x.t = y.t ∧ x.p < y.p := by
  unfold cmpK orI Lib.compareInt
  repeat' split
  all_goals omega
theorem cmpK_swo : SWO (ltOf cmpK) := by
  constructor
  · intro x
    simp only [ltOf, decide_eq_false_iff_not, cmpK_neg]
    omega
  · intro x y z
    simp only [ltOf, decide_eq_true_eq, cmpK_neg]
    omega
  · intro x y z
    simp only [ltOf, decide_eq_false_iff_not, cmpK_neg]
    omega
theorem cmp_lays (g off size : Nat) (w : World) : Go.Proofs.CmpLays Try.prog 20 #[] Ky.cs 3 cmpK g off size w := fun _ _ _ _ x y => closure_any x y _
section
variable {w : World} {B g n cap : Nat} {l : List Ky}
theorem flat_same (d : Array Ky) (j : Nat) (hj : j < d.size * 3) : (flatK d.toList)[j]? = some (Sort.flatK Ky.cs 3 d)[j]! := by
  rw [get_flatK _ _ _ _ hj]
  have h1 : j / 3 < d.size := by omega
  have hx : d.toList[j / 3]? = some d[j / 3]! := by
    rw [Array.getElem?_toList, getElem!_pos d (j / 3) h1]
    exact Array.getElem?_eq_getElem h1
  have := flat_get Ky.len d.toList (j / 3) _ hx (j % 3) (by omega)
  rw [show j / 3 * 3 + j % 3 = j by omega] at this
  unfold flatK
  rw [this]
  have hm : j % 3 < (Ky.cs d[j / 3]!).length := by rw [Ky.len]; omega
  rw [List.getElem?_eq_getElem hm]
  exact congrArg some (getElem!_pos (Ky.cs d[j / 3]!) (j % 3) hm).symm
set_option maxRecDepth 100000 in
theorem sort_some (h : w.ownsRow B 41 3 (.slice (some ⟨g, 0, none⟩) n cap) n (flatK l)) (hn : n ≤ 12) :
    Calls Try.prog 19 #[.slice (some ⟨g, 0, none⟩) n cap, .func (.func 20) #[] #[]] w fun e w' => e = .returned (.tuple #[]) ∧ ∃ l', l'.Perm l ∧ (∀ (i j : Nat) (x y : Ky), i < j → l'[i]? = some x → l'[j]? = some y → ¬ (cmpK y x < 0)) ∧
      w'.ownsRow B 41 3 (.slice (some ⟨g, 0, none⟩) n cap) n (flatK l') ∧ Kept (fun k => k = g) w w' := by
  have hl : l.length = n := by
    have := h.1
    unfold flatK at this
    rw [flat_len Ky.len] at this
    omega
  have eg : ∀ args w, (callFunc 20 args).run Try.prog w = .ok (.enter 20 args) w := enters_of Try.func20 (by kernel_rfl) rfl
  rcases id h.2 with ⟨e, _⟩ | ⟨g', c, cur, e, hB, hg, h1, h2, h3, h4⟩
  · cases e
  injection e with e1 e2 e3
  injection e1 with e1
  injection e1 with e1
  subst e1 e3
  have hgl := (Array.getElem?_eq_some_iff.1 hg).1
  have hH : HoldsK Ky.cs 3 w g 0 l.toArray := by
    intro j hj
    rw [size_flatK] at hj
    have hj' : j < n * 3 := by simpa [hl] using hj
    refine ⟨?_, by simp [World.frozen?, hg]⟩
    have := h.cellAt j hj'
    rw [Nat.zero_add]
    have e := flat_same l.toArray j hj
    rw [show l.toArray.toList = l from rfl] at e
    rw [e] at this
    exact this
  have hs := Try.sort_any 3 Try.isAgg41 Try.sizeOf41 Ky.cs Ky.len Ky.one cmpK 20 #[] cmpK_swo g 0 cap l.toArray w eg (cmp_lays g 0 _ w) hH hgl (by simpa [hl] using hn)
  rw [show l.toArray.size = n by simpa using hl] at hs
  refine hs.mono ?_
  rintro e w' ⟨rfl, d', m, os, hP, hS, rfl⟩
  obtain ⟨hd, _, hp⟩ := hP
  have hd : d'.size = n := by rw [hd]; simpa using hl
  have hgw : (sortWorldK Ky.cs 3 w g 0 m d' os).heap[g]? = some (.cells (putCells id 0 (Sort.flatK Ky.cs 3 d') cur) 41 (0, 0)) := by
    unfold sortWorldK putRowK
    rw [heap_grow_old _ _ (by simpa using hgl)]
    simp [putRow, mapBlock, Sort.ahead, Array.getElem?_modify, hg, onCells]
  refine ⟨rfl, d'.toList, ?_, ?_, ⟨?_, .inr ⟨g, cap, _, rfl, hB, hgw, h1, h2, by simp [putCells, h3], ?_⟩⟩, ?_⟩
  · have e1 : (d'.extract 0 n).toList = d'.toList := by rw [← hd]; simp
    have e2 : (l.toArray.extract 0 n).toList = l := by rw [← hl]; simp
    rw [e1, e2] at hp
    exact hp
  · intro i j x y hij hx hy
    have hj : j < d'.size := by simpa using (List.getElem?_eq_some_iff.1 hy).1
    have := hS i j (Nat.zero_le _) hij (by omega)
    have ex : d'[i]! = x := by
      rw [Array.getElem?_toList] at hx
      rw [getElem!_pos d' i (by omega)]
      exact (Array.getElem?_eq_some_iff.1 hx).2
    have ey : d'[j]! = y := by
      rw [Array.getElem?_toList] at hy
      rw [getElem!_pos d' j hj]
      exact (Array.getElem?_eq_some_iff.1 hy).2
    rw [ex, ey] at this
    simpa [ltOf] using this
  · unfold flatK
    rw [flat_len Ky.len]
    simp [hd]
  · apply List.ext_getElem?
    intro j
    by_cases hj : j < n * 3
    · rw [flat_same d' j (by rw [hd]; exact hj), List.getElem?_take_of_lt hj, Array.getElem?_toList]
      have hc : j < cur.size := by rw [h3]; omega
      simp [putCells, hc, hd, hj]
    · rw [List.getElem?_take_eq_none (by omega), List.getElem?_eq_none (by unfold flatK; rw [flat_len Ky.len]; simp [hd]; omega)]
  · refine ⟨rfl, rfl, rfl, by simp [sortWorldK, putRowK], fun k hk hne => ?_⟩
    unfold sortWorldK putRowK
    rw [heap_grow_old _ _ (by simpa using hk)]
    have : g ≠ k := fun e => hne e.symm
    simp [putRow, mapBlock, Sort.ahead, Array.getElem?_modify, this]
end
end Go.Proofs.Ytenobgelhkpjcaa
