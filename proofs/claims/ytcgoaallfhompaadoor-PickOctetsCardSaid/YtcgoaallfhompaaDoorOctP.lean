/- Octets of schedules, plainly: what is got, put, is the octets; what is put is got. Conditions: as each states. -/
import Derived.Test.YtcgoaallfhompaaDoorWrongW
import Derived.Test.YtcgoaallfhompaaDoorAlive
namespace Go.Proofs.YtcgoaallfhompaaDoor
open Go.RowKit Go.ChangeShapes Go.WideShapes
set_option linter.unusedSimpArgs false
set_option linter.unusedVariables false

theorem scan_ok (xs : List Int) (p : Int) : ∀ (r i : Nat), scanP xs r i = (p, 0) → p = 2 + ((i + r : Nat) : Int) ∧ ∀ j, i ≤ j → j < i + r → 2 + j < xs.length ∧ xs.getD (2 + j) 0 ≤ 7 := by
  intro r
  induction r with
  | zero =>
    intro i h
    simp only [scanP, Prod.mk.injEq] at h
    exact ⟨by omega, fun j h1 h2 => by omega⟩
  | succ r ih =>
    intro i h
    simp only [scanP] at h
    split at h
    · simp at h
    · rename_i h1
      split at h
      · simp at h
      · rename_i h2
        obtain ⟨e, a⟩ := ih (i + 1) h
        refine ⟨by omega, fun j h3 h4 => ?_⟩
        by_cases q : j = i
        · subst q
          exact ⟨by omega, by omega⟩
        · exact a j (by omega) (by omega)
theorem scan_yes (xs : List Int) : ∀ (r i : Nat), (∀ j, i ≤ j → j < i + r → 2 + j < xs.length ∧ xs.getD (2 + j) 0 ≤ 7) → scanP xs r i = (2 + ((i + r : Nat) : Int), 0) := by
  intro r
  induction r with
  | zero => intro i h; simp [scanP]
  | succ r ih =>
    intro i h
    obtain ⟨h1, h2⟩ := h i (Nat.le_refl _) (by omega)
    simp only [scanP]
    rw [if_neg (by omega), if_neg (by omega), ih (i + 1) (fun j h3 h4 => h j (by omega) (by omega))]
    congr 2
    omega
theorem wrong_ok {xs : List Int} {p : Int} (h : wrongP xs = (p, 0)) : 2 ≤ xs.length ∧ manyP xs ≤ 4096 ∧ 2 + manyP xs ≤ xs.length ∧ p = 2 + (manyP xs : Int) ∧ ∀ j, j < manyP xs → xs.getD (2 + j) 0 ≤ 7 := by
  unfold wrongP at h
  split at h
  · simp at h
  · rename_i h1
    split at h
    · simp at h
    · rename_i h2
      obtain ⟨e, a⟩ := scan_ok xs p _ _ h
      refine ⟨by omega, by omega, ?_, by omega, fun j hj => (a j (by omega) (by omega)).2⟩
      by_cases q : manyP xs = 0
      · omega
      · have := (a (manyP xs - 1) (by omega) (by omega)).1
        omega
theorem got_fine {xs : List Int} {p : Int} (hs : Small xs) (h : wrongP xs = (p, 0)) : gotL xs = (xs.drop 2).take (manyP xs) ∧ (gotL xs).length = manyP xs ∧ Fine (gotL xs) := by
  obtain ⟨h1, h2, h3, h4, h5⟩ := wrong_ok h
  have e : gotL xs = (xs.drop 2).take (manyP xs) := by unfold gotL; rw [h, if_pos rfl]
  refine ⟨e, by rw [e, List.length_take, List.length_drop]; omega, ?_⟩
  rw [e]
  intro x hx
  obtain ⟨k, hk, rfl⟩ := List.mem_iff_getElem.1 hx
  rw [List.length_take, List.length_drop] at hk
  have hg : ((xs.drop 2).take (manyP xs))[k] = xs.getD (2 + k) 0 := by
    rw [List.getElem_take, List.getElem_drop]
    simp [List.getD, List.getElem?_eq_getElem (show 2 + k < xs.length by omega)]
  rw [hg]
  refine ⟨?_, h5 k (by omega)⟩
  have := (hs.at_ (2 + k)).1
  simpa [List.getD] using this
theorem digs_two (a b : Int) (ha : 0 ≤ a ∧ a ≤ 255) (hb : 0 ≤ b ∧ b ≤ 255) : digs (a * 256 + b) 2 = [a, b] := by
  simp only [digs, dig]
  congr 1
  · simp
    omega
  · congr 1
    simp
    omega
theorem two_of {xs : List Int} (h : 2 ≤ xs.length) : xs.take 2 = [xs.getD 0 0, xs.getD 1 0] := by
  match xs, h with
  | a :: b :: r, _ => rfl
theorem octs_got {xs : List Int} {p : Int} (hs : Small xs) (h : wrongP xs = (p, 0)) : octP (gotL xs) = xs.take (2 + manyP xs) := by
  obtain ⟨h1, h2, h3, h4, h5⟩ := wrong_ok h
  obtain ⟨e, hl, _⟩ := got_fine hs h
  unfold octP
  rw [hl, (many_in hs).1]
  have hv : vAt xs 0 2 = xs.getD 0 0 * 256 + xs.getD 1 0 := by
    unfold vAt
    rw [List.drop_zero, two_of h1]
    simp [val]
  have s0 := hs.at_ 0
  have s1 := hs.at_ 1
  rw [hv, digs_two _ _ (by simpa [List.getD] using s0) (by simpa [List.getD] using s1), ← two_of h1, e, List.take_add]
theorem put_got {l xs : List Int} (hf : Fine l) (hl : l.length ≤ 1000) (hx : Small xs) : wrongP (octP l ++ xs) = (2 + (l.length : Int), 0) ∧ gotL (octP l ++ xs) = l := by
  have hd : octP l ++ xs = digs l.length 2 ++ (l ++ xs) := by unfold octP; rw [List.append_assoc]
  have hn : (l.length : Int) = ((l.length / 256 : Nat) : Int) * 256 + ((l.length % 256 : Nat) : Int) := by omega
  have h2 : digs l.length 2 = [((l.length / 256 : Nat) : Int), ((l.length % 256 : Nat) : Int)] := by
    rw [hn]
    exact digs_two _ _ (by omega) (by omega)
  have hlen : (octP l ++ xs).length = 2 + (l.length + xs.length) := by rw [hd, List.length_append, digs_len, List.length_append]
  have hm : manyP (octP l ++ xs) = l.length := by
    unfold manyP vAt
    rw [hd, h2]
    simp [val]
    omega
  have hg : ∀ j, j < l.length → (octP l ++ xs).getD (2 + j) 0 = l.getD j 0 := by
    intro j hj
    rw [hd, h2]
    simp [List.getD, List.getElem?_append_left hj, Nat.add_comm 2 j]
  have hw : wrongP (octP l ++ xs) = (2 + (l.length : Int), 0) := by
    unfold wrongP
    rw [if_neg (by omega), hm, if_neg (by omega), scan_yes]
    · simp
    · intro j _ hj
      refine ⟨by omega, ?_⟩
      rw [hg j (by omega)]
      exact (hf _ (getD_mem l j (by omega))).2
  refine ⟨hw, ?_⟩
  unfold gotL
  rw [hw, if_pos rfl, hm, hd, List.drop_left' (digs_len _ _), List.take_left' rfl]
theorem oct_small {l : List Int} (h : Fine l) : Small (octP l) := (digs_small _ _).app (fine_small h)
end Go.Proofs.YtcgoaallfhompaaDoor
