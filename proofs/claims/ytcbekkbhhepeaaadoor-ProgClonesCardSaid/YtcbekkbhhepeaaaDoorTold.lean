/- What a program's octets tell: sound, whole, and no start of them tells a program. Conditions: none. -/
import Derived.Test.YtcbekkbhhepeaaaDoorLow
namespace Go.Proofs.YtcbekkbhhepeaaaDoor
open Go.RowKit

/-! ### errors are not zero -/
theorem thrs_nz {xs : List Int} {r s : Int} {err : Int × Nat} : ∀ {t a : Nat}, thrs xs r s t a = .error err → err.1 ≠ 0
  | 0, a, h => by rw [thrs] at h; cases h
  | t + 1, a, h => by
    rw [thrs] at h
    split at h
    · rename_i e he
      injection h with h
      exact h ▸ thrP_nz he
    · split at h
      · rename_i e he
        injection h with h
        exact h ▸ thrs_nz he
      · cases h
theorem bodyP_nz {xs : List Int} {r c s n : Int} {err : Int × Nat} (h : bodyP xs r c s n = .error err) : err.1 ≠ 0 := by
  unfold bodyP at h
  split at h
  · rename_i e he
    injection h with h
    exact h ▸ thrs_nz he
  · split at h
    · injection h with h
      rw [← h]
      show (1 : Int) ≠ 0
      decide
    · cases h
theorem getP_cases (xs : List Int) : (∃ err, headP xs = .error err ∧ getP xs = .error err) ∨ ∃ r c s n, headP xs = .ok (r, c, s, n) ∧ getP xs = bodyP xs r c s n := by
  cases h : headP xs with
  | error err => exact .inl ⟨err, rfl, headP_fail h⟩
  | ok q =>
    obtain ⟨r, c, s, n⟩ := q
    exact .inr ⟨r, c, s, n, rfl, (headP_ok h).2.1⟩
theorem getP_nz {xs : List Int} {err : Int × Nat} (h : getP xs = .error err) : err.1 ≠ 0 := by
  rcases getP_cases xs with ⟨e, h1, h2⟩ | ⟨r, c, s, n, h1, h2⟩
  · rw [h2] at h
    injection h with h
    exact h ▸ headP_nz h1
  · rw [h2] at h
    exact bodyP_nz h

/-! ### the places that are read -/
theorem thrs_len {xs : List Int} {r s : Int} : ∀ {t a : Nat} {m : List (List Ins)}, thrs xs r s t a = .ok m → m.length = t
  | 0, a, m, h => by
    rw [thrs] at h
    injection h with h
    subst h
    rfl
  | t + 1, a, m, h => by
    rw [thrs] at h
    split at h
    · cases h
    · split at h
      · cases h
      · rename_i ls hls
        injection h with h
        subst h
        rw [List.length_cons, thrs_len hls]
theorem thrs_le {xs : List Int} {r s : Int} : ∀ {t a : Nat} {m : List (List Ins)}, a ≤ xs.length → thrs xs r s t a = .ok m → a + sizeM m ≤ xs.length
  | 0, a, m, ha, h => by
    rw [thrs] at h
    injection h with h
    subst h
    simpa [sizeM] using ha
  | t + 1, a, m, ha, h => by
    rw [thrs] at h
    split at h
    · cases h
    · rename_i l hl
      split at h
      · cases h
      · rename_i ls hls
        injection h with h
        subst h
        have := thrs_le (thrP_le hl) hls
        rw [sizeM]
        omega
theorem thrP_short {xs : List Int} {a : Nat} {r s : Int} {l : List Ins} (h : thrP xs a r s = .ok l) : l.length ≤ 16 := by
  unfold thrP at h
  split at h
  · cases h
  · rename_i k hk
    have := num1_in hk
    have := thrI_len h
    omega
theorem thrs_short {xs : List Int} {r s : Int} : ∀ {t a : Nat} {m : List (List Ins)}, thrs xs r s t a = .ok m → ∀ l ∈ m, l.length ≤ 16
  | 0, a, m, h => by
    rw [thrs] at h
    injection h with h
    subst h
    intro l hl
    cases hl
  | t + 1, a, m, h => by
    rw [thrs] at h
    split at h
    · cases h
    · rename_i l hl
      split at h
      · cases h
      · rename_i ls hls
        injection h with h
        subst h
        intro l' hl'
        rcases List.mem_cons.1 hl' with rfl | hl'
        · exact thrP_short hl
        · exact thrs_short hls l' hl'

/-! ### a start of the octets: where it tells, all of them tell the same -/
theorem num1_ext {xs : List Int} {k i : Nat} {lo hi why v : Int} (h : num1 (xs.take k) i lo hi why = .ok v) : num1 xs i lo hi why = .ok v := by
  obtain ⟨h1, h2, h3⟩ := num1_in h
  have hi : i < k := by
    have := (List.getElem?_eq_some_iff.1 h3).1
    rw [List.length_take] at this
    omega
  rw [List.getElem?_take_of_lt hi] at h3
  exact num1_ok h3 ⟨h1, h2⟩
theorem window_take (xs : List Int) {a n k : Nat} (h : a + n ≤ k) : ((xs.take k).drop a).take n = (xs.drop a).take n := by
  rw [List.drop_take, List.take_take, Nat.min_eq_left (by omega)]
theorem insP_ext {xs : List Int} {k a : Nat} {r s n : Int} {x : Ins} (h : insP (xs.take k) a r s n = .ok x) : insP xs a r s n = .ok x := by
  have hl := insP_le h
  rw [List.length_take] at hl
  have e : insAt (xs.take k) a = insAt xs a := by
    unfold insAt
    rw [window_take xs (by omega)]
  unfold insP at h ⊢
  rw [List.length_take, e, if_neg (by omega)] at h
  rw [if_neg (by omega)]
  exact h
theorem thrI_ext {xs : List Int} {k : Nat} {r s n : Int} : ∀ {j a : Nat} {l : List Ins}, thrI (xs.take k) r s n j a = .ok l → thrI xs r s n j a = .ok l
  | 0, a, l, h => by rw [thrI] at h ⊢; exact h
  | j + 1, a, l, h => by
    rw [thrI] at h
    split at h
    · cases h
    · rename_i x hx
      split at h
      · cases h
      · rename_i l' hl'
        rw [thrI, insP_ext hx]
        simp only
        rw [thrI_ext hl']
        exact h
theorem thrP_ext {xs : List Int} {k a : Nat} {r s : Int} {l : List Ins} (h : thrP (xs.take k) a r s = .ok l) : thrP xs a r s = .ok l := by
  unfold thrP at h
  split at h
  · cases h
  · rename_i v hv
    unfold thrP
    rw [num1_ext hv]
    exact thrI_ext h
theorem thrs_ext {xs : List Int} {k : Nat} {r s : Int} : ∀ {t a : Nat} {m : List (List Ins)}, thrs (xs.take k) r s t a = .ok m → thrs xs r s t a = .ok m
  | 0, a, m, h => by rw [thrs] at h ⊢; exact h
  | t + 1, a, m, h => by
    rw [thrs] at h
    split at h
    · cases h
    · rename_i l hl
      split at h
      · cases h
      · rename_i ls hls
        rw [thrs, thrP_ext hl]
        simp only
        rw [thrs_ext hls]
        exact h
theorem headP_ext {xs : List Int} {k : Nat} {q : Int × Int × Int × Int} (h : headP (xs.take k) = .ok q) : headP xs = .ok q := by
  cases h0 : num1 (xs.take k) 0 83 83 1 with
  | error e => rw [headP_0 h0] at h; cases h
  | ok v0 =>
  cases h1 : num1 (xs.take k) 1 0 4 3 with
  | error e => rw [headP_1 h0 h1] at h; cases h
  | ok v1 =>
  cases h2 : num1 (xs.take k) 2 0 6 3 with
  | error e => rw [headP_2 h0 h1 h2] at h; cases h
  | ok v2 =>
  cases h3 : num1 (xs.take k) 3 0 2 3 with
  | error e => rw [headP_3 h0 h1 h2 h3] at h; cases h
  | ok v3 =>
  cases h4 : num1 (xs.take k) 4 1 4 4 with
  | error e => rw [headP_4 h0 h1 h2 h3 h4] at h; cases h
  | ok v4 =>
    rw [headP_5 h0 h1 h2 h3 h4] at h
    rw [headP_5 (num1_ext h0) (num1_ext h1) (num1_ext h2) (num1_ext h3) (num1_ext h4)]
    exact h
theorem bodyP_in {xs : List Int} {r c s n : Int} {p : Pr} (h : bodyP xs r c s n = .ok p) : ∃ m, thrs xs r s n.toNat 5 = .ok m ∧ ¬ 5 + sizeM m < xs.length ∧ p = ⟨r, c, s, m⟩ := by
  unfold bodyP at h
  split at h
  · cases h
  · rename_i m hm
    split at h
    · cases h
    · rename_i hn
      injection h with h
      exact ⟨m, hm, hn, h.symm⟩
theorem getP_in {xs : List Int} {p : Pr} (h : getP xs = .ok p) : ∃ n, headP xs = .ok (p.r, p.c, p.s, n) ∧ thrs xs p.r p.s n.toNat 5 = .ok p.m ∧ 5 + sizeM p.m = xs.length := by
  rcases getP_cases xs with ⟨e, h1, h2⟩ | ⟨r, c, s, n, h1, h2⟩
  · rw [h2] at h
    cases h
  · rw [h2] at h
    obtain ⟨m, hm, hn, rfl⟩ := bodyP_in h
    have h4 := (num1_in (headP_ok h1).1).2.2
    have := (List.getElem?_eq_some_iff.1 h4).1
    have := thrs_le (by omega) hm
    exact ⟨n, h1, hm, by show 5 + sizeM m = _; omega⟩
/-- No true start of a program's octets tells a program. -/
theorem getP_cut {xs : List Int} {p : Pr} {k : Nat} (h : getP xs = .ok p) (hk : k < xs.length) : ∃ err, getP (xs.take k) = .error err := by
  cases hg : getP (xs.take k) with
  | error err => exact ⟨err, rfl⟩
  | ok q =>
    obtain ⟨n, h1, h2, h3⟩ := getP_in h
    obtain ⟨n', g1, g2, g3⟩ := getP_in hg
    have e := headP_ext g1
    rw [h1] at e
    injection e with e
    injection e with e1 e
    injection e with e2 e
    injection e with e3 e4
    have f := thrs_ext g2
    rw [← e1, ← e3, ← e4, h2] at f
    injection f with f
    rw [f] at h3
    rw [List.length_take] at g3
    omega

/-! ### the octets beyond a program's greatest length -/
theorem num1_far {xs : List Int} {k i : Nat} {lo hi why : Int} (h : i < k) : num1 (xs.take k) i lo hi why = num1 xs i lo hi why := by
  unfold num1
  rw [List.getElem?_take_of_lt h]
theorem insP_far {xs : List Int} {k a : Nat} {r s n : Int} (h : a + 12 ≤ k) (hk : k ≤ xs.length) : insP (xs.take k) a r s n = insP xs a r s n := by
  have e : insAt (xs.take k) a = insAt xs a := by
    unfold insAt
    rw [window_take xs h]
  unfold insP
  have e1 : ¬ (xs.take k).length < a + 12 := by rw [List.length_take]; omega
  have e2 : ¬ xs.length < a + 12 := by omega
  rw [if_neg e1, if_neg e2, e]
theorem thrI_far {xs : List Int} {k : Nat} {r s n : Int} (hk : k ≤ xs.length) : ∀ {j a : Nat}, a + 12 * j ≤ k → thrI (xs.take k) r s n j a = thrI xs r s n j a
  | 0, a, _ => rfl
  | j + 1, a, h => by
    rw [thrI, thrI, insP_far (by omega) hk]
    split
    · rfl
    · rw [thrI_far hk (by omega)]
theorem thrP_far {xs : List Int} {k a : Nat} {r s : Int} (hk : k ≤ xs.length) (h : a + 193 ≤ k) : thrP (xs.take k) a r s = thrP xs a r s := by
  unfold thrP
  rw [num1_far (by omega)]
  split
  · rfl
  · rename_i v hv
    have := num1_in hv
    exact thrI_far hk (by omega)
theorem thrs_far {xs : List Int} {k : Nat} {r s : Int} (hk : k ≤ xs.length) : ∀ {t a : Nat}, a + 193 * t ≤ k → thrs (xs.take k) r s t a = thrs xs r s t a
  | 0, a, _ => rfl
  | t + 1, a, h => by
    rw [thrs, thrs, thrP_far hk (by omega)]
    split
    · rfl
    · rename_i l hl
      have := thrP_short hl
      rw [thrs_far hk (by omega)]
theorem sizeM_short {m : List (List Ins)} (h : ∀ l ∈ m, l.length ≤ 16) : sizeM m ≤ 193 * m.length := sizeM_le 16 m h
theorem bodyP_far_eq {xs : List Int} {r c s n : Int} (hn : n ≤ 4) (hl : 778 ≤ xs.length) : bodyP (xs.take 778) r c s n = bodyP xs r c s n := by
  unfold bodyP
  rw [thrs_far hl (by omega)]
  split
  · rfl
  · rename_i m hm
    have h1 := sizeM_short (thrs_short hm)
    have h2 := thrs_len hm
    have h3 : 193 * m.length ≤ 772 := by omega
    rw [if_pos (by rw [List.length_take]; omega), if_pos (by omega)]
theorem getP_778 (xs : List Int) : getP (xs.take 778) = getP xs := by
  rcases Nat.lt_or_ge xs.length 778 with h | h
  · rw [List.take_of_length_le (by omega)]
  · unfold getP
    rw [num1_far (by omega), num1_far (by omega), num1_far (by omega), num1_far (by omega), num1_far (by omega)]
    split
    · rfl
    · split
      · rfl
      · split
        · rfl
        · split
          · rfl
          · split
            · rfl
            · rename_i h4
              exact bodyP_far_eq (num1_in h4).2.1 h
end Go.Proofs.YtcbekkbhhepeaaaDoor
