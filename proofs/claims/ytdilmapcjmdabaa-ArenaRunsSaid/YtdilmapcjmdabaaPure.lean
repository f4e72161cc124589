/- What calls do to the cells and the row, plainly; what they keep; how they are taken back. Conditions: none. -/
import Derived.Test.YtdilmapcjmdabaaSet
namespace Go.Proofs.Ytdilmapcjmdabaa
open Go.ChangeShapes Go.WideShapes Go.RowKit

/-- The cells, and the row of the free ones. -/
structure Sta where
  C : List Cel
  R : List Int
deriving DecidableEq
/-- Which cell, what it was, what it becomes. -/
structure Mov where
  k : Int
  was : Cel
  to : Cel
deriving DecidableEq
def Sta.cel (s : Sta) (k : Int) : Option Cel := if 1 ≤ k then s.C[(k - 1).toNat]? else none
def Sta.turn (s : Sta) (m : Mov) : Sta := ⟨s.C.set (m.k - 1).toNat m.to, row1 s.R m.k m.was m.to⟩
def Sta.go (s : Sta) : Option Mov → Sta
  | none => s
  | some m => s.turn m
/-- The past: the newest first: each change, and what was there ahead of it. -/
abbrev His := List (Chg × Sta)
def His.chgs (H : His) : List Chg := (H.map (·.1)).reverse
def His.go (H : His) (s : Sta) : Option Mov → His
  | none => H
  | some m => (⟨m.k, m.was⟩, s) :: H
def freeM (s : Sta) (k : Int) : Option Mov := match s.cel k with
  | some c => if c.s = 0 then none else some ⟨k, c, ⟨0, c.g, 0, 0, noW, noW⟩⟩
  | none => none
def retM (s : Sta) (k : Int) : Option Mov := match s.cel k with
  | some c => if c.s = 1 then some ⟨k, c, { c with s := 2 }⟩ else none
  | none => none
def stoM (s : Sta) (k f : Int) (x : Wd) : Option Mov := match s.cel k with
  | some c => if f = 0 then some ⟨k, c, { c with x := x }⟩ else if f = 1 then some ⟨k, c, { c with y := x }⟩ else none
  | none => none
def allM (s : Sta) (b d : Int) : Option Mov := match s.R with
  | [] => none
  | k :: _ => match s.cel k with
    | some c => some ⟨k, c, ⟨1, wrap64 (c.g + 1), b, d, noW, noW⟩⟩
    | none => none
/-- As many cells, all free. -/
def sta0 (n : Nat) : Sta := ⟨List.replicate n noC, (List.range n).map fun (i : Nat) => ((i : Int) + 1)⟩

/-- What holds of cells and row. -/
structure Inv (s : Sta) : Prop where
  le : s.C.length ≤ 6
  nodup : s.R.Nodup
  row : ∀ k, k ∈ s.R ↔ ∃ c, s.cel k = some c ∧ c.s = 0
  st : ∀ k c, s.cel k = some c → c.s = 0 ∨ c.s = 1 ∨ c.s = 2
  num : s.R.length + s.C.countP (fun c => c.s != 0) = s.C.length
/-- A move that may be. -/
structure Can (s : Sta) (m : Mov) : Prop where
  at_ : s.cel m.k = some m.was
  st : m.to.s = 0 ∨ m.to.s = 1 ∨ m.to.s = 2
  head : m.was.s = 0 → m.to.s ≠ 0 → s.R.head? = some m.k

theorem cel_some {s : Sta} {k : Int} {c : Cel} (h : s.cel k = some c) : ∃ j : Nat, k - 1 = (j : Int) ∧ s.C[j]? = some c ∧ j < s.C.length ∧ (k - 1).toNat = j := by
  unfold Sta.cel at h
  split at h
  · exact ⟨(k - 1).toNat, by omega, h, (List.getElem?_eq_some_iff.1 h).1, rfl⟩
  · cases h
theorem cel_iff {s : Sta} {k : Int} {c : Cel} : s.cel k = some c ↔ ∃ j : Nat, k - 1 = (j : Int) ∧ s.C[j]? = some c := by
  constructor
  · intro h
    obtain ⟨j, h1, h2, _⟩ := cel_some h
    exact ⟨j, h1, h2⟩
  · rintro ⟨j, h1, h2⟩
    unfold Sta.cel
    rw [if_pos (by omega), show (k - 1).toNat = j by omega, h2]
theorem cel_none {s : Sta} {k : Int} : s.cel k = none ↔ ¬ (1 ≤ k ∧ k ≤ (s.C.length : Int)) := by
  unfold Sta.cel
  split
  · rw [List.getElem?_eq_none_iff]
    omega
  · constructor
    · intro _
      omega
    · intro _
      rfl
theorem cel_turn {s : Sta} {m : Mov} (h : s.cel m.k = some m.was) (k : Int) : (s.turn m).cel k = if k = m.k then some m.to else s.cel k := by
  obtain ⟨j, h1, h2, h3, h4⟩ := cel_some h
  unfold Sta.turn Sta.cel
  simp only
  by_cases e : k = m.k
  · subst e
    rw [if_pos (by omega), if_pos rfl, h4, List.getElem?_set_self h3]
  · rw [if_neg e]
    by_cases h5 : 1 ≤ k
    · rw [if_pos h5, if_pos h5, List.getElem?_set_ne (by omega)]
    · rw [if_neg h5, if_neg h5]
theorem turn_len (s : Sta) (m : Mov) : (s.turn m).C.length = s.C.length := by simp [Sta.turn]
theorem go_len (s : Sta) (m : Option Mov) : (s.go m).C.length = s.C.length := by cases m <;> simp [Sta.go, turn_len]

theorem Inv.turn {s : Sta} {m : Mov} (h : Inv s) (hc : Can s m) : Inv (s.turn m) := by
  obtain ⟨j, h1, h2, h3, h4⟩ := cel_some hc.at_
  have hcnt : (s.turn m).C.countP (fun c => c.s != 0) = s.C.countP (fun c => c.s != 0) - (if m.was.s != 0 then 1 else 0) + (if m.to.s != 0 then 1 else 0) := by
    unfold Sta.turn
    simp only
    rw [h4, List.countP_set h3]
    have : s.C[j] = m.was := by
      rw [List.getElem?_eq_getElem h3] at h2
      exact Option.some.inj h2
    rw [this]
  have hpos : m.was.s ≠ 0 → 1 ≤ s.C.countP (fun c => c.s != 0) := fun hw => List.countP_pos_iff.2 ⟨m.was, List.mem_of_getElem? h2, by simpa using hw⟩
  have hnum := h.num
  refine ⟨by rw [turn_len]; exact h.le, ?_, ?_, ?_, ?_⟩
  · show (row1 s.R m.k m.was m.to).Nodup
    unfold row1
    split
    · exact h.nodup.tail
    · split
      · rename_i hn
        refine List.nodup_cons.2 ⟨fun hk => ?_, h.nodup⟩
        obtain ⟨c, hc1, hc2⟩ := (h.row m.k).1 hk
        rw [hc.at_] at hc1
        cases hc1
        exact hn.1 hc2
      · exact h.nodup
  · intro k
    rw [cel_turn hc.at_]
    show k ∈ row1 s.R m.k m.was m.to ↔ _
    unfold row1
    by_cases e : k = m.k
    · subst e
      rw [if_pos rfl]
      constructor
      · intro hk
        split at hk
        · rename_i h5
          have := hc.head h5.1 h5.2
          match s.R, this, h.nodup, hk with
          | a :: r, this, hnd, hk =>
            simp at this
            subst this
            exact absurd hk (List.nodup_cons.1 hnd).1
        · rename_i h5
          split at hk
          · rename_i h6
            exact ⟨_, rfl, h6.2⟩
          · rename_i h6
            obtain ⟨c, hc1, hc2⟩ := (h.row m.k).1 hk
            rw [hc.at_] at hc1
            cases hc1
            exact ⟨_, rfl, Decidable.byContradiction fun hh => h5 ⟨hc2, hh⟩⟩
      · rintro ⟨c, hc1, hc2⟩
        cases hc1
        rw [if_neg (by simp [hc2])]
        by_cases h6 : m.was.s = 0
        · rw [if_neg (by simp [h6])]
          exact (h.row m.k).2 ⟨_, hc.at_, h6⟩
        · rw [if_pos ⟨h6, hc2⟩]
          exact List.mem_cons_self
    · rw [if_neg e, ← h.row k]
      split
      · rename_i h5
        have := hc.head h5.1 h5.2
        match s.R, this with
        | a :: r, this =>
          simp at this
          subst this
          simp [e]
      · split
        · simp [e]
        · rfl
  · intro k c hk
    rw [cel_turn hc.at_] at hk
    split at hk
    · cases hk
      exact hc.st
    · exact h.st k c hk
  · rw [hcnt, turn_len]
    show (row1 s.R m.k m.was m.to).length + _ = _
    unfold row1
    by_cases h5 : m.was.s = 0
    · by_cases h6 : m.to.s = 0
      · rw [if_neg (by simp [h6]), if_neg (by simp [h5])]
        simp [h5, h6]
        omega
      · rw [if_pos ⟨h5, h6⟩]
        have := hc.head h5 h6
        match s.R, this, hnum with
        | a :: r, this, hnum =>
          simp [h5, h6] at hnum ⊢
          omega
    · have hp := hpos h5
      by_cases h6 : m.to.s = 0
      · rw [if_neg (by simp [h5]), if_pos ⟨h5, h6⟩]
        simp [h5, h6]
        omega
      · rw [if_neg (by simp [h5]), if_neg (by simp [h6])]
        simp [h5, h6]
        omega
/-- It is taken back. -/
def Mov.back (m : Mov) : Mov := ⟨m.k, m.to, m.was⟩
theorem Can.back {s : Sta} {m : Mov} (h : Inv s) (hc : Can s m) : Can (s.turn m) m.back ∧ (s.turn m).turn m.back = s := by
  obtain ⟨j, h1, h2, h3, h4⟩ := cel_some hc.at_
  refine ⟨⟨by rw [cel_turn hc.at_]; exact if_pos rfl, h.st m.k _ hc.at_, fun h5 h6 => ?_⟩, ?_⟩
  · show (row1 s.R m.k m.was m.to).head? = some m.k
    have h5' : m.to.s = 0 := h5
    have h6' : m.was.s ≠ 0 := h6
    unfold row1
    rw [if_neg (by simp [h6']), if_pos ⟨h6', h5'⟩]
    rfl
  · unfold Sta.turn Mov.back
    simp only [List.set_set]
    have e1 : s.C.set (m.k - 1).toNat m.was = s.C := by
      rw [h4]
      apply List.ext_getElem?
      intro i
      rw [List.getElem?_set]
      split
      · rename_i e
        subst e
        exact h2.symm
      · rfl
    have e2 : row1 (row1 s.R m.k m.was m.to) m.k m.to m.was = s.R := by
      by_cases h5 : m.was.s = 0
      · by_cases h6 : m.to.s = 0
        · simp [row1, h5, h6]
        · have := hc.head h5 h6
          match hR : s.R, this with
          | a :: r, this =>
            simp at this
            subst this
            simp [row1, h5, h6]
      · by_cases h6 : m.to.s = 0 <;> simp [row1, h5, h6]
    rw [e1, e2]

theorem can_free {s : Sta} {k : Int} {m : Mov} (h : freeM s k = some m) : Can s m := by
  unfold freeM at h
  split at h
  · rename_i c hc
    split at h
    · cases h
    · rename_i h0
      cases h
      exact ⟨hc, .inl rfl, fun h1 => absurd h1 h0⟩
  · cases h
theorem can_ret {s : Sta} {k : Int} {m : Mov} (h : retM s k = some m) : Can s m := by
  unfold retM at h
  split at h
  · rename_i c hc
    split at h
    · rename_i h0
      cases h
      exact ⟨hc, .inr (.inr rfl), fun (h1 : c.s = 0) => by omega⟩
    · cases h
  · cases h
theorem can_sto {s : Sta} {k f : Int} {x : Wd} {m : Mov} (hI : Inv s) (h : stoM s k f x = some m) : Can s m := by
  unfold stoM at h
  split at h
  · rename_i c hc
    split at h
    · cases h
      exact ⟨hc, hI.st k c hc, fun h1 h2 => absurd h1 h2⟩
    · split at h
      · cases h
        exact ⟨hc, hI.st k c hc, fun h1 h2 => absurd h1 h2⟩
      · cases h
  · cases h
theorem can_all {s : Sta} {b d : Int} {m : Mov} (h : allM s b d = some m) : Can s m := by
  unfold allM at h
  split at h
  · cases h
  · rename_i k r hR
    split at h
    · rename_i c hc
      cases h
      exact ⟨hc, .inr (.inl rfl), fun _ _ => by rw [hR]; rfl⟩
    · cases h
theorem all_some {s : Sta} (hI : Inv s) (b d k : Int) (r : List Int) (h : s.R = k :: r) : ∃ c, s.cel k = some c ∧ c.s = 0 ∧ allM s b d = some ⟨k, c, ⟨1, wrap64 (c.g + 1), b, d, noW, noW⟩⟩ := by
  obtain ⟨c, h1, h2⟩ := (hI.row k).1 (by rw [h]; exact List.mem_cons_self)
  refine ⟨c, h1, h2, ?_⟩
  unfold allM
  rw [h]
  simp only [h1]
theorem Inv.lenR {s : Sta} (h : Inv s) : s.R.length ≤ 6 := by
  have := h.num
  have := h.le
  omega
theorem Inv.go {s : Sta} {m : Option Mov} (h : Inv s) (hc : ∀ x, m = some x → Can s x) : Inv (s.go m) := by
  cases m with
  | none => exact h
  | some x => exact h.turn (hc x rfl)
theorem cel0 (n : Nat) (k : Int) : (sta0 n).cel k = if 1 ≤ k ∧ k ≤ (n : Int) then some noC else none := by
  unfold Sta.cel sta0
  simp only [List.getElem?_replicate]
  by_cases h : 1 ≤ k
  · rw [if_pos h]
    by_cases h2 : k ≤ (n : Int)
    · rw [if_pos (by omega), if_pos ⟨h, h2⟩]
    · rw [if_neg (by omega), if_neg (by omega)]
  · rw [if_neg h, if_neg (by omega)]
theorem inv0 (n : Nat) (hn : n ≤ 6) : Inv (sta0 n) := by
  refine ⟨by simpa [sta0] using hn, ?_, ?_, ?_, ?_⟩
  · show ((List.range n).map fun (i : Nat) => ((i : Int) + 1)).Nodup
    rcases (by omega : n = 0 ∨ n = 1 ∨ n = 2 ∨ n = 3 ∨ n = 4 ∨ n = 5 ∨ n = 6) with rfl | rfl | rfl | rfl | rfl | rfl | rfl <;> decide
  · intro k
    rw [cel0]
    show k ∈ (List.range n).map (fun (i : Nat) => ((i : Int) + 1)) ↔ _
    rw [List.mem_map]
    constructor
    · rintro ⟨i, hi, rfl⟩
      have := List.mem_range.1 hi
      exact ⟨noC, by rw [if_pos (by omega)], rfl⟩
    · rintro ⟨c, hc, _⟩
      split at hc
      · rename_i h
        exact ⟨(k - 1).toNat, List.mem_range.2 (by omega), by omega⟩
      · cases hc
  · intro k c hc
    rw [cel0] at hc
    split at hc
    · cases hc
      exact .inl rfl
    · cases hc
  · simp [sta0, noC]
end Go.Proofs.Ytdilmapcjmdabaa
