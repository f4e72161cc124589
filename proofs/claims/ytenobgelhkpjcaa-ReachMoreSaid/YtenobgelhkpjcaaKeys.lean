/- Keys that rise, each once: sorted and struck, or put in one by one. Conditions: none. -/
import Derived.Test.YtenobgelhkpjcaaPure
namespace Go.Proofs.Ytenobgelhkpjcaa

/-- One key rises to the other. -/
def Less (a b : Ky) : Prop := a.k < b.k ∨ a.k = b.k ∧ (a.t < b.t ∨ a.t = b.t ∧ a.p < b.p)
instance (a b : Ky) : Decidable (Less a b) := by unfold Less; infer_instance
theorem Less.irrefl (a : Ky) : ¬ Less a a := by unfold Less; omega
theorem Less.trans {a b c : Ky} (h : Less a b) (h' : Less b c) : Less a c := by unfold Less at *; omega
theorem Less.total (a b : Ky) : Less a b ∨ a = b ∨ Less b a := by
  unfold Less
  by_cases h1 : a.k = b.k
  · by_cases h2 : a.t = b.t
    · by_cases h3 : a.p = b.p
      · right; left
        obtain ⟨_, _, _⟩ := a
        obtain ⟨_, _, _⟩ := b
        simp_all
      · omega
    · omega
  · omega
def Rises (l : List Ky) : Prop := l.Pairwise Less
theorem rises_eq : ∀ (l m : List Ky), Rises l → Rises m → (∀ x, x ∈ l ↔ x ∈ m) → l = m
  | [], [], _, _, _ => rfl
  | [], y :: m, _, _, h => by have := (h y).2 (by simp); cases this
  | x :: l, [], _, _, h => by have := (h x).1 (by simp); cases this
  | x :: l, y :: m, hl, hm, h => by
    obtain ⟨hl1, hl2⟩ := List.pairwise_cons.1 hl
    obtain ⟨hm1, hm2⟩ := List.pairwise_cons.1 hm
    have e : x = y := by
      rcases List.mem_cons.1 ((h x).1 (by simp)) with e | e
      · exact e
      · rcases List.mem_cons.1 ((h y).2 (by simp)) with e2 | e2
        · exact e2.symm
        · exact absurd ((hm1 x e).trans (hl1 y e2)) (Less.irrefl _)
    subst e
    congr 1
    refine rises_eq l m hl2 hm2 fun z => ?_
    constructor
    · intro hz
      rcases List.mem_cons.1 ((h z).1 (by simp [hz])) with e | e
      · subst e; exact absurd (hl1 _ hz) (Less.irrefl _)
      · exact e
    · intro hz
      rcases List.mem_cons.1 ((h z).2 (by simp [hz])) with e | e
      · subst e; exact absurd (hm1 _ hz) (Less.irrefl _)
      · exact e
/-- A key put in its place. -/
def addK (k : Ky) : List Ky → List Ky
  | [] => [k]
  | x :: r => if Less k x then k :: x :: r else if x = k then x :: r else x :: addK k r
theorem addK_mem (k : Ky) : ∀ (l : List Ky) (z : Ky), z ∈ addK k l ↔ z = k ∨ z ∈ l
  | [], z => by simp [addK]
  | x :: r, z => by
    unfold addK
    by_cases h1 : Less k x
    · rw [if_pos h1]; simp
    · rw [if_neg h1]
      by_cases h2 : x = k
      · rw [if_pos h2]; subst h2; simp
      · rw [if_neg h2, List.mem_cons, addK_mem k r z, List.mem_cons]
        constructor
        · rintro (h | h | h)
          · exact .inr (.inl h)
          · exact .inl h
          · exact .inr (.inr h)
        · rintro (h | h | h)
          · exact .inr (.inl h)
          · exact .inl h
          · exact .inr (.inr h)
theorem addK_rises (k : Ky) : ∀ (l : List Ky), Rises l → Rises (addK k l)
  | [], _ => by simp [addK, Rises]
  | x :: r, h => by
    obtain ⟨h1, h2⟩ := List.pairwise_cons.1 h
    unfold addK
    by_cases a : Less k x
    · rw [if_pos a]
      refine List.pairwise_cons.2 ⟨fun y hy => ?_, h⟩
      rcases List.mem_cons.1 hy with e | e
      · subst e; exact a
      · exact a.trans (h1 y e)
    · rw [if_neg a]
      by_cases b : x = k
      · rw [if_pos b]; exact h
      · rw [if_neg b]
        refine List.pairwise_cons.2 ⟨fun y hy => ?_, addK_rises k r h2⟩
        rcases (addK_mem k r y).1 hy with e | e
        · subst e
          rcases Less.total x y with e | e | e
          · exact e
          · exact absurd e b
          · exact absurd e a
        · exact h1 y e
theorem addK_len (k : Ky) : ∀ (l : List Ky), (addK k l).length ≤ l.length + 1
  | [] => by simp [addK]
  | x :: r => by
    have := addK_len k r
    unfold addK
    split
    · simp
    · split
      · simp
      · simp; exact this

/-- The key of a cell's leak, if it is one. -/
def keyAt (C : List Cel) (R : List Bool) (i : Nat) : Option Ky :=
  match C[i]?, R[i]? with
  | some c, some false => if c.s = 1 then some ⟨6, c.b, c.p⟩ else none
  | _, _ => none
/-- The keys of the leaks of the first so many cells. -/
def keysTo (C : List Cel) (R : List Bool) (j : Nat) : List Ky := (List.range j).filterMap (keyAt C R)
theorem keysTo_succ (C : List Cel) (R : List Bool) (j : Nat) : keysTo C R (j + 1) = keysTo C R j ++ (keyAt C R j).toList := by
  unfold keysTo
  rw [List.range_succ, List.filterMap_append]
  congr 1
theorem keysTo_len (C : List Cel) (R : List Bool) (j : Nat) : (keysTo C R j).length ≤ j := by
  have := List.length_filterMap_le (keyAt C R) (List.range j)
  simpa [keysTo] using this
theorem keysTo_kind (C : List Cel) (R : List Bool) (j : Nat) : ∀ x ∈ keysTo C R j, x.k = 6 := by
  intro x hx
  obtain ⟨i, _, hi⟩ := List.mem_filterMap.1 hx
  unfold keyAt at hi
  split at hi
  · split at hi
    · injection hi with hi; subst hi; rfl
    · cases hi
  · cases hi
/-- The leaks, one by one. -/
def leaksTo (C : List Cel) (R : List Bool) : Nat → List Ky
  | 0 => []
  | j + 1 => match keyAt C R j with
    | some k => addK k (leaksTo C R j)
    | none => leaksTo C R j
theorem leaksTo_mem (C : List Cel) (R : List Bool) : ∀ (j : Nat) (x : Ky), x ∈ leaksTo C R j ↔ x ∈ keysTo C R j
  | 0, x => by simp [leaksTo, keysTo]
  | j + 1, x => by
    rw [keysTo_succ, List.mem_append, ← leaksTo_mem C R j x, leaksTo]
    cases keyAt C R j with
    | none => simp
    | some k =>
      simp only [Option.toList_some, List.mem_singleton]
      rw [addK_mem]
      exact Or.comm
theorem leaksTo_rises (C : List Cel) (R : List Bool) : ∀ j, Rises (leaksTo C R j)
  | 0 => List.Pairwise.nil
  | j + 1 => by
    rw [leaksTo]
    cases keyAt C R j with
    | none => exact leaksTo_rises C R j
    | some k => exact addK_rises k _ (leaksTo_rises C R j)
theorem leaksTo_len (C : List Cel) (R : List Bool) : ∀ j, (leaksTo C R j).length ≤ j
  | 0 => Nat.le_refl _
  | j + 1 => by
    have := leaksTo_len C R j
    rw [leaksTo]
    cases keyAt C R j with
    | none => exact Nat.le_succ_of_le this
    | some k => exact Nat.le_trans (addK_len k _) (by omega)

/-! ### equals struck out -/
/-- The first j, of equals that stand side by side the first alone. -/
def dedTo (l : List Ky) (j : Nat) : List Ky := (List.range j).filterMap fun i => if i = 0 ∨ l[i]? ≠ l[i - 1]? then l[i]? else none
theorem dedTo_succ (l : List Ky) (j : Nat) : dedTo l (j + 1) = dedTo l j ++ (if j = 0 ∨ l[j]? ≠ l[j - 1]? then l[j]? else none).toList := by
  unfold dedTo
  rw [List.range_succ, List.filterMap_append]
  congr 1
theorem dedTo_len (l : List Ky) (j : Nat) : (dedTo l j).length ≤ j := by
  have := List.length_filterMap_le (fun i => if i = 0 ∨ l[i]? ≠ l[i - 1]? then l[i]? else none) (List.range j)
  simpa [dedTo] using this
theorem dedTo_in (l : List Ky) (j : Nat) (x : Ky) (h : x ∈ dedTo l j) : ∃ i, i < j ∧ l[i]? = some x := by
  obtain ⟨i, hi, e⟩ := List.mem_filterMap.1 h
  have hi : i < j := by simpa using hi
  split at e
  · exact ⟨i, hi, e⟩
  · cases e
theorem dedTo_all (l : List Ky) (j : Nat) : ∀ (i : Nat) (x : Ky), i < j → l[i]? = some x → x ∈ dedTo l j
  | 0, x, hi, h => List.mem_filterMap.2 ⟨0, by simp; omega, by rw [if_pos (.inl rfl)]; exact h⟩
  | i + 1, x, hi, h => by
    by_cases e : l[i]? = some x
    · exact dedTo_all l j i x (by omega) e
    · refine List.mem_filterMap.2 ⟨i + 1, by simp; omega, ?_⟩
      rw [if_pos (.inr (by rw [h]; exact fun h' => e h'.symm))]
      exact h
theorem dedTo_same (l : List Ky) : ∀ j, j ≤ l.length → (∀ i, 0 < i → i < j → l[i]? ≠ l[i - 1]?) → dedTo l j = l.take j
  | 0, _, _ => by simp [dedTo]
  | j + 1, hj, h => by
    rw [dedTo_succ, dedTo_same l j (by omega) (fun i h1 h2 => h i h1 (by omega)), List.take_add_one, if_pos]
    by_cases e : j = 0
    · exact .inl e
    · exact .inr (h j (by omega) (by omega))
/-- Of a list that doesn't fall: it rises. -/
theorem dedTo_rises (l : List Ky) (hs : ∀ (i j : Nat) (x y : Ky), i < j → l[i]? = some x → l[j]? = some y → ¬ Less y x) : ∀ j, j ≤ l.length → Rises (dedTo l j)
  | 0, _ => by simp [dedTo, Rises]
  | j + 1, hj => by
    have ih := dedTo_rises l hs j (by omega)
    rw [dedTo_succ]
    by_cases hc : j = 0 ∨ l[j]? ≠ l[j - 1]?
    · rw [if_pos hc]
      obtain ⟨y, hy⟩ : ∃ y, l[j]? = some y := ⟨_, List.getElem?_eq_getElem (by omega)⟩
      rw [hy, Option.toList_some]
      refine List.pairwise_append.2 ⟨ih, by simp, fun a ha b hb => ?_⟩
      rw [List.mem_singleton] at hb
      subst hb
      obtain ⟨i, hi, hia⟩ := dedTo_in l j a ha
      obtain ⟨z, hz⟩ : ∃ z, l[j - 1]? = some z := ⟨_, List.getElem?_eq_getElem (by omega)⟩
      have hzy : Less z b := by
        rcases Less.total z b with e | e | e
        · exact e
        · rcases hc with h | h
          · omega
          · rw [hy, hz, e] at h; exact absurd rfl h
        · exact absurd e (hs (j - 1) j z b (by omega) hz hy)
      by_cases e : i = j - 1
      · subst e
        rw [hia] at hz
        injection hz with hz
        subst hz
        exact hzy
      · rcases Less.total a z with e2 | e2 | e2
        · exact e2.trans hzy
        · subst e2; exact hzy
        · exact absurd e2 (hs i (j - 1) a z (by omega) hia hz)
    · rw [if_neg hc]
      simpa using ih
end Go.Proofs.Ytenobgelhkpjcaa
