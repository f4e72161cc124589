/- Places that rise, each once: sorted and struck, or put in one by one; whether two feet clash. Conditions: none. -/
import Derived.Test.YtfadfdfpocpelaaDoorFLess
namespace Go.Proofs.YtfadfdfpocpelaaDoor

/-- One place rises to the other. -/
def Less (a b : Pl) : Prop := a.k < b.k ∨ a.k = b.k ∧ (a.i < b.i ∨ a.i = b.i ∧ a.j < b.j)
instance (a b : Pl) : Decidable (Less a b) := by unfold Less; infer_instance
theorem Less.irrefl (a : Pl) : ¬ Less a a := by unfold Less; omega
theorem Less.trans {a b c : Pl} (h : Less a b) (h' : Less b c) : Less a c := by unfold Less at *; omega
theorem Less.total (a b : Pl) : Less a b ∨ a = b ∨ Less b a := by
  unfold Less
  by_cases h1 : a.k = b.k
  · by_cases h2 : a.i = b.i
    · by_cases h3 : a.j = b.j
      · right; left
        obtain ⟨_, _, _⟩ := a
        obtain ⟨_, _, _⟩ := b
        simp_all
      · omega
    · omega
  · omega
def Rises (l : List Pl) : Prop := l.Pairwise Less
theorem rises_eq : ∀ (l m : List Pl), Rises l → Rises m → (∀ x, x ∈ l ↔ x ∈ m) → l = m
  | [], [], _, _, _ => rfl
  | [], y :: m, _, _, h => by have := (h y).2 (by simp); cases this
  | x :: l, [], _, _, h => by have := (h x).1 (by simp); cases this
  | x :: l, y :: m, hl, hm, h => by
    obtain ⟨hl1, hl2⟩ := List.pairwise_cons.1 hl
    obtain ⟨hm1, hm2⟩ := List.pairwise_cons.1 hm
    have e : x = y := by
      rcases List.mem_cons.1 ((h x).1 (by simp)) with e | e
      · exact e
      · rcases List.mem_cons.1 ((h y).2 (by simp)) with e2 | e2
        · exact e2.symm
        · exact absurd ((hm1 x e).trans (hl1 y e2)) (Less.irrefl _)
    subst e
    congr 1
    refine rises_eq l m hl2 hm2 fun z => ?_
    constructor
    · intro hz
      rcases List.mem_cons.1 ((h z).1 (by simp [hz])) with e | e
      · subst e; exact absurd (hl1 _ hz) (Less.irrefl _)
      · exact e
    · intro hz
      rcases List.mem_cons.1 ((h z).2 (by simp [hz])) with e | e
      · subst e; exact absurd (hm1 _ hz) (Less.irrefl _)
      · exact e
/-! ### equals struck out -/
/-- The first j, of equals that stand side by side the first alone. -/
def dedTo (l : List Pl) (j : Nat) : List Pl := (List.range j).filterMap fun i => if i = 0 ∨ l[i]? ≠ l[i - 1]? then l[i]? else none
theorem dedTo_succ (l : List Pl) (j : Nat) : dedTo l (j + 1) = dedTo l j ++ (if j = 0 ∨ l[j]? ≠ l[j - 1]? then l[j]? else none).toList := by
  unfold dedTo
  rw [List.range_succ, List.filterMap_append]
  congr 1
theorem dedTo_len (l : List Pl) (j : Nat) : (dedTo l j).length ≤ j := by
  have := List.length_filterMap_le (fun i => if i = 0 ∨ l[i]? ≠ l[i - 1]? then l[i]? else none) (List.range j)
  simpa [dedTo] using this
theorem dedTo_in (l : List Pl) (j : Nat) (x : Pl) (h : x ∈ dedTo l j) : ∃ i, i < j ∧ l[i]? = some x := by
  obtain ⟨i, hi, e⟩ := List.mem_filterMap.1 h
  have hi : i < j := by simpa using hi
  split at e
  · exact ⟨i, hi, e⟩
  · cases e
theorem dedTo_all (l : List Pl) (j : Nat) : ∀ (i : Nat) (x : Pl), i < j → l[i]? = some x → x ∈ dedTo l j
  | 0, x, hi, h => List.mem_filterMap.2 ⟨0, by simp; omega, by rw [if_pos (.inl rfl)]; exact h⟩
  | i + 1, x, hi, h => by
    by_cases e : l[i]? = some x
    · exact dedTo_all l j i x (by omega) e
    · refine List.mem_filterMap.2 ⟨i + 1, by simp; omega, ?_⟩
      rw [if_pos (.inr (by rw [h]; exact fun h' => e h'.symm))]
      exact h
theorem dedTo_same (l : List Pl) : ∀ j, j ≤ l.length → (∀ i, 0 < i → i < j → l[i]? ≠ l[i - 1]?) → dedTo l j = l.take j
  | 0, _, _ => by simp [dedTo]
  | j + 1, hj, h => by
    rw [dedTo_succ, dedTo_same l j (by omega) (fun i h1 h2 => h i h1 (by omega)), List.take_add_one, if_pos]
    by_cases e : j = 0
    · exact .inl e
    · exact .inr (h j (by omega) (by omega))
/-- Of a list that doesn't fall: it rises. -/
theorem dedTo_rises (l : List Pl) (hs : ∀ (i j : Nat) (x y : Pl), i < j → l[i]? = some x → l[j]? = some y → ¬ Less y x) : ∀ j, j ≤ l.length → Rises (dedTo l j)
  | 0, _ => by simp [dedTo, Rises]
  | j + 1, hj => by
    have ih := dedTo_rises l hs j (by omega)
    rw [dedTo_succ]
    by_cases hc : j = 0 ∨ l[j]? ≠ l[j - 1]?
    · rw [if_pos hc]
      obtain ⟨y, hy⟩ : ∃ y, l[j]? = some y := ⟨_, List.getElem?_eq_getElem (by omega)⟩
      rw [hy, Option.toList_some]
      refine List.pairwise_append.2 ⟨ih, by simp, fun a ha b hb => ?_⟩
      rw [List.mem_singleton] at hb
      subst hb
      obtain ⟨i, hi, hia⟩ := dedTo_in l j a ha
      obtain ⟨z, hz⟩ : ∃ z, l[j - 1]? = some z := ⟨_, List.getElem?_eq_getElem (by omega)⟩
      have hzy : Less z b := by
        rcases Less.total z b with e | e | e
        · exact e
        · rcases hc with h | h
          · omega
          · rw [hy, hz, e] at h; exact absurd rfl h
        · exact absurd e (hs (j - 1) j z b (by omega) hz hy)
      by_cases e : i = j - 1
      · subst e
        rw [hia] at hz
        injection hz with hz
        subst hz
        exact hzy
      · rcases Less.total a z with e2 | e2 | e2
        · exact e2.trans hzy
        · subst e2; exact hzy
        · exact absurd e2 (hs i (j - 1) a z (by omega) hia hz)
    · rw [if_neg hc]
      simpa using ih
theorem lessP_iff (x y : Pl) : lessP x y = true ↔ Less x y := by
  unfold lessP Less
  by_cases h1 : x.k = y.k
  · by_cases h2 : x.i = y.i
    · simp [h1, h2]
    · simp [h1, h2]
  · simp [h1]
theorem lessP_false (x y : Pl) : lessP x y = false ↔ ¬ Less x y := by
  rw [← lessP_iff]
  simp
theorem cmpP_neg (x y : Pl) : cmpP x y < 0 ↔ Less x y := by
  rw [← lessP_iff]
  unfold cmpP
  split
  · simp_all
  · split <;> simp_all
theorem cmpP_zero (x y : Pl) : cmpP x y = 0 ↔ x = y := by
  unfold cmpP
  constructor
  · intro h
    rcases Less.total x y with e | e | e
    · rw [if_pos ((lessP_iff _ _).2 e)] at h
      omega
    · exact e
    · by_cases h1 : lessP x y = true
      · rw [if_pos h1] at h
        omega
      · rw [if_neg h1, if_pos ((lessP_iff _ _).2 e)] at h
        omega
  · rintro rfl
    have := (lessP_false x x).2 (Less.irrefl x)
    rw [this]
    rfl
/-! ### one put in, as the plain answer does -/
/-- One round: is x put in ahead of y? -/
def insStep (x : Pl) (s : List Pl × Bool) (y : Pl) : List Pl × Bool := if !s.2 && lessP x y then (s.1 ++ [x] ++ [y], true) else (s.1 ++ [y], s.2)
/-- Behind so many rounds. -/
def insTo (x : Pl) (P : List Pl) : List Pl × Bool := P.foldl (insStep x) ([], false)
theorem insTo_nil (x : Pl) : insTo x [] = ([], false) := rfl
theorem insTo_snoc (x : Pl) (P : List Pl) (y : Pl) : insTo x (P ++ [y]) = insStep x (insTo x P) y := by
  unfold insTo
  rw [List.foldl_append]
  rfl
/-- At the end. -/
def insP (x : Pl) (P : List Pl) : List Pl := if (insTo x P).2 then (insTo x P).1 else (insTo x P).1 ++ [x]
theorem insTo_len (x : Pl) (P : List Pl) : (insTo x P).1.length ≤ P.length + 1 ∧ ((insTo x P).2 = false → (insTo x P).1.length ≤ P.length) := by
  induction hn : P.length generalizing P with
  | zero =>
    obtain rfl := List.eq_nil_of_length_eq_zero hn
    rw [insTo_nil]
    simp
  | succ m ih =>
    obtain ⟨Q, y, rfl⟩ : ∃ Q y, P = Q ++ [y] := ⟨P.dropLast, P.getLast (by intro e; subst e; simp at hn), (List.dropLast_concat_getLast _).symm⟩
    have hq : Q.length = m := by simpa using hn
    obtain ⟨h1, h2⟩ := ih Q hq
    rw [insTo_snoc]
    unfold insStep
    cases hb : (insTo x Q).2
    · have := h2 hb
      by_cases hl : lessP x y = true
      · rw [if_pos (by simp [hl])]
        simp
        omega
      · rw [if_neg (by simp [hl])]
        simp
        omega
    · rw [if_neg (by simp)]
      simp
      omega
theorem insP_len (x : Pl) (P : List Pl) : (insP x P).length ≤ P.length + 1 := by
  obtain ⟨h1, h2⟩ := insTo_len x P
  unfold insP
  cases hb : (insTo x P).2
  · have := h2 hb
    simp
    omega
  · simpa using h1
theorem rises_snoc {P : List Pl} {y : Pl} (h : Rises (P ++ [y])) : Rises P ∧ ∀ p ∈ P, Less p y := by
  obtain ⟨h1, _, h2⟩ := List.pairwise_append.1 h
  exact ⟨h1, fun p hp => h2 p hp y (by simp)⟩
theorem rises_add {P : List Pl} {y : Pl} (h : Rises P) (h' : ∀ p ∈ P, Less p y) : Rises (P ++ [y]) :=
  List.pairwise_append.2 ⟨h, by simp, fun p hp z hz => by
    rw [List.mem_singleton] at hz
    subst hz
    exact h' p hp⟩
theorem insTo_inv (x : Pl) (P : List Pl) (hP : Rises P) (hx : ¬ x ∈ P) :
    ((insTo x P).2 = false → (insTo x P).1 = P ∧ ∀ y ∈ P, ¬ Less x y) ∧ ((insTo x P).2 = true → Rises (insTo x P).1 ∧ (∀ z, z ∈ (insTo x P).1 ↔ z = x ∨ z ∈ P) ∧ ∃ y ∈ P, Less x y) := by
  induction hn : P.length generalizing P with
  | zero =>
    obtain rfl := List.eq_nil_of_length_eq_zero hn
    rw [insTo_nil]
    simp
  | succ m ih =>
    obtain ⟨Q, y, rfl⟩ : ∃ Q y, P = Q ++ [y] := ⟨P.dropLast, P.getLast (by intro e; subst e; simp at hn), (List.dropLast_concat_getLast _).symm⟩
    obtain ⟨hQ, hy⟩ := rises_snoc hP
    obtain ⟨h1, h2⟩ := ih Q hQ (fun h => hx (by simp [h])) (by simpa using hn)
    have hxy : x ≠ y := fun e => hx (by simp [e])
    have hxq : ∀ q ∈ Q, q ≠ x := fun q hq e => hx (by subst e; simp [hq])
    rw [insTo_snoc]
    unfold insStep
    cases hb : (insTo x Q).2
    · obtain ⟨e1, e2⟩ := h1 hb
      rw [e1]
      by_cases hl : lessP x y = true
      · rw [if_pos (by simp [hl])]
        have hl' := (lessP_iff _ _).1 hl
        refine ⟨fun h => (by cases h), fun _ => ⟨?_, fun z => ?_, y, by simp, hl'⟩⟩
        · refine rises_add (rises_add hQ fun q hq => ?_) fun q hq => ?_
          · rcases Less.total q x with e | e | e
            · exact e
            · exact absurd e (hxq q hq)
            · exact absurd e (e2 q hq)
          · rcases List.mem_append.1 hq with h | h
            · exact hy q h
            · rw [List.mem_singleton] at h
              subst h
              exact hl'
        · simp only [List.mem_append, List.mem_singleton]
          constructor
          · rintro ((h | h) | h)
            · exact .inr (.inl h)
            · exact .inl h
            · exact .inr (.inr h)
          · rintro (h | h | h)
            · exact .inl (.inr h)
            · exact .inl (.inl h)
            · exact .inr h
      · rw [if_neg (by simp [hl])]
        refine ⟨fun _ => ⟨rfl, fun z hz => ?_⟩, fun h => (by simp at h)⟩
        rcases List.mem_append.1 hz with h | h
        · exact e2 z h
        · rw [List.mem_singleton] at h
          subst h
          exact fun h => hl ((lessP_iff _ _).2 h)
    · obtain ⟨e1, e2, y0, hy0, hl0⟩ := h2 hb
      rw [if_neg (by simp)]
      refine ⟨fun h => (by simp at h), fun _ => ⟨rises_add e1 fun q hq => ?_, fun z => ?_, y0, by simp [hy0], hl0⟩⟩
      · rcases (e2 q).1 hq with h | h
        · subst h
          exact hl0.trans (hy y0 hy0)
        · exact hy q h
      · simp only [List.mem_append, List.mem_singleton, e2]
        constructor
        · rintro ((h | h) | h)
          · exact .inl h
          · exact .inr (.inl h)
          · exact .inr (.inr h)
        · rintro (h | h | h)
          · exact .inl (.inl h)
          · exact .inl (.inr h)
          · exact .inr h
theorem insP_inv (x : Pl) (P : List Pl) (hP : Rises P) (hx : ¬ x ∈ P) : Rises (insP x P) ∧ ∀ z, z ∈ insP x P ↔ z = x ∨ z ∈ P := by
  obtain ⟨h1, h2⟩ := insTo_inv x P hP hx
  unfold insP
  cases hb : (insTo x P).2
  · obtain ⟨e1, e2⟩ := h1 hb
    rw [if_neg (by simp), e1]
    refine ⟨rises_add hP fun q hq => ?_, fun z => ?_⟩
    · rcases Less.total q x with e | e | e
      · exact e
      · exact absurd (e ▸ hq) hx
      · exact absurd e (e2 q hq)
    · simp only [List.mem_append, List.mem_singleton]
      exact Or.comm
  · obtain ⟨e1, e2, _⟩ := h2 hb
    rw [if_pos rfl]
    exact ⟨e1, e2⟩
/-- The first so many, rising, each once. -/
def normTo (l : List Pl) : Nat → List Pl
  | 0 => []
  | j + 1 => match l[j]? with
    | some x => if x ∈ normTo l j then normTo l j else insP x (normTo l j)
    | none => normTo l j
/-- Rising, each once. -/
def normP (l : List Pl) : List Pl := normTo l l.length
theorem normTo_len (l : List Pl) : ∀ j, (normTo l j).length ≤ j
  | 0 => Nat.le_refl _
  | j + 1 => by
    have := normTo_len l j
    rw [normTo]
    cases l[j]? with
    | none => exact Nat.le_succ_of_le this
    | some x =>
      simp only
      split
      · exact Nat.le_succ_of_le this
      · exact Nat.le_trans (insP_len x _) (by omega)
theorem normTo_next {l : List Pl} {j : Nat} {x : Pl} (hx : l[j]? = some x) : normTo l (j + 1) = if x ∈ normTo l j then normTo l j else insP x (normTo l j) := by
  rw [normTo, hx]
theorem normTo_inv (l : List Pl) : ∀ j, Rises (normTo l j) ∧ ∀ z, z ∈ normTo l j ↔ ∃ i, i < j ∧ l[i]? = some z
  | 0 => ⟨List.Pairwise.nil, fun z => by simp [normTo]⟩
  | j + 1 => by
    obtain ⟨h1, h2⟩ := normTo_inv l j
    have step : ∀ z, (∃ i, i < j + 1 ∧ l[i]? = some z) ↔ (∃ i, i < j ∧ l[i]? = some z) ∨ l[j]? = some z := fun z => by
      constructor
      · rintro ⟨i, hi, e⟩
        by_cases h : i = j
        · subst h; exact .inr e
        · exact .inl ⟨i, by omega, e⟩
      · rintro (⟨i, hi, e⟩ | e)
        · exact ⟨i, by omega, e⟩
        · exact ⟨j, by omega, e⟩
    rw [normTo]
    cases hx : l[j]? with
    | none => exact ⟨h1, fun z => by rw [h2, step, hx]; simp⟩
    | some x =>
      simp only
      by_cases hm : x ∈ normTo l j
      · rw [if_pos hm]
        refine ⟨h1, fun z => ?_⟩
        rw [step, hx, ← h2]
        constructor
        · exact .inl
        · rintro (h | h)
          · exact h
          · injection h with h
            subst h
            exact hm
      · rw [if_neg hm]
        obtain ⟨e1, e2⟩ := insP_inv x _ h1 hm
        refine ⟨e1, fun z => ?_⟩
        rw [step, hx, ← h2, e2]
        constructor
        · rintro (h | h)
          · exact .inr (by rw [h])
          · exact .inl h
        · rintro (h | h)
          · exact .inr h
          · injection h with h
            exact .inl h.symm
theorem normP_rises (l : List Pl) : Rises (normP l) := (normTo_inv l _).1
theorem normP_mem (l : List Pl) (z : Pl) : z ∈ normP l ↔ z ∈ l := by
  unfold normP
  rw [(normTo_inv l _).2 z]
  constructor
  · rintro ⟨i, _, h⟩
    exact List.mem_of_getElem? h
  · intro h
    obtain ⟨i, hi⟩ := List.getElem?_of_mem h
    exact ⟨i, (List.getElem?_eq_some_iff.1 hi).1, hi⟩
theorem normP_len (l : List Pl) : (normP l).length ≤ l.length := normTo_len l _
theorem normP_eq {l m : List Pl} (hm : Rises m) (h : ∀ z, z ∈ m ↔ z ∈ l) : m = normP l := rises_eq _ _ hm (normP_rises l) fun z => by rw [h, normP_mem]
theorem normP_norm (l : List Pl) : normP (normP l) = normP l := (normP_eq (normP_rises l) fun _ => Iff.rfl).symm
theorem normP_same (l m : List Pl) : normP l = normP m ↔ ∀ z, z ∈ l ↔ z ∈ m := by
  constructor
  · intro h z
    rw [← normP_mem, h, normP_mem]
  · intro h
    exact normP_eq (normP_rises l) fun z => by rw [normP_mem, h]
/-- Of a list that doesn't fall, equals struck out: rising, each once. -/
theorem ded_norm {l m : List Pl} (hs : ∀ (i j : Nat) (x y : Pl), i < j → m[i]? = some x → m[j]? = some y → ¬ Less y x) (hp : m.Perm l) : dedTo m m.length = normP l :=
  normP_eq (dedTo_rises m hs _ (Nat.le_refl _)) fun z => by
    rw [← hp.mem_iff]
    constructor
    · intro h
      obtain ⟨i, _, hi⟩ := dedTo_in _ _ _ h
      exact List.mem_of_getElem? hi
    · intro h
      obtain ⟨i, hi⟩ := List.getElem?_of_mem h
      exact dedTo_all _ _ i z (List.getElem?_eq_some_iff.1 hi).1 hi
theorem rises_falls {l : List Pl} (h : Rises l) (i j : Nat) (x y : Pl) (hij : i < j) (hx : l[i]? = some x) (hy : l[j]? = some y) : ¬ Less y x := by
  obtain ⟨h1, rfl⟩ := List.getElem?_eq_some_iff.1 hx
  obtain ⟨h2, rfl⟩ := List.getElem?_eq_some_iff.1 hy
  have := (List.pairwise_iff_getElem.1 h) i j h1 h2 hij
  exact fun h => Less.irrefl _ (this.trans h)

/-! ### clashes -/
/-- Is one of those in the other list? -/
def hit (a b : List Pl) : Bool := a.any fun x => decide (x ∈ b)
theorem hit_iff (a b : List Pl) : hit a b = true ↔ ∃ x, x ∈ a ∧ x ∈ b := by
  unfold hit
  simp
/-- Do two feet clash? -/
def clashP (R W R' W' : List Pl) : Bool := (hit W R' || hit W W') || hit W' R
theorem clashP_iff (R W R' W' : List Pl) : clashP R W R' W' = true ↔ (∃ x, x ∈ W ∧ (x ∈ R' ∨ x ∈ W')) ∨ ∃ x, x ∈ W' ∧ x ∈ R := by
  unfold clashP
  simp only [Bool.or_eq_true, hit_iff]
  constructor
  · rintro ((⟨x, h1, h2⟩ | ⟨x, h1, h2⟩) | h)
    · exact .inl ⟨x, h1, .inl h2⟩
    · exact .inl ⟨x, h1, .inr h2⟩
    · exact .inr h
  · rintro (⟨x, h1, h2 | h2⟩ | h)
    · exact .inl (.inl ⟨x, h1, h2⟩)
    · exact .inl (.inr ⟨x, h1, h2⟩)
    · exact .inr h
theorem clashP_comm (R W R' W' : List Pl) : clashP R W R' W' = clashP R' W' R W := by
  rw [Bool.eq_iff_iff, clashP_iff, clashP_iff]
  constructor
  · rintro (⟨x, h1, h2 | h2⟩ | ⟨x, h1, h2⟩)
    · exact .inr ⟨x, h1, h2⟩
    · exact .inl ⟨x, h2, .inr h1⟩
    · exact .inl ⟨x, h1, .inl h2⟩
  · rintro (⟨x, h1, h2 | h2⟩ | ⟨x, h1, h2⟩)
    · exact .inr ⟨x, h1, h2⟩
    · exact .inl ⟨x, h2, .inr h1⟩
    · exact .inl ⟨x, h1, .inl h2⟩
theorem clashP_join (Ra Wa Rc Wc R W : List Pl) : clashP (normP (Ra ++ Rc)) (normP (Wa ++ Wc)) R W = (clashP Ra Wa R W || clashP Rc Wc R W) := by
  rw [Bool.eq_iff_iff, Bool.or_eq_true, clashP_iff, clashP_iff, clashP_iff]
  simp only [normP_mem, List.mem_append]
  constructor
  · rintro (⟨x, h1 | h1, h2⟩ | ⟨x, h1, h2 | h2⟩)
    · exact .inl (.inl ⟨x, h1, h2⟩)
    · exact .inr (.inl ⟨x, h1, h2⟩)
    · exact .inl (.inr ⟨x, h1, h2⟩)
    · exact .inr (.inr ⟨x, h1, h2⟩)
  · rintro ((⟨x, h1, h2⟩ | ⟨x, h1, h2⟩) | (⟨x, h1, h2⟩ | ⟨x, h1, h2⟩))
    · exact .inl ⟨x, .inl h1, h2⟩
    · exact .inr ⟨x, h1, .inl h2⟩
    · exact .inl ⟨x, .inr h1, h2⟩
    · exact .inr ⟨x, h1, .inr h2⟩

/-! ### a place looked for in a list that doesn't fall -/
def SortedP (l : List Pl) : Prop := ∀ (i j : Nat) (x y : Pl), i < j → l[i]? = some x → l[j]? = some y → ¬ Less y x
/-- The first i are less, those from j on are not. -/
structure Here (l : List Pl) (x : Pl) (i j : Nat) : Prop where
  le : i ≤ j
  most : j ≤ l.length
  low : ∀ (k : Nat) (y : Pl), k < i → l[k]? = some y → Less y x
  high : ∀ (k : Nat) (y : Pl), j ≤ k → l[k]? = some y → ¬ Less y x
theorem here_start (l : List Pl) (x : Pl) : Here l x 0 l.length := ⟨Nat.zero_le _, Nat.le_refl _, fun k y h => by omega, fun k y h e => by
  have := (List.getElem?_eq_some_iff.1 e).1
  omega⟩
theorem Here.up {l : List Pl} {x y : Pl} {i j h : Nat} (H : Here l x i j) (hs : SortedP l) (h1 : i ≤ h) (h2 : h < j) (hy : l[h]? = some y) (hl : Less y x) : Here l x (h + 1) j :=
  ⟨by omega, H.most, fun k z hk hz => by
    rcases Nat.lt_or_ge k h with e | e
    · rcases Less.total z x with e2 | e2 | e2
      · exact e2
      · subst e2
        exact absurd hl (hs k h z y e hz hy)
      · exact absurd (hl.trans e2) (hs k h z y e hz hy)
    · obtain rfl : k = h := by omega
      rw [hy] at hz
      injection hz with hz
      subst hz
      exact hl, H.high⟩
theorem Here.down {l : List Pl} {x y : Pl} {i j h : Nat} (H : Here l x i j) (hs : SortedP l) (h1 : i ≤ h) (h2 : h < j) (hy : l[h]? = some y) (hl : ¬ Less y x) : Here l x i h :=
  ⟨h1, by have := H.most; omega, H.low, fun k z hk hz hzx => by
    rcases Nat.lt_or_ge h k with e | e
    · have h3 := hs h k y z e hy hz
      rcases Less.total y x with e2 | e2 | e2
      · exact hl e2
      · subst e2
        exact h3 hzx
      · exact h3 (hzx.trans e2)
    · obtain rfl : k = h := by omega
      rw [hy] at hz
      injection hz with hz
      subst hz
      exact hl hzx⟩
theorem Here.miss {l : List Pl} {x : Pl} (H : Here l x l.length l.length) : ¬ x ∈ l := fun h => by
  obtain ⟨k, hk⟩ := List.getElem?_of_mem h
  exact Less.irrefl _ (H.low k x (List.getElem?_eq_some_iff.1 hk).1 hk)
theorem Here.found {l : List Pl} {x y : Pl} {i : Nat} (H : Here l x i i) (hs : SortedP l) (hy : l[i]? = some y) : x ∈ l ↔ y = x := by
  constructor
  · intro h
    obtain ⟨k, hk⟩ := List.getElem?_of_mem h
    rcases Less.total y x with e | e | e
    · exact absurd e (H.high i y (Nat.le_refl _) hy)
    · exact e
    · rcases Nat.lt_or_ge k i with e2 | e2
      · exact absurd (H.low k x e2 hk) (Less.irrefl _)
      · rcases Nat.lt_or_ge i k with e3 | e3
        · exact absurd e (hs i k y x e3 hy hk)
        · obtain rfl : k = i := by omega
          rw [hy] at hk
          injection hk
  · rintro rfl
    exact List.mem_of_getElem? hy
end Go.Proofs.YtfadfdfpocpelaaDoor
