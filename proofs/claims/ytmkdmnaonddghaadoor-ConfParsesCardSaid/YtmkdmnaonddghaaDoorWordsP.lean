/- What conf's Parse makes of a text's words, plainly: the front of a text, names and numbers, and that a line's words tell its config and its ask. Conditions: none. -/
import Derived.Test.YtmkdmnaonddghaaDoorLineR
namespace Go.Proofs.YtmkdmnaonddghaaDoor
open Go.RowKit Nine

theorem cut_at {c : UInt8} : ∀ (a : List UInt8), c ∈ a → ∃ x r, a = x ++ c :: r ∧ c ∉ x
  | [], h => by simp at h
  | y :: a, h => by
    by_cases e : y = c
    · subst e; exact ⟨[], a, rfl, by simp⟩
    · obtain ⟨x, r, h1, h2⟩ := cut_at a (by
        rcases List.mem_cons.1 h with h | h
        · exact absurd h.symm e
        · exact h)
      refine ⟨y :: x, r, by rw [h1]; rfl, ?_⟩
      simp only [List.mem_cons, not_or]
      exact ⟨fun h => e h.symm, h2⟩
theorem words_mid (b : List UInt8) : ∀ (n : Nat) (a : List UInt8), a.length ≤ n → wordsL (a ++ 32 :: b) = wordsL a ++ wordsL b
  | n, a, h => by
    by_cases hb : (32 : UInt8) ∈ a
    · obtain ⟨x, r, rfl, hx⟩ := cut_at a hb
      match n with
      | 0 => simp at h
      | n + 1 =>
        have ih := words_mid b n r (by simp at h; omega)
        have e : x ++ 32 :: r ++ 32 :: b = x ++ 32 :: (r ++ 32 :: b) := by simp
        rw [e, words_cut x _ hx, words_cut x r hx, ih]
        simp
    · rw [words_cut a b hb, words_last a hb]
theorem words_pad (l : List UInt8) : wordsL (l ++ [32]) = wordsL l := by
  rw [words_mid [] l.length l (Nat.le_refl _)]
  show wordsL l ++ [] = wordsL l
  simp
theorem words_ahead (l : List UInt8) : wordsL (32 :: l) = wordsL l := by
  have := words_cut [] l (by simp)
  simpa using this

theorem decD_noblank (u : Nat) : (32 : UInt8) ∉ decD u := by
  induction u using Nat.strongRecOn with
  | _ u ih =>
    by_cases h : u = 0
    · subst h; simp [decD]
    · rw [decD_step u h]
      simp only [List.mem_append, List.mem_singleton, not_or]
      refine ⟨ih (u / 10) (by omega), fun e => ?_⟩
      have h1 := digit_nat (u % 10) (by omega)
      rw [← e] at h1
      have : (32 : UInt8).toNat = 32 := rfl
      omega
theorem itoa_fine (n : Int) : Fine (Lib.itoa n) := by
  rcases Int.lt_trichotomy n 0 with h | h | h
  · rw [itoa_neg n h]
    refine ⟨by simp, ?_⟩
    simp only [List.mem_cons, not_or]
    exact ⟨by decide, decD_noblank _⟩
  · subst h
    rw [itoa_zero]
    exact ⟨by simp, by decide⟩
  · rw [itoa_pos n h]
    refine ⟨?_, decD_noblank _⟩
    rw [decD_step _ (by omega)]
    simp

theorem words_blanks : ∀ (b x : List UInt8), (∀ y ∈ b, y = 32) → wordsL (b ++ x) = wordsL x
  | [], _, _ => rfl
  | y :: b, x, h => by
    have e : y = 32 := h y (by simp)
    subst e
    rw [List.cons_append, words_ahead]
    exact words_blanks b x fun z hz => h z (List.mem_cons_of_mem _ hz)
/-- What is left behind the next word. -/
def nextL (l : List UInt8) : List UInt8 := (((Lib.trimLeftB l 32).dropWhile (off 32)).drop 1)
def leftN : Nat → List UInt8 → List UInt8
  | 0, l => l
  | n + 1, l => leftN n (nextL l)
theorem leftN_snoc : ∀ (n : Nat) (l : List UInt8), leftN (n + 1) l = nextL (leftN n l)
  | 0, _ => rfl
  | n + 1, l => leftN_snoc n (nextL l)
theorem nextL_nil : nextL [] = [] := rfl
theorem leftN_nil : ∀ n, leftN n [] = []
  | 0 => rfl
  | n + 1 => leftN_nil n
theorem nextL_len (l : List UInt8) : (nextL l).length ≤ l.length := by
  unfold nextL
  have h1 : ((Lib.trimLeftB l 32).dropWhile (off 32)).length ≤ (Lib.trimLeftB l 32).length := (List.dropWhile_sublist _).length_le
  have h2 : (Lib.trimLeftB l 32).length ≤ l.length := (List.dropWhile_sublist _).length_le
  rw [List.length_drop]
  omega
theorem leftN_len : ∀ (n : Nat) (l : List UInt8), (leftN n l).length ≤ l.length
  | 0, _ => Nat.le_refl _
  | n + 1, l => Nat.le_trans (leftN_len n _) (nextL_len l)
theorem front_words : ∀ (n : Nat) (l : List UInt8), ∃ f, l = f ++ leftN n l ∧ wordsL f = (wordsL l).take n
  | 0, l => ⟨[], rfl, by simp [wordsL, parts_nil]⟩
  | n + 1, l => by
    obtain ⟨b, eb⟩ : ∃ b, l.takeWhile (· == 32) = b := ⟨_, rfl⟩
    obtain ⟨r, er⟩ : ∃ r, Lib.trimLeftB l 32 = r := ⟨_, rfl⟩
    have hbr : l = b ++ r := by rw [← eb, ← er]; exact (List.takeWhile_append_dropWhile (p := (· == 32)) (l := l)).symm
    have hb : ∀ y ∈ b, y = 32 := by
      intro y hy
      rw [← eb] at hy
      have := List.all_eq_true.1 (List.all_takeWhile (l := l) (p := (· == 32))) y hy
      simpa using this
    have hr : r = [] ∨ ∃ x q, r = x :: q ∧ x ≠ 32 := by
      cases hrr : r with
      | nil => exact .inl rfl
      | cons x q =>
        refine .inr ⟨x, q, rfl, fun e => ?_⟩
        have h0 : l.dropWhile (· == 32) = x :: q := by rw [← hrr, ← er]; rfl
        have := List.head?_dropWhile_not (p := (· == 32)) (l := l)
        rw [h0] at this
        simp [e] at this
    have hnext : nextL l = (r.dropWhile (off 32)).drop 1 := by unfold nextL; rw [er]
    show ∃ f, l = f ++ leftN n (nextL l) ∧ _
    rcases hr with rfl | ⟨x, q, hx, hx32⟩
    · rw [hnext]
      refine ⟨l, by rw [show (([] : List UInt8).dropWhile (off 32)).drop 1 = [] from rfl, leftN_nil]; simp, ?_⟩
      have : wordsL l = [] := by rw [hbr, words_blanks b [] hb]; rfl
      rw [this]; rfl
    · by_cases h32 : (32 : UInt8) ∈ r
      · obtain ⟨w, q2, hw, hnw⟩ := cut_at r h32
        have hw0 : w ≠ [] := by
          intro e
          subst e
          rw [hx] at hw
          injection hw with h1 h2
          exact hx32 h1
        have hd : (r.dropWhile (off 32)).drop 1 = q2 := by rw [hw, (takeWhile_app 32 w q2 hnw).2]; rfl
        obtain ⟨f, hf1, hf2⟩ := front_words n q2
        rw [hnext, hd]
        refine ⟨b ++ (w ++ 32 :: f), ?_, ?_⟩
        · conv => lhs; rw [hbr, hw, hf1]
          simp
        · rw [words_blanks b _ hb, words_cut w f hnw, if_neg hw0, hf2, hbr, words_blanks b r hb, hw, words_cut w q2 hnw, if_neg hw0]
          rfl
      · have hd : (r.dropWhile (off 32)).drop 1 = [] := by rw [(takeWhile_all 32 r h32).2]; rfl
        rw [hnext, hd, leftN_nil]
        refine ⟨l, by simp, ?_⟩
        have hr0 : r ≠ [] := by rw [hx]; simp
        rw [hbr, words_blanks b r hb, words_last r h32, if_neg hr0]
        simp
/-- The front of a text, as far as its first n words go. -/
def frontL (n : Nat) (l : List UInt8) : List UInt8 := l.take (l.length - (leftN n l).length)
theorem frontL_words (n : Nat) (l : List UInt8) : wordsL (frontL n l) = (wordsL l).take n := by
  obtain ⟨f, h1, h2⟩ := front_words n l
  have e : frontL n l = f := by
    unfold frontL
    have hl : l.length = f.length + (leftN n l).length := by
      conv => lhs; rw [h1]
      simp
    rw [show l.length - (leftN n l).length = f.length by omega]
    conv => lhs; rw [h1]
    simp
  rw [e, h2]

/-- The number of a name, and whether there is one. -/
def numFrom (k : Nat) (x : List UInt8) : Nat → Nat → Int × Bool
  | 0, _ => (0, false)
  | f + 1, j => if nameAt k j = x then ((j : Int), true) else numFrom k x f (j + 1)
def numK (k : Nat) (x : List UInt8) : Int × Bool := numFrom k x 4 0
theorem numFrom_of (k : Nat) (x : List UInt8) : ∀ (f j : Nat), (numFrom k x f j).2 = true → ∃ i : Nat, j ≤ i ∧ i < j + f ∧ (numFrom k x f j).1 = (i : Int) ∧ nameAt k i = x
  | 0, _, h => by simp [numFrom] at h
  | f + 1, j, h => by
    unfold numFrom at h ⊢
    by_cases e : nameAt k j = x
    · rw [if_pos e] at h ⊢
      exact ⟨j, Nat.le_refl _, by omega, rfl, e⟩
    · rw [if_neg e] at h ⊢
      obtain ⟨i, h1, h2, h3, h4⟩ := numFrom_of k x f (j + 1) h
      exact ⟨i, by omega, by omega, h3, h4⟩
theorem numK_of {k : Nat} {x : List UInt8} (h : (numK k x).2 = true) : ∃ i : Nat, i < 4 ∧ (numK k x).1 = (i : Int) ∧ nameAt k i = x := by
  obtain ⟨i, _, h2, h3, h4⟩ := numFrom_of k x 4 0 h
  exact ⟨i, by omega, h3, h4⟩
theorem numK_back (k i : Nat) (hk : k < 4) (hi : i < 4) (h : nameAt k i ≠ []) : numK k (nameAt k i) = ((i : Int), true) :=
  (by decide +kernel : ∀ k, k < 4 → ∀ i, i < 4 → nameAt k i ≠ [] → numK k (nameAt k i) = ((i : Int), true)) k hk i hi h

/-- What eight words tell. -/
def cfgP (ws : List (List UInt8)) : Cfg := ⟨(numK 0 (ws.getD 0 [])).1, (numK 1 (ws.getD 1 [])).1, boundI (numL (ws.getD 2 [])).1, boundI (numL (ws.getD 3 [])).1, boundI (numL (ws.getD 4 [])).1⟩
def askP (ws : List (List UInt8)) : Ask := ⟨(numK 2 (ws.getD 5 [])).1, boundI (numL (ws.getD 6 [])).1, (numK 3 (ws.getD 7 [])).1 == 1⟩
def formP (ws : List (List UInt8)) : Bool := ((((((((true && (numK 0 (ws.getD 0 [])).2) && (numK 1 (ws.getD 1 [])).2) && (numL (ws.getD 2 [])).2) && (numL (ws.getD 3 [])).2) && (numL (ws.getD 4 [])).2) && (numK 2 (ws.getD 5 [])).2) && (numL (ws.getD 6 [])).2) && (numK 3 (ws.getD 7 [])).2)
theorem numL_of {x : List UInt8} (h : (numL x).2 = true) : Lib.itoa (numL x).1 = x := by
  unfold numL at h ⊢
  split at h
  · rename_i v hv
    by_cases e : Lib.itoa v = x
    · rw [if_pos e]
      exact e
    · rw [if_neg e] at h
      cases h
  · cases h
theorem bound_in {n : Int} {lo hi : Int} (h0 : 0 ≤ lo) (h1 : hi ≤ 1048576) (h : inB (boundI n) lo hi = true) : boundI n = n := by
  rw [inB_iff] at h
  unfold boundI at *
  omega
theorem fine_mem {l x : List UInt8} (h : x ∈ wordsL l) : Fine x := by
  have h2 := List.mem_filter.1 h
  exact ⟨by intro e; subst e; simp [full] at h2, partsF_off 32 _ _ _ h2.1⟩
/-- What is taken has a line whose words these are. -/
theorem line_of {l : List UInt8} (h8 : (wordsL l).length = 8) (hf : formP (wordsL l) = true) (hc : chkB (cfgP (wordsL l)) (askP (wordsL l)) = 0) : okC (cfgP (wordsL l)) = true ∧ okA (askP (wordsL l)) = true ∧ lineW (cfgP (wordsL l)) (askP (wordsL l)) = wordsL l := by
  have hfine : ∀ x ∈ wordsL l, Fine x := fun x hx => fine_mem hx
  generalize wordsL l = ws at *
  have hok : okC (cfgP ws) = true ∧ okA (askP ws) = true := by
    rw [chkB_of] at hc
    cases h1 : okC (cfgP ws) <;> cases h2 : okA (askP ws) <;> rw [h1, h2] at hc <;> simp at hc ⊢
  refine ⟨hok.1, hok.2, ?_⟩
  obtain ⟨hC, hA⟩ := hok
  have hx : ws = [ws.getD 0 [], ws.getD 1 [], ws.getD 2 [], ws.getD 3 [], ws.getD 4 [], ws.getD 5 [], ws.getD 6 [], ws.getD 7 []] := by
    match ws, h8 with
    | [a, b, c, d, e, f, g, h], _ => rfl
  have h7 : ws.getD 7 [] ≠ [] := (hfine _ (by
    have e : ws.getD 7 [] = ws[7] := by simp [List.getD, h8]
    rw [e]
    exact List.getElem_mem _)).1
  simp only [formP, Bool.true_and, Bool.and_eq_true] at hf
  obtain ⟨⟨⟨⟨⟨⟨⟨f0, f1⟩, f2⟩, f3⟩, f4⟩, f5⟩, f6⟩, f7⟩ := hf
  simp only [okC, okA, cfgP, askP, Bool.and_eq_true] at hC hA
  obtain ⟨c0, c1, c2, c3, c4⟩ := hC
  obtain ⟨a0, a1⟩ := hA
  obtain ⟨i0, l0, e0, n0⟩ := numK_of f0
  obtain ⟨i1, l1, e1, n1⟩ := numK_of f1
  obtain ⟨i5, l5, e5, n5⟩ := numK_of f5
  obtain ⟨i7, l7, e7, n7⟩ := numK_of f7
  have b2 := bound_in (by omega) (by omega) c2
  have b3 := bound_in (by omega) (by omega) c3
  have b4 := bound_in (by omega) (by omega) c4
  have b6 := bound_in (by omega) (by omega) a1
  have m2 := numL_of f2
  have m3 := numL_of f3
  have m4 := numL_of f4
  have m6 := numL_of f6
  have h77 : i7 = 0 ∨ i7 = 1 := by
    rcases (by omega : i7 = 0 ∨ i7 = 1 ∨ i7 = 2 ∨ i7 = 3) with rfl | rfl | rfl | rfl
    · exact .inl rfl
    · exact .inr rfl
    · exact absurd n7.symm h7
    · exact absurd n7.symm h7
  conv => rhs; rw [hx]
  simp only [lineW, cfgP, askP, b2, b3, b4, b6, m2, m3, m4, m6, e0, e1, e5, e7, Int.toNat_natCast, n0, n1, n5]
  rcases h77 with rfl | rfl
  · rw [← n7]; rfl
  · rw [← n7]; rfl
theorem lineW_fine {c : Cfg} {a : Ask} (hc : okC c = true) (ha : okA a = true) : ∀ x ∈ lineW c a, Fine x := by
  obtain ⟨i, p, m, hp⟩ := parts_of hc ha
  have hn : ∀ k, k < 4 → ∀ i, i < 4 → (nameAt k i ≠ []) → Fine (nameAt k i) := fun k hk i hi h => ⟨h, (by decide +kernel : ∀ k, k < 4 → ∀ i, i < 4 → (32 : UInt8) ∉ nameAt k i) k hk i hi⟩
  have h0 : ∀ i, i < 4 → nameAt 0 i ≠ [] := by decide +kernel
  have h1 : ∀ i, i < 2 → nameAt 1 i ≠ [] := by decide +kernel
  have h2 : ∀ i, i < 4 → 1 ≤ i → nameAt 2 i ≠ [] := by decide +kernel
  have h3 : ∀ i, i < 2 → nameAt 3 i ≠ [] := by decide +kernel
  have hs : stN a.st < 2 := by cases a.st <;> decide
  intro x hx
  unfold lineW at hx
  rw [hp.ei, hp.ep, hp.em] at hx
  simp only [List.mem_cons, List.not_mem_nil, or_false, Int.toNat_natCast] at hx
  have q1 := hp.hi
  have q2 := hp.hp
  have q3 := hp.m3
  rcases hx with rfl | rfl | rfl | rfl | rfl | rfl | rfl | rfl
  · exact hn 0 (by omega) i q1 (h0 i q1)
  · exact hn 1 (by omega) p (by omega) (h1 p q2)
  · exact itoa_fine _
  · exact itoa_fine _
  · exact itoa_fine _
  · exact hn 2 (by omega) m q3 (h2 m q3 hp.m1)
  · exact itoa_fine _
  · exact hn 3 (by omega) _ (by omega) (h3 _ hs)
theorem words_lineO {c : Cfg} {a : Ask} (hc : okC c = true) (ha : okA a = true) : wordsL (lineO c a) = lineW c a := words_join _ (lineW_fine hc ha)
theorem bound_same {n : Int} (h0 : 0 ≤ n) (h1 : n ≤ 1048576) : boundI n = n := by
  unfold boundI
  omega
/-- A line's words tell its config and its ask. -/
theorem back_of {c : Cfg} {a : Ask} (hc : okC c = true) (ha : okA a = true) : (lineW c a).length = 8 ∧ formP (lineW c a) = true ∧ cfgP (lineW c a) = c ∧ askP (lineW c a) = a := by
  obtain ⟨i, p, m, hp⟩ := parts_of hc ha
  have h0 : ∀ i, i < 4 → nameAt 0 i ≠ [] := by decide +kernel
  have h1 : ∀ i, i < 2 → nameAt 1 i ≠ [] := by decide +kernel
  have h2 : ∀ i, i < 4 → 1 ≤ i → nameAt 2 i ≠ [] := by decide +kernel
  have h3 : ∀ i, i < 2 → nameAt 3 i ≠ [] := by decide +kernel
  have hs : stN a.st < 2 := by cases a.st <;> decide
  have q1 := hp.hi
  have q2 := hp.hp
  have q3 := hp.m3
  have k0 := numK_back 0 i (by omega) q1 (h0 i q1)
  have k1 := numK_back 1 p (by omega) (by omega) (h1 p q2)
  have k2 := numK_back 2 m (by omega) q3 (h2 m q3 hp.m1)
  have k3 := numK_back 3 (stN a.st) (by omega) (by omega) (h3 _ hs)
  have t0 := num_itoa c.t hp.ht
  have t1 := num_itoa c.f hp.hf
  have t2 := num_itoa c.d hp.hd
  have t3 := num_itoa a.b hp.hb
  have hcc := hc
  have haa := ha
  simp only [okC, okA, Bool.and_eq_true, inB_iff] at hcc haa
  have b0 := bound_same (n := c.t) (by omega) (by omega)
  have b1 := bound_same (n := c.f) (by omega) (by omega)
  have b2 := bound_same (n := c.d) (by omega) (by omega)
  have b3 := bound_same (n := a.b) (by omega) (by omega)
  have hW : lineW c a = [nameAt 0 i, nameAt 1 p, Lib.itoa c.t, Lib.itoa c.f, Lib.itoa c.d, nameAt 2 m, Lib.itoa a.b, nameAt 3 (stN a.st)] := by
    unfold lineW
    rw [hp.ei, hp.ep, hp.em]
    rfl
  rw [hW]
  refine ⟨rfl, ?_, ?_, ?_⟩
  · simp [formP, k0, k1, k2, k3, t0, t1, t2, t3]
  · simp only [cfgP, List.getD_cons_zero, List.getD_cons_succ, k0, k1, t0, t1, t2, b0, b1, b2, ← hp.ei, ← hp.ep]
  · simp only [askP, List.getD_cons_zero, List.getD_cons_succ, k2, k3, t3, b3, ← hp.em]
    obtain ⟨mm, bb, st⟩ := a
    cases st <;> rfl
end Go.Proofs.YtmkdmnaonddghaaDoor
