/- Programs out of texts, as lists: an instruction out of a line's words, a program line by line; a shown program's lines give it back. Conditions: none. -/
import Derived.Test.YtodklfjoeehinaaDoorLawP
import Derived.Test.YtodklfjoeehinaaDoorSplits
import Derived.Test.YtodklfjoeehinaaDoorOpOf
namespace Go.Proofs.YtodklfjoeehinaaDoor
open Go.RowKit Nine

/-! ### a line's instruction -/
/-- The numbers that words tell, 0 where the letter is '-'; none where the words are not just a decimal for each other letter. -/
def opsA : List UInt8 → List (List UInt8) → Option (List Int)
  | [], ws => if ws = [] then some [] else none
  | c :: ls, ws =>
    if c = 45 then (opsA ls ws).map (0 :: ·)
    else match ws with
      | [] => none
      | w :: r => if (numL w).2 = true then (opsA ls r).map ((numL w).1 :: ·) else none
def narrow (n : Int) : Bool := decide (0 ≤ n) && decide (n ≤ 255)
def zeroI : Ins := ⟨0, 0, 0, 0, 0⟩
def insA (k : Nat) (l : Option (List Int)) : Ins × Int := match l with
  | some [a, b, c, n] => if narrow a && narrow b && narrow c then (⟨k, a, b, c, n⟩, 0) else (zeroI, 3)
  | _ => (zeroI, 1)
/-- The instruction that words are, and what is wrong with them. -/
def instrA (ws : List (List UInt8)) : Ins × Int := match ws with
  | [] => (zeroI, 2)
  | w :: r => if opOf w = 0 then (zeroI, 2) else insA (opOf w) (opsA (shapeAt (opOf w)) r)

theorem opsA_step (c : UInt8) (ls : List UInt8) (x : Int) (hx : Wide x) (r : List (List UInt8)) :
    opsA (c :: ls) ((if c = 45 then [] else [Lib.itoa x]) ++ r) = (opsA ls r).map ((if c = 45 then 0 else x) :: ·) := by
  by_cases h : c = 45
  · simp [opsA, h]
  · simp [opsA, h, num_itoa x hx]
theorem opsA_shown (l0 l1 l2 l3 : UInt8) {a b c n : Int} (ha : Wide a) (hb : Wide b) (hc : Wide c) (hn : Wide n) :
    opsA [l0, l1, l2, l3] (wordsK [l0, l1, l2, l3] a b c n 4) = some [if l0 = 45 then 0 else a, if l1 = 45 then 0 else b, if l2 = 45 then 0 else c, if l3 = 45 then 0 else n] := by
  have e : wordsK [l0, l1, l2, l3] a b c n 4 = (if l0 = 45 then [] else [Lib.itoa a]) ++ ((if l1 = 45 then [] else [Lib.itoa b]) ++ ((if l2 = 45 then [] else [Lib.itoa c]) ++ ((if l3 = 45 then [] else [Lib.itoa n]) ++ []))) := by
    simp [wordsK, wordAt, opd]
  rw [e, opsA_step _ _ _ ha, opsA_step _ _ _ hb, opsA_step _ _ _ hc, opsA_step _ _ _ hn]
  simp [opsA]
theorem fit_dash {l : UInt8} {n r s k : Int} (h : fitB l.toNat n r s k = true) (hl : l = 45) : n = 0 := by
  subst hl
  have e : ((45 : UInt8).toNat : Int) = 45 := rfl
  unfold fitB at h
  rw [e] at h
  simpa using h
theorem fit_narrow {l : UInt8} {n r s k : Int} (h : fitB l.toNat n r s k = true) (hl : l ≠ 110) (hr : r ≤ 4) (hs : s ≤ 2) (hk : k ≤ 16) : narrow n = true := by
  have hne : (l.toNat : Int) ≠ 110 := fun e => hl (UInt8.toNat_inj.1 (by show l.toNat = 110; omega))
  unfold fitB inB at h
  unfold narrow
  simp only [Bool.and_eq_true, decide_eq_true_eq]
  split at h
  · simp only [Bool.and_eq_true, decide_eq_true_eq] at h; omega
  split at h
  · simp only [Bool.and_eq_true, decide_eq_true_eq] at h; omega
  split at h
  · simp only [Bool.and_eq_true, decide_eq_true_eq] at h; omega
  split at h
  · simp only [Bool.and_eq_true, decide_eq_true_eq] at h; omega
  split at h
  · simp only [Bool.and_eq_true, decide_eq_true_eq] at h; omega
  · simp only [decide_eq_true_eq] at h; omega
theorem instr_back {x : Ins} {r s k : Int} (h : chkI x r s k = 0) (hr : r ≤ 4) (hs : s ≤ 2) (hk : k ≤ 16) (hw : WideI x) : instrA (wordsZ x.o x.a x.b x.c x.n 4) = (x, 0) := by
  obtain ⟨ha, hb, hc, hn⟩ := hw
  rcases shape_cases x.o with ⟨_, h1⟩ | ⟨ho, i, l0, l1, l2, l3, hi1, hi2, h1, h4⟩
  · unfold chkI chk at h
    rw [h1] at h
    cases h
  · have hb0 : 1 ≤ x.o ∧ x.o ≤ 25 := of_decide_eq_true ho
    have e0 : nameZ x.o = nameAt x.o.toNat := by simp [nameZ, ho]
    have e1 : shapeZ x.o = shapeAt x.o.toNat := by simp [shapeZ, ho]
    have e2 : opOf (nameZ x.o) = x.o.toNat := by rw [e0]; exact opOf_some (by omega) (by omega)
    have h5 : shapeAt x.o.toNat = [l0, l1, l2, l3] := by rw [← e1, h1, h4]
    have h6 := shapes_abc i hi1 hi2
    rw [h4] at h6
    have n0 := h6 0 (by decide)
    have n1 := h6 1 (by decide)
    have n2 := h6 2 (by decide)
    simp at n0 n1 n2
    unfold chkI chk chkL at h
    rw [e1, h5] at h
    simp only at h
    split at h
    · rename_i hf
      simp only [Bool.and_eq_true] at hf
      obtain ⟨⟨⟨f0, f1⟩, f2⟩, f3⟩ := hf
      have g0 := fit_narrow f0 n0 hr hs hk
      have g1 := fit_narrow f1 n1 hr hs hk
      have g2 := fit_narrow f2 n2 hr hs hk
      have z : ∀ (l : UInt8) (v : Int), (l = 45 → v = 0) → (if l = 45 then 0 else v) = v := fun l v hv => by
        split
        · rename_i hl; exact (hv hl).symm
        · rfl
      have hops := opsA_shown l0 l1 l2 l3 ha hb hc hn
      rw [z l0 _ (fit_dash f0), z l1 _ (fit_dash f1), z l2 _ (fit_dash f2), z l3 _ (fit_dash f3)] at hops
      have e3 : ((x.o.toNat : Nat) : Int) = x.o := by omega
      have e4 : ¬ x.o.toNat = 0 := by omega
      unfold wordsZ instrA
      simp only
      rw [e2, if_neg e4, e1, h5, hops]
      simp only [insA, g0, g1, g2, Bool.and_self, if_true, e3]
    · cases h

/-! ### words of lines -/
theorem cut_at {c : UInt8} : ∀ (a : List UInt8), c ∈ a → ∃ x r, a = x ++ c :: r ∧ c ∉ x
  | [], h => by simp at h
  | y :: a, h => by
    by_cases e : y = c
    · subst e; exact ⟨[], a, rfl, by simp⟩
    · obtain ⟨x, r, h1, h2⟩ := cut_at a (by
        rcases List.mem_cons.1 h with h | h
        · exact absurd h.symm e
        · exact h)
      refine ⟨y :: x, r, by rw [h1]; rfl, ?_⟩
      simp only [List.mem_cons, not_or]
      exact ⟨fun h => e h.symm, h2⟩
theorem words_mid (b : List UInt8) : ∀ (n : Nat) (a : List UInt8), a.length ≤ n → wordsL (a ++ 32 :: b) = wordsL a ++ wordsL b
  | n, a, h => by
    by_cases hb : (32 : UInt8) ∈ a
    · obtain ⟨x, r, rfl, hx⟩ := cut_at a hb
      match n with
      | 0 => simp at h
      | n + 1 =>
        have ih := words_mid b n r (by simp at h; omega)
        have e : x ++ 32 :: r ++ 32 :: b = x ++ 32 :: (r ++ 32 :: b) := by simp
        rw [e, words_cut x _ hx, words_cut x r hx, ih]
        simp
    · rw [words_cut a b hb, words_last a hb]
theorem words_pad (l : List UInt8) : wordsL (l ++ [32]) = wordsL l := by
  rw [words_mid [] l.length l (Nat.le_refl _)]
  show wordsL l ++ [] = wordsL l
  simp
theorem words_ahead (l : List UInt8) : wordsL (32 :: l) = wordsL l := by
  have := words_cut [] l (by simp)
  simpa using this

theorem decD_noblank (u : Nat) : (32 : UInt8) ∉ decD u := by
  induction u using Nat.strongRecOn with
  | _ u ih =>
    by_cases h : u = 0
    · subst h; simp [decD]
    · rw [decD_step u h]
      simp only [List.mem_append, List.mem_singleton, not_or]
      refine ⟨ih (u / 10) (by omega), fun e => ?_⟩
      have h1 := digit_nat (u % 10) (by omega)
      rw [← e] at h1
      have : (32 : UInt8).toNat = 32 := rfl
      omega
theorem itoa_fine (n : Int) : Fine (Lib.itoa n) := by
  rcases Int.lt_trichotomy n 0 with h | h | h
  · rw [itoa_neg n h]
    refine ⟨by simp, ?_⟩
    simp only [List.mem_cons, not_or]
    exact ⟨by decide, decD_noblank _⟩
  · subst h
    rw [itoa_zero]
    exact ⟨by simp, by decide⟩
  · rw [itoa_pos n h]
    refine ⟨?_, decD_noblank _⟩
    rw [decD_step _ (by omega)]
    simp
theorem nameAt_fine (k : Nat) (h1 : 1 ≤ k) (h2 : k ≤ 25) : Fine (nameAt k) :=
  ⟨nameAt_some k h1 h2, (by decide +kernel : ∀ k, k < 26 → (32 : UInt8) ∉ nameAt k) k (by omega)⟩
theorem wordsK_fine (ls : List UInt8) (a b c n : Int) : ∀ k, ∀ x ∈ wordsK ls a b c n k, Fine x
  | 0, x, hx => by simp [wordsK] at hx
  | k + 1, x, hx => by
    rcases List.mem_append.1 hx with hx | hx
    · exact wordsK_fine ls a b c n k x hx
    · unfold wordAt at hx
      split at hx
      · simp at hx
      · simp at hx
        subst hx
        exact itoa_fine _
theorem words_line {x : Ins} {r s k : Int} (h : chkI x r s k = 0) : wordsL (lineI x) = wordsZ x.o x.a x.b x.c x.n 4 := by
  unfold lineI lineZ
  refine words_join _ fun y hy => ?_
  rcases List.mem_cons.1 hy with rfl | hy
  · rcases shape_cases x.o with ⟨_, h1⟩ | ⟨ho, _⟩
    · unfold chkI chk at h
      rw [h1] at h
      cases h
    · have hb0 : 1 ≤ x.o ∧ x.o ≤ 25 := of_decide_eq_true ho
      have e0 : nameZ x.o = nameAt x.o.toNat := by simp [nameZ, ho]
      rw [e0]
      exact nameAt_fine _ (by omega) (by omega)
  · exact wordsK_fine _ _ _ _ _ _ _ hy

/-! ### line by line -/
/-- What a program's lines told so far. -/
structure St where
  g : Bool
  r : Int
  c : Int
  s : Int
  xss : List (List Ins)
def St.none : St := ⟨false, 0, 0, 0, []⟩
/-- A line's words turn the one into the other. -/
def Step (t : St) (ws : List (List UInt8)) (u : St) : Prop :=
  ((ws = [] ∨ ∃ w q, ws = (35 :: w) :: q) ∧ u = t) ∨
  (∃ r c s, (0 ≤ r ∧ r ≤ 255) ∧ (0 ≤ c ∧ c ≤ 255) ∧ (0 ≤ s ∧ s ≤ 255) ∧ t = St.none ∧ ws = [wFirst, Lib.itoa r, Lib.itoa c, Lib.itoa s] ∧ u = ⟨true, r, c, s, []⟩) ∨
  (∃ r c s xss, xss.length < 4 ∧ t = ⟨true, r, c, s, xss⟩ ∧ ws = [wThread] ∧ u = ⟨true, r, c, s, xss ++ [[]]⟩) ∨
  (∃ r c s xss xs x, xss.length < 4 ∧ xs.length < 16 ∧ instrA ws = (x, 0) ∧ t = ⟨true, r, c, s, xss ++ [xs]⟩ ∧ u = ⟨true, r, c, s, xss ++ [xs ++ [x]]⟩)
def Runs : St → List (List UInt8) → St → Prop
  | t, [], u => t = u
  | t, l :: ls, u => ∃ v, Step t (wordsL l) v ∧ Runs v ls u
theorem runs_app : ∀ (a : List (List UInt8)) (t v u : St) (b : List (List UInt8)), Runs t a v → Runs v b u → Runs t (a ++ b) u
  | [], t, v, u, b, h, k => by
    obtain rfl : t = v := h
    exact k
  | l :: a, t, v, u, b, ⟨z, h1, h2⟩, k => ⟨z, h1, runs_app a z v u b h2 k⟩
theorem runs_cut : ∀ (a : List (List UInt8)) (t u : St) (b : List (List UInt8)), Runs t (a ++ b) u → ∃ v, Runs t a v ∧ Runs v b u
  | [], t, u, b, h => ⟨t, rfl, h⟩
  | l :: a, t, u, b, ⟨z, h1, h2⟩ => by
    obtain ⟨v, h3, h4⟩ := runs_cut a z u b h2
    exact ⟨v, ⟨z, h1, h3⟩, h4⟩
theorem runs_code {r c s k : Int} (hr : r ≤ 4) (hs : s ≤ 2) (hk : k ≤ 16) (R C S : Int) (xss : List (List Ins)) (hx : xss.length < 4) : ∀ (ys xs : List Ins), chkT r s k ys = 0 → (∀ x ∈ ys, WideI x) → xs.length + ys.length ≤ 16 →
    Runs ⟨true, R, C, S, xss ++ [xs]⟩ (ys.map lineI) ⟨true, R, C, S, xss ++ [xs ++ ys]⟩
  | [], xs, _, _, _ => by simp [Runs]
  | y :: t, xs, h, hw, hl => by
    rw [chkT] at h
    split at h
    · rename_i h0
      simp only [List.length_cons] at hl
      refine ⟨⟨true, R, C, S, xss ++ [xs ++ [y]]⟩, .inr (.inr (.inr ⟨R, C, S, xss, xs, y, hx, by omega, ?_, rfl, rfl⟩)), ?_⟩
      · rw [words_line h0]
        exact instr_back h0 hr hs hk (hw y (by simp))
      · have := runs_code (c := c) hr hs hk R C S xss hx t (xs ++ [y]) h (fun x hx => hw x (List.mem_cons_of_mem _ hx)) (by simp; omega)
        simpa using this
    · rename_i h0
      exact absurd h h0
theorem runs_thread : ∀ (zss : List (List Ins)) (r c s : Int) (xss : List (List Ins)), r ≤ 4 → s ≤ 2 → chkM r s zss = 0 → (∀ xs ∈ zss, ∀ x ∈ xs, WideI x) → (∀ xs ∈ zss, xs.length ≤ 16) → xss.length + zss.length ≤ 4 →
    Runs ⟨true, r, c, s, xss⟩ (linesM zss) ⟨true, r, c, s, xss ++ zss⟩
  | [], r, c, s, xss, _, _, _, _, _, _ => by simp [linesM, Runs]
  | y :: t, r, c, s, xss, hr, hs, h, hw, hl, hn => by
    rw [chkM] at h
    split at h
    · rename_i h0
      simp only [List.length_cons] at hn
      have e : linesM (y :: t) = wThread :: (y.map lineI ++ linesM t) := by simp [linesM]
      rw [e]
      have hy := hl y (by simp)
      refine ⟨⟨true, r, c, s, xss ++ [[]]⟩, .inr (.inr (.inl ⟨r, c, s, xss, by omega, rfl, ?_, rfl⟩)), ?_⟩
      · exact words_fine ⟨by simp [wThread], by decide⟩
      · refine runs_app _ _ ⟨true, r, c, s, xss ++ [y]⟩ _ _ ?_ ?_
        · have := runs_code (c := c) hr hs (k := y.length) (by omega) r c s xss (by omega) y [] h0 (hw y (by simp)) (by simpa using hy)
          simpa using this
        · have := runs_thread t r c s (xss ++ [y]) hr hs h (fun xs hx => hw xs (List.mem_cons_of_mem _ hx)) (fun xs hx => hl xs (List.mem_cons_of_mem _ hx)) (by simp; omega)
          simpa using this
    · rename_i h0
      exact absurd h h0
/-- A shown program's lines. -/
def linesP (r c s : Int) (xss : List (List Ins)) : List (List UInt8) := joinL [wFirst, Lib.itoa r, Lib.itoa c, Lib.itoa s] :: linesM xss
theorem runs_prog {r c s : Int} {xss : List (List Ins)} (h : chkP r c s xss = 0) (hw : ∀ xs ∈ xss, ∀ x ∈ xs, WideI x) : Runs St.none (linesP r c s xss) ⟨true, r, c, s, xss⟩ := by
  obtain ⟨h1, _, h3, h4, h5⟩ := chkP_parts h
  unfold okHead at h1
  simp only [Bool.and_eq_true, decide_eq_true_eq] at h1
  refine ⟨⟨true, r, c, s, []⟩, .inr (.inl ⟨r, c, s, by omega, by omega, by omega, rfl, ?_, rfl⟩), ?_⟩
  · refine words_join _ fun x hx => ?_
    simp at hx
    rcases hx with rfl | rfl | rfl | rfl
    · exact ⟨by simp [wFirst], by decide⟩
    · exact itoa_fine _
    · exact itoa_fine _
    · exact itoa_fine _
  · have := runs_thread xss r c s [] (by omega) (by omega) h5 hw h4 (by simpa using h3)
    simpa using this

/-! ### lines of texts -/
def textOf (ls : List (List UInt8)) : List UInt8 := ls.flatMap fun l => l ++ [10]
theorem textOf_app (a b : List (List UInt8)) : textOf (a ++ b) = textOf a ++ textOf b := by simp [textOf]
theorem parts_text : ∀ (ls : List (List UInt8)), (∀ l ∈ ls, (10 : UInt8) ∉ l) → parts 10 (textOf ls) = ls
  | [], _ => rfl
  | l :: t, h => by
    have ih := parts_text t fun y hy => h y (List.mem_cons_of_mem _ hy)
    have e : textOf (l :: t) = l ++ 10 :: textOf t := by simp [textOf]
    rw [e, parts_cut 10 l _ (h l (by simp)), ih]
theorem textP_of (r c s : Int) (xss : List (List Ins)) : textP r c s xss = textOf (linesP r c s xss) := by
  rw [textP, headL, textM_flat]
  simp [textOf, linesP]
theorem linesP_nofeed (r c s : Int) (xss : List (List Ins)) : ∀ l ∈ linesP r c s xss, (10 : UInt8) ∉ l := by
  intro l hl
  rcases List.mem_cons.1 hl with rfl | hl
  · exact head_nofeed r c s
  · exact linesM_nofeed xss l hl
theorem parts_textP (r c s : Int) (xss : List (List Ins)) : parts 10 (textP r c s xss) = linesP r c s xss := by
  rw [textP_of, parts_text _ (linesP_nofeed r c s xss)]
theorem linesP_len (r c s : Int) (xss : List (List Ins)) : (linesP r c s xss).length = 1 + cntM xss := by
  rw [linesP, List.length_cons, linesM_len]
  omega
theorem linesP_short {r c s : Int} {xss : List (List Ins)} (h : Good r c s xss) : ∀ l ∈ linesP r c s xss, l.length ≤ 110 := by
  intro l hl
  rcases List.mem_cons.1 hl with rfl | hl
  · exact head_short h.wr h.wc h.ws
  · obtain ⟨xs, hx, hl⟩ := List.mem_flatMap.1 hl
    rcases List.mem_cons.1 hl with rfl | hl
    · decide
    · obtain ⟨x, hx2, rfl⟩ := List.mem_map.1 hl
      exact lineI_short (h.wide xs hx x hx2)

/-! ### notes -/
/-- A line, with what an octet lays ahead of it and behind it. -/
def noteL (k : Nat) (l : List UInt8) : List (List UInt8) :=
  (if k % 4 = 1 then [[35, 32, 104, 97, 108, 116]] else []) ++ (if k % 4 = 2 then [[32, 32, 32]] else []) ++ [(if k % 3 = 1 then [32, 32] else []) ++ l ++ [32]]
def noted (f : Nat → Nat) (ls : List (List UInt8)) : Nat → List (List UInt8)
  | 0 => []
  | i + 1 => noted f ls i ++ noteL (f i) (ls.getD i [])
theorem step_skip (t : St) (ws : List (List UInt8)) (h : ws = [] ∨ ∃ w q, ws = (35 :: w) :: q) : Step t ws t := .inl ⟨h, rfl⟩
theorem runs_note (k : Nat) (l : List UInt8) (t u : St) (h : Step t (wordsL l) u) : Runs t (noteL k l) u := by
  have e : wordsL ((if k % 3 = 1 then [32, 32] else []) ++ l ++ [32]) = wordsL l := by
    rw [words_pad]
    split
    · show wordsL (32 :: 32 :: l) = _
      rw [words_ahead, words_ahead]
    · rfl
  have h1 : Runs t [(if k % 3 = 1 then [32, 32] else []) ++ l ++ [32]] u := ⟨u, by rw [e]; exact h, rfl⟩
  have a1 : wordsL [35, 32, 104, 97, 108, 116] = [[35], [104, 97, 108, 116]] := by decide +kernel
  have a2 : wordsL [32, 32, 32] = [] := by decide +kernel
  unfold noteL
  rw [List.append_assoc]
  refine runs_app _ _ t _ _ ?_ (runs_app _ _ t _ _ ?_ h1)
  · split
    · exact ⟨t, step_skip _ _ (.inr ⟨[], [[104, 97, 108, 116]], a1⟩), rfl⟩
    · rfl
  · split
    · exact ⟨t, step_skip _ _ (.inl a2), rfl⟩
    · rfl
theorem runs_noted (f : Nat → Nat) (ls : List (List UInt8)) (t : St) : ∀ (i : Nat) (u : St), i ≤ ls.length → Runs t (ls.take i) u → Runs t (noted f ls i) u
  | 0, u, _, h => by simpa [noted] using h
  | i + 1, u, hi, h => by
    rw [List.take_succ_eq_append_getElem (by omega)] at h
    obtain ⟨v, h1, h2⟩ := runs_cut _ _ _ _ h
    obtain ⟨z, h3, rfl⟩ := h2
    refine runs_app _ _ v _ _ (runs_noted f ls t i v (by omega) h1) ?_
    have e : ls.getD i [] = ls[i] := by simp [List.getD, List.getElem?_eq_getElem (show i < ls.length by omega)]
    rw [e]
    exact runs_note _ _ _ _ h3
theorem noteL_nofeed (k : Nat) {l : List UInt8} (h : (10 : UInt8) ∉ l) : ∀ x ∈ noteL k l, (10 : UInt8) ∉ x := by
  intro x hx
  unfold noteL at hx
  rcases List.mem_append.1 hx with hx | hx
  · rcases List.mem_append.1 hx with hx | hx
    · split at hx
      · simp at hx; subst hx; decide
      · simp at hx
    · split at hx
      · simp at hx; subst hx; decide
      · simp at hx
  · rw [List.mem_singleton] at hx
    subst hx
    simp only [List.mem_append, not_or]
    refine ⟨⟨?_, h⟩, by decide⟩
    split
    · decide
    · simp
theorem noted_nofeed (f : Nat → Nat) (ls : List (List UInt8)) (h : ∀ l ∈ ls, (10 : UInt8) ∉ l) : ∀ i, ∀ x ∈ noted f ls i, (10 : UInt8) ∉ x
  | 0, x, hx => by simp [noted] at hx
  | i + 1, x, hx => by
    rcases List.mem_append.1 hx with hx | hx
    · exact noted_nofeed f ls h i x hx
    · refine noteL_nofeed (f i) ?_ x hx
      rw [List.getD]
      cases e : ls[i]? with
      | none => simp
      | some y => exact h y (List.mem_of_getElem? e)
theorem noteL_short (k : Nat) {l : List UInt8} (h : l.length ≤ 110) : (textOf (noteL k l)).length ≤ 130 := by
  unfold noteL textOf
  simp only [List.flatMap_append, List.length_append]
  have a : ((if k % 4 = 1 then [[35, 32, 104, 97, 108, 116]] else [] : List (List UInt8)).flatMap fun l => l ++ [10]).length ≤ 7 := by split <;> simp
  have b : ((if k % 4 = 2 then [[32, 32, 32]] else [] : List (List UInt8)).flatMap fun l => l ++ [10]).length ≤ 4 := by split <;> simp
  have c : ([(if k % 3 = 1 then [32, 32] else [] : List UInt8) ++ l ++ [32]].flatMap fun l => l ++ [10]).length ≤ 114 := by
    split <;> simp <;> omega
  omega
theorem noted_short (f : Nat → Nat) (ls : List (List UInt8)) (h : ∀ l ∈ ls, l.length ≤ 110) : ∀ i, (textOf (noted f ls i)).length ≤ 130 * i
  | 0 => by simp [noted, textOf]
  | i + 1 => by
    have ih := noted_short f ls h i
    have h1 : (ls.getD i []).length ≤ 110 := by
      rw [List.getD]
      cases e : ls[i]? with
      | none => simp
      | some y => exact h y (List.mem_of_getElem? e)
    have h2 := noteL_short (f i) h1
    rw [noted, textOf_app, List.length_append]
    omega
end Go.Proofs.YtodklfjoeehinaaDoor
