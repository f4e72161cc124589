/- Texts as lists of octets: their pieces between octets of one kind, their words, and words joined. Conditions: none. -/
import GoSem.Claim
namespace Go.Proofs.YtngnnpmojaglnaaDoor

/-- What is not octet c. -/
def off (c x : UInt8) : Bool := x != c
/-- The pieces of a text, each but the last one up to an octet c; the last one has an octet. -/
def partsF (c : UInt8) : Nat → List UInt8 → List (List UInt8)
  | 0, _ => []
  | n + 1, l => if l = [] then [] else l.takeWhile (off c) :: partsF c n ((l.dropWhile (off c)).drop 1)
def parts (c : UInt8) (l : List UInt8) : List (List UInt8) := partsF c l.length l
/-- What stands between blanks. -/
def full (x : List UInt8) : Bool := !x.isEmpty
def wordsL (l : List UInt8) : List (List UInt8) := (parts 32 l).filter full

theorem drop_len (c : UInt8) (l : List UInt8) (h : l ≠ []) : ((l.dropWhile (off c)).drop 1).length < l.length := by
  have h1 : (l.dropWhile (off c)).length ≤ l.length := (List.dropWhile_sublist _).length_le
  have h2 : 0 < l.length := List.length_pos_iff.2 h
  rw [List.length_drop]
  omega
theorem partsF_any (c : UInt8) : ∀ (n m : Nat) (l : List UInt8), l.length ≤ n → l.length ≤ m → partsF c n l = partsF c m l
  | 0, m, l, h, _ => by
    obtain rfl : l = [] := List.eq_nil_of_length_eq_zero (by omega)
    cases m <;> simp [partsF]
  | n + 1, 0, l, _, h => by
    obtain rfl : l = [] := List.eq_nil_of_length_eq_zero (by omega)
    simp [partsF]
  | n + 1, m + 1, l, h1, h2 => by
    by_cases e : l = []
    · simp [partsF, e]
    · simp only [partsF, e, if_false]
      have := drop_len c l e
      rw [partsF_any c n m _ (by omega) (by omega)]
theorem parts_nil (c : UInt8) : parts c [] = [] := rfl
theorem parts_step (c : UInt8) (l : List UInt8) (h : l ≠ []) : parts c l = l.takeWhile (off c) :: parts c ((l.dropWhile (off c)).drop 1) := by
  have hl := drop_len c l h
  obtain ⟨n, hn⟩ : ∃ n, l.length = n + 1 := ⟨l.length - 1, by have := List.length_pos_iff.2 h; omega⟩
  unfold parts
  rw [hn]
  simp only [partsF, h, if_false]
  rw [partsF_any c n _ _ (by omega) (Nat.le_refl _)]
theorem takeWhile_app (c : UInt8) : ∀ (x r : List UInt8), c ∉ x → (x ++ c :: r).takeWhile (off c) = x ∧ (x ++ c :: r).dropWhile (off c) = c :: r
  | [], r, _ => by simp [off]
  | a :: x, r, h => by
    have ha : off c a = true := by simp only [off, bne_iff_ne]; intro e; subst e; simp at h
    have hx : c ∉ x := fun e => h (List.mem_cons_of_mem _ e)
    obtain ⟨e1, e2⟩ := takeWhile_app c x r hx
    simp [ha, e1, e2]
theorem takeWhile_all (c : UInt8) : ∀ (x : List UInt8), c ∉ x → x.takeWhile (off c) = x ∧ x.dropWhile (off c) = []
  | [], _ => by simp
  | a :: x, h => by
    have ha : off c a = true := by simp only [off, bne_iff_ne]; intro e; subst e; simp at h
    have hx : c ∉ x := fun e => h (List.mem_cons_of_mem _ e)
    obtain ⟨e1, e2⟩ := takeWhile_all c x hx
    simp [ha, e1, e2]
/-- A piece ahead of an octet c. -/
theorem parts_cut (c : UInt8) (x r : List UInt8) (h : c ∉ x) : parts c (x ++ c :: r) = x :: parts c r := by
  rw [parts_step c _ (by simp), (takeWhile_app c x r h).1, (takeWhile_app c x r h).2]
  rfl
/-- The last piece. -/
theorem parts_last (c : UInt8) (x : List UInt8) (h : c ∉ x) : parts c x = if x = [] then [] else [x] := by
  by_cases e : x = []
  · subst e; rfl
  · rw [parts_step c _ e, (takeWhile_all c x h).1, (takeWhile_all c x h).2, if_neg e]
    rfl
theorem words_cut (x r : List UInt8) (h : (32 : UInt8) ∉ x) : wordsL (x ++ 32 :: r) = (if x = [] then [] else [x]) ++ wordsL r := by
  unfold wordsL
  rw [parts_cut 32 x r h, List.filter_cons]
  by_cases e : x = []
  · simp [e, full]
  · simp [e, full]
theorem words_last (x : List UInt8) (h : (32 : UInt8) ∉ x) : wordsL x = if x = [] then [] else [x] := by
  unfold wordsL
  rw [parts_last 32 x h]
  by_cases e : x = []
  · simp [e]
  · simp [e, full]
/-- No piece has an octet c; there are at most as many as there are octets. -/
theorem partsF_off (c : UInt8) : ∀ (n : Nat) (l x : List UInt8), x ∈ partsF c n l → c ∉ x
  | 0, _, _, h => by simp [partsF] at h
  | n + 1, l, x, h => by
    by_cases e : l = []
    · simp [partsF, e] at h
    · simp only [partsF, e, if_false] at h
      rcases List.mem_cons.1 h with rfl | h
      · intro hc
        have := List.all_eq_true.1 (List.all_takeWhile (l := l) (p := off c)) c hc
        simp [off] at this
      · exact partsF_off c n _ _ h
theorem parts_len (c : UInt8) : ∀ (n : Nat) (l : List UInt8), l.length ≤ n → (parts c l).length ≤ l.length
  | 0, l, h => by
    obtain rfl : l = [] := List.eq_nil_of_length_eq_zero (by omega)
    simp [parts_nil]
  | n + 1, l, h => by
    by_cases e : l = []
    · simp [e, parts_nil]
    · have h1 := drop_len c l e
      have h2 := parts_len c n _ (show ((l.dropWhile (off c)).drop 1).length ≤ n by omega)
      rw [parts_step c l e, List.length_cons]
      omega
theorem parts_le (c : UInt8) (l : List UInt8) : (parts c l).length ≤ l.length := parts_len c _ l (Nat.le_refl _)
theorem words_le (l : List UInt8) : (wordsL l).length ≤ l.length := Nat.le_trans (List.length_filter_le _ _) (parts_le 32 l)

/-- Words with a blank between each two. -/
def joinL : List (List UInt8) → List UInt8
  | [] => []
  | [x] => x
  | x :: y :: r => x ++ 32 :: joinL (y :: r)
theorem join_snoc (x : List UInt8) : ∀ (l : List (List UInt8)), l ≠ [] → joinL (l ++ [x]) = joinL l ++ (32 :: x)
  | [], h => absurd rfl h
  | [a], _ => rfl
  | a :: b :: r, _ => by
    have ih := join_snoc x (b :: r) (by simp)
    simp only [List.cons_append, joinL] at ih ⊢
    rw [ih]
    simp
theorem join_one (x : List UInt8) : joinL ([] ++ [x]) = x := rfl
/-- May it be a word? -/
def Fine (x : List UInt8) : Prop := x ≠ [] ∧ (32 : UInt8) ∉ x
theorem words_fine {x : List UInt8} (h : Fine x) : wordsL x = [x] := by rw [words_last x h.2, if_neg h.1]
theorem fine_of {x : List UInt8} (h : wordsL x = [x]) : Fine x := by
  have hx : x ∈ wordsL x := by rw [h]; simp
  have h2 := List.mem_filter.1 hx
  exact ⟨by intro e; subst e; simp [full] at h2, partsF_off 32 _ _ _ h2.1⟩
theorem words_join : ∀ (l : List (List UInt8)), (∀ x ∈ l, Fine x) → wordsL (joinL l) = l
  | [], _ => rfl
  | [x], h => words_fine (h x (by simp))
  | x :: y :: r, h => by
    have hx := h x (by simp)
    have ih := words_join (y :: r) fun z hz => h z (List.mem_cons_of_mem _ hz)
    simp only [joinL]
    rw [words_cut x _ hx.2, if_neg hx.1, ih]
    rfl
end Go.Proofs.YtngnnpmojaglnaaDoor
