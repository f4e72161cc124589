/- What a program's octets tell: put, it is the octets; and a program's octets tell the program. Conditions: none. -/
import Derived.Test.YtcbekkbhhepeaaaDoorTold
namespace Go.Proofs.YtcbekkbhhepeaaaDoor
open Go.RowKit

/-! ### sound -/
theorem insP_sound {xs : List Int} (hs : Small xs) {a : Nat} {r s k : Int} {x : Ins} (h : insP xs a r s k = .ok x) : octI x = (xs.drop a).take 12 ∧ chkI x r s k = 0 := by
  have hl := insP_le h
  unfold insP at h
  rw [if_neg (by omega)] at h
  split at h
  · rename_i hz
    injection h with h
    subst h
    exact ⟨five_back (by rw [List.length_take, List.length_drop]; omega) ((hs.drop a).take 12), hz⟩
  · cases h
theorem drop_take_add (xs : List Int) (a n m : Nat) : (xs.drop a).take (n + m) = (xs.drop a).take n ++ (xs.drop (a + n)).take m := by
  rw [List.take_add, List.drop_drop]
theorem thrI_sound {xs : List Int} (hs : Small xs) {r s k : Int} : ∀ {j a : Nat} {l : List Ins}, thrI xs r s k j a = .ok l → l.flatMap octI = (xs.drop a).take (12 * j) ∧ chkT r s k l = 0
  | 0, a, l, h => by
    rw [thrI] at h
    injection h with h
    subst h
    exact ⟨by simp, rfl⟩
  | j + 1, a, l, h => by
    rw [thrI] at h
    split at h
    · cases h
    · rename_i x hx
      split at h
      · cases h
      · rename_i l' hl'
        injection h with h
        subst h
        obtain ⟨h1, h2⟩ := insP_sound hs hx
        obtain ⟨h3, h4⟩ := thrI_sound hs hl'
        refine ⟨?_, ?_⟩
        · rw [List.flatMap_cons, h1, h3, show 12 * (j + 1) = 12 + 12 * j by omega, drop_take_add xs a 12 (12 * j)]
        · rw [chkT, if_pos h2]
          exact h4
theorem thrP_sound {xs : List Int} (hs : Small xs) {a : Nat} {r s : Int} {l : List Ins} (h : thrP xs a r s = .ok l) : octT l = (xs.drop a).take (1 + 12 * l.length) ∧ chkT r s l.length l = 0 := by
  unfold thrP at h
  split at h
  · cases h
  · rename_i k hk
    obtain ⟨h0, h16, hx⟩ := num1_in hk
    have hn := thrI_len h
    obtain ⟨h1, h2⟩ := thrI_sound hs h
    have ek : (l.length : Int) = k := by omega
    obtain ⟨hi, hv⟩ := List.getElem?_eq_some_iff.1 hx
    refine ⟨?_, by rw [ek]; exact h2⟩
    have e1 : (xs.drop a).take 1 = [k] := by rw [List.drop_eq_getElem_cons hi, List.take_succ_cons, List.take_zero, hv]
    rw [drop_take_add xs a 1 (12 * l.length), octT, h1, e1, ek, dig_byte (by omega), hn]
    rfl
theorem thrs_sound {xs : List Int} (hs : Small xs) {r s : Int} : ∀ {t a : Nat} {m : List (List Ins)}, thrs xs r s t a = .ok m → octM m = (xs.drop a).take (sizeM m) ∧ chkM r s m = 0
  | 0, a, m, h => by
    rw [thrs] at h
    injection h with h
    subst h
    exact ⟨by simp [octM, sizeM], rfl⟩
  | t + 1, a, m, h => by
    rw [thrs] at h
    split at h
    · cases h
    · rename_i l hl
      split at h
      · cases h
      · rename_i ls hls
        injection h with h
        subst h
        obtain ⟨h1, h2⟩ := thrP_sound hs hl
        obtain ⟨h3, h4⟩ := thrs_sound hs hls
        refine ⟨?_, ?_⟩
        · unfold octM at h3 ⊢
          rw [List.flatMap_cons, h1, h3, sizeM, drop_take_add xs a (1 + 12 * l.length) (sizeM ls)]
        · rw [chkM, if_pos h2]
          exact h4
theorem headP_sound {xs : List Int} (hs : Small xs) {r c s n : Int} (h : headP xs = .ok (r, c, s, n)) : octH r c s n = xs.take 5 ∧ okHead r c s = true ∧ 1 ≤ n ∧ n ≤ 4 := by
  cases h0 : num1 xs 0 83 83 1 with
  | error e => rw [headP_0 h0] at h; cases h
  | ok v0 =>
  cases h1 : num1 xs 1 0 4 3 with
  | error e => rw [headP_1 h0 h1] at h; cases h
  | ok v1 =>
  cases h2 : num1 xs 2 0 6 3 with
  | error e => rw [headP_2 h0 h1 h2] at h; cases h
  | ok v2 =>
  cases h3 : num1 xs 3 0 2 3 with
  | error e => rw [headP_3 h0 h1 h2 h3] at h; cases h
  | ok v3 =>
  cases h4 : num1 xs 4 1 4 4 with
  | error e => rw [headP_4 h0 h1 h2 h3 h4] at h; cases h
  | ok v4 =>
    rw [headP_5 h0 h1 h2 h3 h4] at h
    injection h with h
    injection h with e1 h
    injection h with e2 h
    injection h with e3 e4
    subst e1 e2 e3 e4
    obtain ⟨a0, b0, x0⟩ := num1_in h0
    obtain ⟨a1, b1, x1⟩ := num1_in h1
    obtain ⟨a2, b2, x2⟩ := num1_in h2
    obtain ⟨a3, b3, x3⟩ := num1_in h3
    obtain ⟨a4, b4, x4⟩ := num1_in h4
    refine ⟨?_, by simp [okHead]; omega, a4, b4⟩
    match xs, x0, x1, x2, x3, x4 with
    | y0 :: y1 :: y2 :: y3 :: y4 :: t, x0, x1, x2, x3, x4 =>
      simp at x0 x1 x2 x3 x4
      subst x0 x1 x2 x3 x4
      unfold octH
      rw [dig_byte (by omega), dig_byte (by omega), dig_byte (by omega), dig_byte (by omega), dig_byte (by omega)]
      rw [show y0 = 83 by omega]
      rfl
/-- What octets tell, put, is the octets; and it may be. -/
theorem getP_sound {xs : List Int} (hs : Small xs) {p : Pr} (h : getP xs = .ok p) : octP p.r p.c p.s p.m = xs ∧ chkP p.r p.c p.s p.m = 0 := by
  obtain ⟨n, h1, h2, h3⟩ := getP_in h
  obtain ⟨k1, k2, k3, k4⟩ := headP_sound hs h1
  obtain ⟨j1, j2⟩ := thrs_sound hs h2
  have hn := thrs_len h2
  have en : (p.m.length : Int) = n := by omega
  refine ⟨?_, ?_⟩
  · unfold octP
    rw [en, k1, j1, List.take_of_length_le (l := xs.drop 5) (by rw [List.length_drop]; omega), List.take_append_drop]
  · unfold chkP
    rw [k2, if_neg (by decide), if_neg (by omega), if_neg ?_]
    · exact j2
    · simp only [List.any_eq_true, not_exists, not_and]
      intro l hl
      have := thrs_short h2 l hl
      simp [long]
      omega

/-! ### whole -/
def Wide (x : Ins) : Prop := (Lit.int .i64 x.n).wf = true
theorem chk_more {o a b c n r s k : Int} (hr : r ≤ 4) (hs : s ≤ 2) (hk : k ≤ 16) (h : chk o a b c n r s k = 0) : (1 ≤ o ∧ o ≤ 25) ∧ (0 ≤ a ∧ a ≤ 16) ∧ (0 ≤ b ∧ b ≤ 16) ∧ (0 ≤ c ∧ c ≤ 16) := by
  have fit : ∀ {l x : Int}, l ≠ 110 → fitB l x r s k = true → 0 ≤ x ∧ x ≤ 16 := by
    intro l x hl h
    unfold fitB at h
    simp only [inB] at h
    split at h
    · simp at h; omega
    split at h
    · simp at h; omega
    split at h
    · simp at h; omega
    split at h
    · simp at h; omega
    split at h
    · simp at h; omega
    simp at h
    omega
  unfold chk at h
  rcases shape_cases o with ⟨_, h'⟩ | ⟨ho, i, l0, l1, l2, l3, h1, h2, h', h4⟩
  · rw [h'] at h
    simp [chkL] at h
  · rw [h', h4] at h
    simp only [chkL] at h
    split at h
    · rename_i hf
      simp only [Bool.and_eq_true] at hf
      obtain ⟨⟨⟨f0, f1⟩, f2⟩, f3⟩ := hf
      have hn := shapes_abc i h1 h2
      rw [h4] at hn
      have n0 : (l0.toNat : Int) ≠ 110 := fun e => hn 0 (by omega) (UInt8.toNat_inj.1 (by simpa using (by omega : l0.toNat = 110)))
      have n1 : (l1.toNat : Int) ≠ 110 := fun e => hn 1 (by omega) (UInt8.toNat_inj.1 (by simpa using (by omega : l1.toNat = 110)))
      have n2 : (l2.toNat : Int) ≠ 110 := fun e => hn 2 (by omega) (UInt8.toNat_inj.1 (by simpa using (by omega : l2.toNat = 110)))
      exact ⟨of_decide_eq_true ho, fit n0 f0, fit n1 f1, fit n2 f2⟩
    · omega
theorem insP_back {xs rest : List Int} {a : Nat} {r s k : Int} {x : Ins} (hr : r ≤ 4) (hs : s ≤ 2) (hk : k ≤ 16) (hx : chkI x r s k = 0) (hw : Wide x) (h : xs.drop a = octI x ++ rest) : insP xs a r s k = .ok x := by
  obtain ⟨⟨o1, o2⟩, ⟨a1, a2⟩, ⟨b1, b2⟩, ⟨c1, c2⟩⟩ := chk_more hr hs hk hx
  have hl : xs.length - a = 12 + rest.length := by
    have := congrArg List.length h
    rw [List.length_drop, List.length_append, octI_len] at this
    exact this
  have e : insAt xs a = x := by
    have e12 : (xs.drop a).take 12 = octI x := by
      rw [h]
      exact List.take_left' rfl
    unfold insAt
    rw [e12]
    obtain ⟨o, a', b, c, n⟩ := x
    show (⟨dig o 0, dig a' 0, dig b 0, dig c 0, wrap64 (val (digs n 8))⟩ : Ins) = _
    rw [val_eight n hw, dig_byte (by simp only at o1 o2; omega), dig_byte (by simp only at a1 a2; omega), dig_byte (by simp only at b1 b2; omega), dig_byte (by simp only at c1 c2; omega)]
  unfold insP
  rw [if_neg (by omega), e, if_pos hx]
theorem chkT_cons {r s k : Int} {x : Ins} {t : List Ins} (h : chkT r s k (x :: t) = 0) : chkI x r s k = 0 ∧ chkT r s k t = 0 := by
  rw [chkT] at h
  split at h
  · rename_i hz
    exact ⟨hz, h⟩
  · rename_i hz
    exact absurd h hz
theorem chkM_cons {r s : Int} {l : List Ins} {t : List (List Ins)} (h : chkM r s (l :: t) = 0) : chkT r s l.length l = 0 ∧ chkM r s t = 0 := by
  rw [chkM] at h
  split at h
  · rename_i hz
    exact ⟨hz, h⟩
  · rename_i hz
    exact absurd h hz
theorem thrI_back {xs : List Int} {r s k : Int} (hr : r ≤ 4) (hs : s ≤ 2) (hk : k ≤ 16) : ∀ {l : List Ins} {a : Nat} {rest : List Int}, chkT r s k l = 0 → (∀ x ∈ l, Wide x) → xs.drop a = l.flatMap octI ++ rest → thrI xs r s k l.length a = .ok l
  | [], a, rest, _, _, _ => rfl
  | x :: t, a, rest, hc, hw, h => by
    obtain ⟨c1, c2⟩ := chkT_cons hc
    rw [List.flatMap_cons, List.append_assoc] at h
    have hd : xs.drop (a + 12) = t.flatMap octI ++ rest := by
      rw [← List.drop_drop, h]
      exact List.drop_left' rfl
    rw [List.length_cons, thrI, insP_back hr hs hk c1 (hw x (by simp)) h]
    simp only
    rw [thrI_back hr hs hk c2 (fun y hy => hw y (List.mem_cons_of_mem _ hy)) hd]
theorem at_of_drop {xs rest : List Int} {a : Nat} {x : Int} (h : xs.drop a = x :: rest) : xs[a]? = some x := by
  have := congrArg (fun l => l[0]?) h
  simpa using this
theorem thrP_back {xs rest : List Int} {r s : Int} {l : List Ins} {a : Nat} (hr : r ≤ 4) (hs : s ≤ 2) (hl : l.length ≤ 16) (hc : chkT r s l.length l = 0) (hw : ∀ x ∈ l, Wide x) (h : xs.drop a = octT l ++ rest) : thrP xs a r s = .ok l := by
  unfold octT at h
  rw [dig_byte (by omega), List.cons_append] at h
  unfold thrP
  rw [num1_ok (at_of_drop h) (by omega)]
  show thrI xs r s l.length (l.length : Int).toNat (a + 1) = _
  rw [Int.toNat_natCast]
  refine thrI_back hr hs (by omega) hc hw (rest := rest) ?_
  rw [← List.drop_drop, h]
  rfl
theorem octT_length (l : List Ins) : (octT l).length = 1 + 12 * l.length := by
  unfold octT
  rw [List.length_cons, octT_len]
  omega
theorem thrs_back {xs : List Int} {r s : Int} (hr : r ≤ 4) (hs : s ≤ 2) : ∀ {m : List (List Ins)} {a : Nat} {rest : List Int}, (∀ l ∈ m, l.length ≤ 16) → chkM r s m = 0 → (∀ l ∈ m, ∀ x ∈ l, Wide x) → xs.drop a = octM m ++ rest → thrs xs r s m.length a = .ok m
  | [], a, rest, _, _, _, _ => rfl
  | l :: t, a, rest, h16, hc, hw, h => by
    obtain ⟨c1, c2⟩ := chkM_cons hc
    unfold octM at h
    rw [List.flatMap_cons, List.append_assoc] at h
    have hd : xs.drop (a + (1 + 12 * l.length)) = octM t ++ rest := by
      rw [← List.drop_drop, h]
      exact List.drop_left' (octT_length l)
    rw [List.length_cons, thrs, thrP_back hr hs (h16 l (by simp)) c1 (hw l (by simp)) h]
    simp only
    rw [thrs_back hr hs (fun y hy => h16 y (List.mem_cons_of_mem _ hy)) c2 (fun y hy => hw y (List.mem_cons_of_mem _ hy)) hd]
/-- A program's octets tell it. -/
theorem getP_back {r c s : Int} {m : List (List Ins)} (h : chkP r c s m = 0) (hw : ∀ l ∈ m, ∀ x ∈ l, Wide x) : getP (octP r c s m) = .ok ⟨r, c, s, m⟩ := by
  obtain ⟨hh, h1, h4, h16, hM⟩ := chkP_parts h
  have hb : (0 ≤ r ∧ r ≤ 4) ∧ (0 ≤ c ∧ c ≤ 6) ∧ (0 ≤ s ∧ s ≤ 2) := by
    simp [okHead] at hh
    omega
  obtain ⟨hr, hc, hs⟩ := hb
  have e : octP r c s m = 83 :: r :: c :: s :: (m.length : Int) :: octM m := by
    unfold octP octH
    rw [dig_byte (by omega), dig_byte (by omega), dig_byte (by omega), dig_byte (by omega), dig_byte (by omega)]
    rfl
  have hT : thrs (octP r c s m) r s m.length 5 = .ok m := thrs_back (rest := []) hr.2 hs.2 h16 hM hw (by rw [e, List.append_nil]; rfl)
  have hlen : (octP r c s m).length = 5 + sizeM m := octP_len r c s m
  have g0 : num1 (octP r c s m) 0 83 83 1 = .ok 83 := num1_ok (by rw [e]; rfl) (by omega)
  have g1 : num1 (octP r c s m) 1 0 4 3 = .ok r := num1_ok (by rw [e]; rfl) hr
  have g2 : num1 (octP r c s m) 2 0 6 3 = .ok c := num1_ok (by rw [e]; rfl) hc
  have g3 : num1 (octP r c s m) 3 0 2 3 = .ok s := num1_ok (by rw [e]; rfl) hs
  have g4 : num1 (octP r c s m) 4 1 4 4 = .ok (m.length : Int) := num1_ok (by rw [e]; rfl) (by omega)
  rw [getP_5 g0 g1 g2 g3 g4]
  exact bodyP_ok (by rw [Int.toNat_natCast]; exact hT) (by omega)
end Go.Proofs.YtcbekkbhhepeaaaDoor
