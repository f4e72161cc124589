/- Numbers, a word, words, written. Conditions: at most 900000000000 octets. -/
import Derived.Test.YtfmkmmmaoiepmaaWri
namespace Go.Proofs.Ytfmkmmmaoiepmaa
set_option linter.unusedSimpArgs false
set_option linter.unusedVariables false
open Go.RowKit Go.ChangeShapes Go.WideShapes

def flatW (l : List Wd) : List Value := l.flatMap Wd.cs
def flatE (l : List Ent) : List Value := l.flatMap Ent.cs
def flatC (l : List Cel) : List Value := l.flatMap Cel.cs
/-- A slice that reads as such words, entries, cells. -/
def SeesW (w : World) (A : Option Addr) (n cap : Nat) (l : List Wd) : Prop := Sees w 3 A n cap (flatW l)
def SeesE (w : World) (A : Option Addr) (n cap : Nat) (l : List Ent) : Prop := Sees w 8 A n cap (flatE l)
def SeesC (w : World) (A : Option Addr) (n cap : Nat) (l : List Cel) : Prop := Sees w 10 A n cap (flatC l)
theorem sees_len {α : Type} {f : α → List Value} {k : Nat} (hf : ∀ x, (f x).length = k) (hk : 0 < k) {w : World} {A : Option Addr} {n cap : Nat} {l : List α} (h : Sees w k A n cap (l.flatMap f)) : l.length = n := by
  have := h.len
  rw [flat_len hf] at this
  exact Nat.eq_of_mul_eq_mul_right hk this
section
variable {w w' : World} {A : Option Addr} {n cap : Nat}
theorem SeesW.on {l : List Wd} (h : SeesW w A n cap l) (hb : Below w.heap.size w w') : SeesW w' A n cap l := Sees.below h hb
theorem SeesW.len {l : List Wd} (h : SeesW w A n cap l) : l.length = n := sees_len Wd.len (by decide) h
theorem SeesW.get {l : List Wd} (h : SeesW w A n cap l) {k : Nat} (hk : k < n) : ∃ g o, A = some ⟨g, o, none⟩ ∧ w.rangeAt g (o + k * 3) (l.getD k noW).cs := by
  have hl := h.len
  have hx : l[k]? = some (l.getD k noW) := by simp [List.getD, List.getElem?_eq_getElem (show k < l.length by omega)]
  exact sees_at Wd.len h hx (by omega)
theorem SeesE.on {l : List Ent} (h : SeesE w A n cap l) (hb : Below w.heap.size w w') : SeesE w' A n cap l := Sees.below h hb
theorem SeesE.len {l : List Ent} (h : SeesE w A n cap l) : l.length = n := sees_len Ent.len (by decide) h
theorem SeesE.get {l : List Ent} (h : SeesE w A n cap l) {k : Nat} (hk : k < n) : ∃ g o, A = some ⟨g, o, none⟩ ∧ w.rangeAt g (o + k * 8) (l.getD k noE).cs := by
  have hl := h.len
  have hx : l[k]? = some (l.getD k noE) := by simp [List.getD, List.getElem?_eq_getElem (show k < l.length by omega)]
  exact sees_at Ent.len h hx (by omega)
theorem SeesC.on {l : List Cel} (h : SeesC w A n cap l) (hb : Below w.heap.size w w') : SeesC w' A n cap l := Sees.below h hb
theorem SeesC.len {l : List Cel} (h : SeesC w A n cap l) : l.length = n := sees_len Cel.len (by decide) h
theorem SeesC.get {l : List Cel} (h : SeesC w A n cap l) {k : Nat} (hk : k < n) : ∃ g o, A = some ⟨g, o, none⟩ ∧ w.rangeAt g (o + k * 10) (l.getD k noC).cs := by
  have hl := h.len
  have hx : l[k]? = some (l.getD k noC) := by simp [List.getD, List.getElem?_eq_getElem (show k < l.length by omega)]
  exact sees_at Cel.len h hx (by omega)
end
theorem take_get {α : Type} (l : List α) (d : α) {k : Nat} (hk : k < l.length) : l.take (k + 1) = l.take k ++ [l.getD k d] := by
  rw [List.take_succ_eq_append_getElem hk]
  simp [List.getD, List.getElem?_eq_getElem hk]
theorem take_all {α : Type} {l : List α} {k n : Nat} (hl : l.length = n) (hk : ¬ k < n) : l.take k = l := List.take_of_length_le (by omega)
theorem many_len {α : Type} (f : α → List Int) (l : List α) : (many f l).length = 1 + (l.flatMap f).length := by simp [many]; omega
theorem flat_ns {α : Type} {f : α → List Int} {k : Nat} (hf : ∀ x, (f x).length = k) (l : List α) : (l.flatMap f).length = k * l.length := by
  induction l with
  | nil => simp
  | cons x l ih => rw [List.flatMap_cons, List.length_append, hf, ih, List.length_cons, Nat.mul_add]; omega
theorem octs_flat {α : Type} (f : α → List Int) (l : List α) (x : α) (xs : List Int) : xs ++ octs (l.flatMap f) ++ octs (f x) = xs ++ octs ((l ++ [x]).flatMap f) := by
  rw [List.append_assoc, ← octs_app, List.flatMap_append, List.flatMap_singleton]
theorem sees_blk {w : World} {g : Nat} {t : TypeId} {l : List Int} (h : Blk w g t (ints l).toArray) (hl : l.length ≤ 1000) : SeesI w (some ⟨g, 0, none⟩) l.length l.length l :=
  ⟨by unfold ints; rw [flat_len int1_len], Nat.le_refl _, by unfold maxLen; omega, fun e => (by cases e), fun ad e _ => by
    cases e
    exact ⟨g, 0, rfl, h.lt, range_blk h⟩⟩
/-- Numbers that were laid for a variadic call. -/
theorem firm_ints {p g : Nat} {w : World} {l : List Int} (h : Blk w g 3 (ints l).toArray) (hg : g ≠ p) (hl : l.length ≤ 1000) : Firm p (fun W => SeesI W (some ⟨g, 0, none⟩) l.length l.length l) w := fun _ k => sees_blk (h.stay k (by decide) hg) hl
/-- A list that lies below the writer. -/
theorem firm_sees {p k n cap : Nat} {w : World} {A : Option Addr} {vs : List Value} (h : Sees w k A n cap vs) (hp : ∀ g, holds A n g → g < p) : Firm p (fun W => Sees W k A n cap vs) w := fun w' s =>
  h.kept (S := fun g => ¬ g < p) ⟨s.os, s.tape, s.output, s.size, fun k hk hn => s.block k hk (by omega) (.inl (by omega))⟩ (fun g hg hn => hn (hp g hg))
theorem octs_word (x : Wd) (xs : List Int) : xs ++ oct8 x.n ++ octs [x.c, x.g] = xs ++ octs x.ns := by
  rw [List.append_assoc]
  rfl
set_option maxRecDepth 100000 in
set_option maxHeartbeats 4000000 in
theorem numbers_any (p : Nat) (xs l : List Int) (A : Option Addr) (n cap : Nat) (w : World) (h : Wri p xs w) (hs : Firm p (fun W => SeesI W A n cap l) w) (hn : xs.length + 8 * n ≤ 900000000000) : Calls Try.prog 40 #[.pointer (some ⟨p, 0, none⟩), .slice A n cap] w fun e w' => e = .returned (.tuple #[]) ∧ Wri p (xs ++ octs (l)) w' ∧ Stays p w w' := by
  have hl := (hs.now).len
  have HL := Lib.hid hl
  have hmx := Sees.most hs.now
  have hrm := Sees.room hs.now
  unfold maxLen at hmx
  have HN := Lib.hid hn
  clear hn hl
  go_enter Try.func40, Try.ntmps40
  go_wp2
  go_loopw [5, 8] (fun _ i wr => ∃ k : Nat, k ≤ n ∧ i = .int .i64 k ∧ Wri p (xs ++ octs (l.take k)) wr ∧ Stays p w wr) (fun _ i _ => n - (intOf i).toNat)
  case atStart => exact ⟨0, Nat.zero_le _, rfl, by rw [List.take_zero, octs_nil, List.append_nil]; exact h, Stays.refl _ _⟩
  case round =>
    obtain ⟨k, hk, rfl, q, st⟩ := hrel
    clear h
    by_cases hlt : k < n
    · obtain ⟨g, o, rfl, c0⟩ := (hs.stay st).now.get hlt
      have HT := Lib.hid (take_get l 0 (by rw [HL.out]; exact hlt))
      generalize l.getD k 0 = x at c0 HT
      have hkI : (k : Int) < (n : Int) := by omega
      have hk0 : (0 : Int) ≤ (k : Int) := by omega
      go_wp2_with fail
      refine (number_any p _ x wr q (by have := HN.out; have := HL.out; rw [List.length_append, octs_len, List.length_take]; omega)).mono ?_
      rintro e w1 ⟨rfl, q1, k1⟩
      clear c0
      go_wp2
      go_roundw
      case rel => exact ⟨k + 1, by omega, by go_num, by rw [HT.out, octs_snoc, ← List.append_assoc]; exact q1, st.trans k1⟩
      case measure => simp [intOf]; omega
    · have hkI : ¬ (k : Int) < (n : Int) := by omega
      go_wp2
      go_end0
      rw [take_all HL.out hlt] at q
      exact ⟨rfl, q, st⟩
set_option maxRecDepth 100000 in
set_option maxHeartbeats 4000000 in
theorem word_any (p : Nat) (xs : List Int) (x : Wd) (w : World) (h : Wri p xs w) (hn : xs.length + 24 ≤ 900000000000) : Calls Try.prog 49 #[.pointer (some ⟨p, 0, none⟩), .agg x.cs.toArray] w fun e w' => e = .returned (.tuple #[]) ∧ Wri p (xs ++ octs (x.ns)) w' ∧ Stays p w w' := by
  have q := h
  have HN := Lib.hid hn
  clear hn
  have st : Stays p w w := Stays.refl p w
  obtain ⟨p1, f1⟩ : ∃ p, w.heap.size = p := ⟨_, rfl⟩
  obtain ⟨W1, ea1⟩ : ∃ W, w.alloc (.cells x.cs.toArray 35) = W := ⟨_, rfl⟩
  have ka1 : Below w.heap.size w W1 := by rw [← ea1]; exact (Below.refl _ w).alloc (Nat.le_refl _) _
  have b1 : Blk W1 p1 35 x.cs.toArray := by rw [← ea1]; exact blk_new w _ 35 _ f1
  have hq1 : p1 ≠ p := by rw [← f1]; exact Nat.ne_of_gt q.lt
  replace q := q.on ka1
  replace st := st.on ka1
  clear ka1
  have c0 : W1.cell? ⟨p1, 0, none⟩ = some (.int .i64 x.n) := b1.cell 0
  go_enter Try.func49, Try.ntmps49
  go_wp2_with fail
  refine (number_any p _ x.n W1 q (by have := HN.out; (try simp only [List.length_append, oct8_len, octs_len, many_len, List.length_cons, List.length_nil] at this); (try simp only [List.length_append, oct8_len, octs_len, many_len, List.length_cons, List.length_nil]); omega)).mono ?_
  rintro e W2 ⟨rfl, q2, k2⟩
  clear c0
  replace b1 := b1.stay k2 (by decide) hq1
  replace st := st.trans k2
  replace q := q2
  clear k2 q2
  have c1 : W2.cell? ⟨p1, 1, none⟩ = some (.int .i64 x.c) := b1.cell 1
  have c2 : W2.cell? ⟨p1, 2, none⟩ = some (.int .i64 x.g) := b1.cell 2
  obtain ⟨p2, f2⟩ : ∃ p, W2.heap.size = p := ⟨_, rfl⟩
  obtain ⟨W3, ea3⟩ : ∃ W, W2.alloc (.cells #[.int .i64 x.c, .int .i64 x.g] 3) = W := ⟨_, rfl⟩
  have ka3 : Below W2.heap.size W2 W3 := by rw [← ea3]; exact (Below.refl _ W2).alloc (Nat.le_refl _) _
  have b2 : Blk W3 p2 3 #[.int .i64 x.c, .int .i64 x.g] := by rw [← ea3]; exact blk_new W2 _ 3 _ f2
  have hq2 : p2 ≠ p := by rw [← f2]; exact Nat.ne_of_gt q.lt
  replace b1 := b1.on ka3
  replace q := q.on ka3
  replace st := st.on ka3
  clear ka3
  go_wp2_with fail
  refine (numbers_any p _ [x.c, x.g] (some ⟨p2, 0, none⟩) 2 2 W3 q (firm_ints (l := [x.c, x.g]) b2 hq2 (by simp)) (by have := HN.out; (try simp only [List.length_append, oct8_len, octs_len, many_len, List.length_cons, List.length_nil] at this); (try simp only [List.length_append, oct8_len, octs_len, many_len, List.length_cons, List.length_nil]); omega)).mono ?_
  rintro e W4 ⟨rfl, q4, k4⟩
  clear c1 c2
  replace b1 := b1.stay k4 (by decide) hq1
  replace b2 := b2.stay k4 (by decide) hq2
  replace st := st.trans k4
  replace q := q4
  clear k4 q4
  go_wp2
  go_end0
  rw [octs_word] at q
  exact ⟨rfl, q, st⟩
end Go.Proofs.Ytfmkmmmaoiepmaa
