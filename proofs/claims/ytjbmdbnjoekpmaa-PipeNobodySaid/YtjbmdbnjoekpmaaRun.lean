/- One call on a pipe and on a list that tells it. Conditions: none. -/
import Derived.Test.YtjbmdbnjoekpmaaTold
namespace Go.Proofs.Ytjbmdbnjoekpmaa
open Go.RowKit Go.Conc

/-- Nothing that was there has turned but the channel c and the block of the list A. -/
structure Aside (w w' : World) (c : Nat) (A : Option Addr) : Prop where
  os : w'.os = w.os
  tape : w'.tape = w.tape
  output : w'.output = w.output
  size : w.heap.size ≤ w'.heap.size
  block : ∀ k, k < w.heap.size → k ≠ c → some k ≠ blk A → w'.heap[k]? = w.heap[k]?
theorem aside_grown {w w' : World} {c : Nat} {A : Option Addr} {row : Option Nat} (hg : w.grownBy w' row) (h : row = some c ∨ row = blk A ∨ row = none) : Aside w w' c A :=
  ⟨hg.os, hg.tape, hg.output, hg.size, fun k hk h1 h2 => hg.block k hk (by
    rcases h with rfl | rfl | rfl
    · intro e
      injection e with e
      exact h1 e
    · exact h2
    · simp)⟩
theorem Aside.trans {a b d : World} {c : Nat} {A : Option Addr} (h : Aside a b c A) (k : Aside b d c A) : Aside a d c A :=
  ⟨k.os.trans h.os, k.tape.trans h.tape, k.output.trans h.output, Nat.le_trans h.size k.size, fun i hi h1 h2 => (k.block i (Nat.lt_of_lt_of_le hi h.size) h1 h2).trans (h.block i hi h1 h2)⟩
theorem Aside.below {w w' : World} {B c : Nat} {A : Option Addr} (h : Aside w w' c A) (hB : B ≤ w.heap.size) (hc : B ≤ c) (hA : ∀ g, blk A = some g → B ≤ g) : Below B w w' :=
  ⟨h.os, h.tape, h.output, h.size, fun k hk => h.block k (by omega) (by omega) (fun e => by have := hA k e.symm; omega)⟩

/-- What the list is behind a call. -/
def stepN (room : Nat) (xs : List Int) (kind n : Int) : List Int := if kind = 1 then xs.tail else if kind = 2 then xs else putN room xs n
/-- What holds behind a call. -/
structure Ran (w w' : World) (B p c room : Nat) (A A' : Option Addr) (cp : Nat) (ys : List Int) : Prop where
  pip : Pip w' p c room ys
  own : Own w' B A' ys.length cp ys
  aside : Aside w w' c A
  fresh : ∀ g, blk A' = some g → g < w.heap.size → blk A = some g

set_option maxRecDepth 100000 in
theorem run_take (p c room : Nat) (A : Option Addr) (cp B : Nat) (xs : List Int) (m : Int) (w : World) (h : Pip w p c room xs) (ho : Own w B A xs.length cp xs) :
    Calls Try.prog 9 #[.pointer (some ⟨p, 0, none⟩), .slice A xs.length cp, .int .i64 (room : Int), .agg #[.int .i64 1, .int .i64 m]] w fun e w' => ∃ A' cp', e = .returned (.tuple #[.slice A' xs.tail.length cp', .bool true]) ∧ Ran w w' B p c room A A' cp' xs.tail := by
  have hb0 : Below w.heap.size w (w.alloc (.cells #[.int .i64 1, .int .i64 m] 31)) := (Below.refl _ w).alloc (Nat.le_refl _) _
  cases xs with
  | nil =>
    have ht := take_pipe p c room [] _ (h.below hb0)
    simp only [List.headD_nil, List.isEmpty_nil, Bool.not_true, List.tail_nil] at ht
    simp only [List.length_nil] at ho ⊢
    go_enter Try.func9, Try.ntmps9
    go_wp2_with fail
    refine ht.mono ?_
    rintro e w1 ⟨rfl, h1, hg1⟩
    go_wp2
    go_ret2
    refine ⟨A, cp, rfl, h1, (ho.below hb0).kept hg1 ((ho.below hb0).chan (h.below hb0).holds), aside_grown (below_grown hb0 hg1) (.inl rfl), fun _ hg _ => hg⟩
  | cons x rest =>
    have ht := take_pipe p c room (x :: rest) _ (h.below hb0)
    simp only [List.headD_cons, List.isEmpty_cons, Bool.not_false, List.tail_cons] at ht
    simp only [List.length_cons, List.tail_cons] at ho ⊢
    obtain ⟨ad, rfl⟩ : ∃ ad, A = some ad := by
      cases A with
      | none => have := ho.row.zero.1; omega
      | some ad => exact ⟨ad, rfl⟩
    obtain ⟨n, hn⟩ : ∃ n, n = rest.length := ⟨_, rfl⟩
    rw [← hn] at ho ⊢
    have hcut := cut_first (some ad) n cp
    have hrm := ho.row.room
    have hmx := ho.row.most
    unfold maxLen at hmx
    obtain ⟨L, hL⟩ : ∃ L, L = n + 1 := ⟨_, rfl⟩
    rw [← hL] at ho hcut ⊢
    have h0 : ((L : Int) == 0) = false := by simp; omega
    have h1L : (1 : Int) ≤ L := by omega
    have h1 : (0 : Int) < L := by omega
    have h1N : 0 < L := by omega
    have HL := Lib.hid hL
    have HN := Lib.hid hn
    clear hL hrm hmx hn
    obtain ⟨Z, hZ⟩ : ∃ Z, Z = (if cp = 1 then some ad else (some ad).map (·.add 1)) := ⟨_, rfl⟩
    obtain ⟨cq, hcq⟩ : ∃ cq, cq = cp - 1 := ⟨_, rfl⟩
    rw [← hZ, ← hcq] at hcut
    have HZ := Lib.hid hZ
    have HC := Lib.hid hcq
    clear hZ hcq
    go_enter Try.func9, Try.ntmps9
    go_wp2_with fail
    refine ht.mono ?_
    rintro e w1 ⟨rfl, h1, hg1⟩
    have ho1 := (ho.below hb0).kept hg1 ((ho.below hb0).chan (h.below hb0).holds)
    have hcy := (ho1.row.cell ad rfl 0 (by omega)).2
    simp [Addr.add] at hcy
    go_wp2
    go_quiet (fail)
    go_wp2
    go_ret2
    have hbq : Below w1.heap.size w1 (w1.drewN nq) := Ytjbmdbnjoekpmaa.Below.drewN (Below.refl _ _) nq
    rw [HL.out] at ho1
    have hoT := ho1.tail
    rw [← HZ.out, ← HC.out, HN.out] at hoT
    refine ⟨Z, cq, rfl, h1.below hbq, hoT.below hbq, aside_grown ((below_grown hb0 hg1).trans (grown_below hbq _)) (.inl rfl), fun g hg _ => ?_⟩
    rw [HZ.out, blk_tail] at hg
    exact hg

theorem run_all (p c room : Nat) (A : Option Addr) (cp B : Nat) (xs : List Int) (m : Int) (w : World) (h : Pip w p c room xs) (ho : Own w B A xs.length cp xs) :
    Calls Try.prog 9 #[.pointer (some ⟨p, 0, none⟩), .slice A xs.length cp, .int .i64 (room : Int), .agg #[.int .i64 2, .int .i64 m]] w fun e w' => ∃ A' cp', e = .returned (.tuple #[.slice A' xs.length cp', .bool true]) ∧ Ran w w' B p c room A A' cp' xs := by
  have hb0 : Below w.heap.size w (w.alloc (.cells #[.int .i64 2, .int .i64 m] 31)) := (Below.refl _ w).alloc (Nat.le_refl _) _
  have ht := told_any p c room A cp B xs _ (h.below hb0) (ho.below hb0)
  obtain ⟨n, hn⟩ : ∃ n, n = xs.length := ⟨_, rfl⟩
  rw [← hn] at ht ho ⊢
  have HN := Lib.hid hn
  clear hn
  go_enter Try.func9, Try.ntmps9
  go_wp2_with fail
  refine ht.mono ?_
  rintro e w1 ⟨rfl, h1, hg1⟩
  go_wp2
  go_ret2
  refine ⟨A, cp, rfl, h1, ?_, aside_grown (below_grown hb0 hg1) (.inl rfl), fun _ hg _ => hg⟩
  rw [← HN.out]
  exact (ho.below hb0).kept hg1 ((ho.below hb0).chan (h.below hb0).holds)

theorem run_put (p c room : Nat) (A : Option Addr) (cp B : Nat) (xs : List Int) (k m : Int) (w : World) (h : Pip w p c room xs) (ho : Own w B A xs.length cp xs) (hB : B ≤ w.heap.size) (hk1 : k ≠ 1) (hk2 : k ≠ 2) :
    Calls Try.prog 9 #[.pointer (some ⟨p, 0, none⟩), .slice A xs.length cp, .int .i64 (room : Int), .agg #[.int .i64 k, .int .i64 m]] w fun e w' => ∃ A' cp', e = .returned (.tuple #[.slice A' (putN room xs m).length cp', .bool true]) ∧ Ran w w' B p c room A A' cp' (putN room xs m) := by
  have hb0 : Below w.heap.size w (w.alloc (.cells #[.int .i64 k, .int .i64 m] 31)) := (Below.refl _ w).alloc (Nat.le_refl _) _
  have ht := put_pipe p c room m xs _ (h.below hb0)
  have hm := h.most
  have hf := h.holds.fits
  have e1 : (k == 1) = false := by simpa using hk1
  have e2 : (k == 2) = false := by simpa using hk2
  clear hk1 hk2
  obtain ⟨n, hn⟩ : ∃ n, n = xs.length := ⟨_, rfl⟩
  by_cases hlt : xs.length < room
  · have hp : putN room xs m = xs ++ [m] := by simp [putN, hlt]
    have hlen : (putN room xs m).length = n + 1 := by rw [hp, hn]; simp
    rw [hlen]
    rw [hp] at ht ⊢
    simp only [hlt, decide_true] at ht
    rw [← hn] at ho hlt hf ⊢
    have d1 : decide ((n : Int) < (room : Int)) = true := by simp; omega
    have d2 : (n : Int) < (room : Int) := by omega
    have hn256 : n ≤ 256 := by omega
    have HN := Lib.hid hn
    clear hn hp hlen
    go_enter Try.func9, Try.ntmps9
    go_wp2_with fail
    refine ht.mono ?_
    rintro e w1 ⟨rfl, h1, hg1⟩
    have ho1 := (ho.below hb0).kept hg1 ((ho.below hb0).chan (h.below hb0).holds)
    have hB1 : B ≤ w1.heap.size := Nat.le_trans hB (by have := hg1.size; simp at this; omega)
    have hx1 : w1.cell? ⟨w.heap.size, 1, none⟩ = some (.int .i64 m) := hg1.cell (cell_of_row _ w.heap.size 1 _ 31 (0, 0) (heap_alloc_new w _)) (by have := h.holds.lt; simp; omega)
    go_wp2_with (first
      | (at_builtin; refine wpList_append_cut rfl (.tmp 62) (.tmp 65) rfl rfl (ho1.below ((Below.refl w1.heap.size w1).alloc (Nat.le_refl _) _)) (by omega) (by simp; omega) ⟨w1.heap.size, 0, none⟩ 1 m rfl (cell_one_new _ _ _) ?_; intro A2 cp2 w2 ho2 hg2 hfr2))
    go_ret2
    have hba : Below w1.heap.size w1 (w1.alloc (.cells #[.int .i64 m] 3)) := (Below.refl _ w1).alloc (Nat.le_refl _) _
    have h2 := (h1.below hba)
    have h3 : Pip w2 p c room (xs ++ [m]) := h2.kept hg2 ((ho1.below hba).box h2.box (by decide)) (fun e => (ho1.below hba).chan h2.holds c e.symm rfl)
    have hl2 : (xs ++ [m]).length = n + 1 := by rw [HN.out]; simp
    refine ⟨A2, cp2, rfl, h3, by rw [hl2]; exact ho2, ?_, fun g hg hlt => ?_⟩
    · exact (aside_grown (below_grown hb0 hg1) (.inl rfl)).trans (aside_grown (below_grown hba hg2) (.inr (.inl rfl)))
    · exact hfr2 g hg (by have := hg1.size; simp at this ⊢; omega)
  · have hp : putN room xs m = xs := by simp [putN, hlt]
    rw [hp] at ht ⊢
    simp only [hlt, decide_false] at ht
    rw [← hn] at ho hlt hf ⊢
    have d1 : decide ((n : Int) < (room : Int)) = false := by simp; omega
    have d2 : (room : Int) ≤ (n : Int) := by omega
    have d3 : room ≤ n := by omega
    have d4 : decide (n < room) = false := by simp; omega
    have HN := Lib.hid hn
    clear hn hp hlt
    go_enter Try.func9, Try.ntmps9
    go_wp2_with fail
    refine ht.mono ?_
    rintro e w1 ⟨rfl, h1, hg1⟩
    go_wp2
    go_ret2
    refine ⟨A, cp, rfl, h1, ?_, aside_grown (below_grown hb0 hg1) (.inl rfl), fun _ hg _ => hg⟩
    rw [← HN.out]
    exact (ho.below hb0).kept hg1 ((ho.below hb0).chan (h.below hb0).holds)

theorem run_any (p c room : Nat) (A : Option Addr) (cp B : Nat) (xs : List Int) (k m : Int) (w : World) (h : Pip w p c room xs) (ho : Own w B A xs.length cp xs) (hB : B ≤ w.heap.size) :
    Calls Try.prog 9 #[.pointer (some ⟨p, 0, none⟩), .slice A xs.length cp, .int .i64 (room : Int), .agg #[.int .i64 k, .int .i64 m]] w fun e w' => ∃ A' cp', e = .returned (.tuple #[.slice A' (stepN room xs k m).length cp', .bool true]) ∧ Ran w w' B p c room A A' cp' (stepN room xs k m) := by
  unfold stepN
  by_cases h1 : k = 1
  · subst h1
    exact run_take p c room A cp B xs m w h ho
  · by_cases h2 : k = 2
    · subst h2
      exact run_all p c room A cp B xs m w h ho
    · rw [if_neg h1, if_neg h2]
      exact run_put p c room A cp B xs k m w h ho hB h1 h2
end Go.Proofs.Ytjbmdbnjoekpmaa
