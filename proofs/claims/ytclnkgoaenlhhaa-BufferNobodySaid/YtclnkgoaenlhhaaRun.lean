/- One call on a buffer and on a list that tells it. Conditions: none. -/
import Derived.Test.YtclnkgoaenlhhaaTold
namespace Go.Proofs.Ytclnkgoaenlhhaa
open Go.RowKit Go.Conc Go.ChangeShapes Go.WideShapes

/-- Nothing that was there has turned but the channel c and the block of the list A. -/
structure Aside (w w' : World) (c : Nat) (A : Option Addr) : Prop where
  os : w'.os = w.os
  tape : w'.tape = w.tape
  output : w'.output = w.output
  size : w.heap.size ≤ w'.heap.size
  block : ∀ k, k < w.heap.size → k ≠ c → some k ≠ blk A → w'.heap[k]? = w.heap[k]?
theorem aside_grown {w w' : World} {c : Nat} {A : Option Addr} {row : Option Nat} (hg : w.grownBy w' row) (h : row = some c ∨ row = blk A ∨ row = none) : Aside w w' c A :=
  ⟨hg.os, hg.tape, hg.output, hg.size, fun k hk h1 h2 => hg.block k hk (by
    rcases h with rfl | rfl | rfl
    · intro e
      injection e with e
      exact h1 e
    · exact h2
    · simp)⟩
theorem Aside.trans {a b d : World} {c : Nat} {A : Option Addr} (h : Aside a b c A) (k : Aside b d c A) : Aside a d c A :=
  ⟨k.os.trans h.os, k.tape.trans h.tape, k.output.trans h.output, Nat.le_trans h.size k.size, fun i hi h1 h2 => (k.block i (Nat.lt_of_lt_of_le hi h.size) h1 h2).trans (h.block i hi h1 h2)⟩
theorem Aside.below {w w' : World} {B c : Nat} {A : Option Addr} (h : Aside w w' c A) (hB : B ≤ w.heap.size) (hc : B ≤ c) (hA : ∀ g, blk A = some g → B ≤ g) : Below B w w' :=
  ⟨h.os, h.tape, h.output, h.size, fun k hk => h.block k (by omega) (by omega) (fun e => by have := hA k e.symm; omega)⟩

/-- What the list is behind a call. -/
def stepN (room : Nat) (xs : List Ent) (kind : Int) (m : Ent) : List Ent := if kind = 1 then xs.tail else putN room xs m
/-- What holds behind a call. -/
structure Ran (w w' : World) (B p c room : Nat) (A A' : Option Addr) (cp : Nat) (ys : List Ent) : Prop where
  buf : Buf w' p c room ys
  own : Own w' B A' ys.length cp ys
  aside : Aside w w' c A
  fresh : ∀ g, blk A' = some g → g < w.heap.size → blk A = some g

set_option maxRecDepth 100000 in
set_option maxHeartbeats 4000000 in
theorem run_pop (p c room : Nat) (A : Option Addr) (cp B : Nat) (xs : List Ent) (m : Ent) (w : World) (h : Buf w p c room xs) (ho : Own w B A xs.length cp xs) :
    Calls Try.prog 9 #[.pointer (some ⟨p, 0, none⟩), .slice A xs.length cp, .int .i64 (room : Int), .agg #[.int .i64 1, .int .i64 m.x.k, .int .i64 m.x.i, .int .i64 m.x.j, .int .i64 m.v.n, .int .i64 m.v.c, .int .i64 m.v.g, .int .i64 m.g, .int .i64 m.p]] w fun e w' => ∃ A' cp', e = .returned (.tuple #[.slice A' xs.tail.length cp', .bool true]) ∧ Ran w w' B p c room A A' cp' xs.tail := by
  obtain ⟨W0, eW0⟩ : ∃ W, w.alloc (.cells #[.int .i64 1, .int .i64 m.x.k, .int .i64 m.x.i, .int .i64 m.x.j, .int .i64 m.v.n, .int .i64 m.v.c, .int .i64 m.v.g, .int .i64 m.g, .int .i64 m.p] 37) = W := ⟨_, rfl⟩
  have hb0 : Below w.heap.size w W0 := by rw [← eW0]; exact (Below.refl _ w).alloc (Nat.le_refl _) _
  have hx0 : Blk W0 w.heap.size 37 #[.int .i64 1, .int .i64 m.x.k, .int .i64 m.x.i, .int .i64 m.x.j, .int .i64 m.v.n, .int .i64 m.v.c, .int .i64 m.v.g, .int .i64 m.g, .int .i64 m.p] := by rw [← eW0]; exact blk_new w #[.int .i64 1, .int .i64 m.x.k, .int .i64 m.x.i, .int .i64 m.x.j, .int .i64 m.v.n, .int .i64 m.v.c, .int .i64 m.v.g, .int .i64 m.g, .int .i64 m.p] 37 _ rfl
  have k0 : W0.cell? ⟨w.heap.size, 0, none⟩ = some (.int .i64 1) := hx0.cell 0
  have h0 := h.below hb0
  have ho0 := ho.below hb0
  cases xs with
  | nil =>
    have ht : Calls Try.prog 12 #[.pointer (some ⟨p, 0, none⟩)] W0 fun e w' => e = .returned (.tuple #[.agg #[.int .i64 0, .int .i64 0, .int .i64 0, .int .i64 0, .int .i64 0, .int .i64 0, .int .i64 0, .int .i64 0], .bool false]) ∧ Buf w' p c room [] ∧ W0.grownBy w' (some c) := pop_buf p c room [] W0 h0
    simp only [List.length_nil, List.tail_nil] at ho0 ⊢
    clear ho
    go_enter Try.func9, Try.ntmps9
    go_wp2_with fail
    refine ht.mono ?_
    rintro e w1 ⟨rfl, h1, hg1⟩
    have ho1 := ho0.kept hg1 (ho0.chan h0.holds)
    have hb2 : Below w1.heap.size w1 (w1.alloc (.cells #[.int .i64 0, .int .i64 0, .int .i64 0, .int .i64 0, .int .i64 0, .int .i64 0, .int .i64 0, .int .i64 0] 35)) := (Below.refl _ _).alloc (Nat.le_refl _) _
    go_wp2
    go_ret2
    exact ⟨A, cp, by simp, h1.below hb2, ho1.below hb2, aside_grown ((below_grown hb0 hg1).trans (grown_below hb2 _)) (.inl rfl), fun _ hg _ => hg⟩
  | cons x rest =>
    have ht : Calls Try.prog 12 #[.pointer (some ⟨p, 0, none⟩)] W0 fun e w' => e = .returned (.tuple #[.agg #[.int .i64 x.x.k, .int .i64 x.x.i, .int .i64 x.x.j, .int .i64 x.v.n, .int .i64 x.v.c, .int .i64 x.v.g, .int .i64 x.g, .int .i64 x.p], .bool true]) ∧ Buf w' p c room rest ∧ W0.grownBy w' (some c) := pop_buf p c room (x :: rest) W0 h0
    simp only [List.length_cons, List.tail_cons] at ho ho0 ⊢
    obtain ⟨q, o, rfl, _⟩ := sees_at' ho0.sees (show 0 < rest.length + 1 by omega)
    obtain ⟨n, hn⟩ : ∃ n, n = rest.length := ⟨_, rfl⟩
    rw [← hn] at ho ho0 ⊢
    have hcut := cut_first (some ⟨q, o, none⟩) n cp
    have hrm := ho.sees.room
    have hmx := ho.sees.most
    unfold maxLen at hmx
    obtain ⟨L, hL⟩ : ∃ L, L = n + 1 := ⟨_, rfl⟩
    rw [← hL] at ho ho0 hcut ⊢
    have h0L : ((L : Int) == 0) = false := by simp; omega
    have h1L : (1 : Int) ≤ L := by omega
    have h1 : (0 : Int) < L := by omega
    have h1N : 0 < L := by omega
    have HL := Lib.hid hL
    have HN := Lib.hid hn
    clear hL hrm hmx hn
    obtain ⟨Y, hY⟩ : ∃ Y, Y = (if cp = 1 then some (⟨q, o, none⟩ : Addr) else (some (⟨q, o, none⟩ : Addr)).map (·.add 8)) := ⟨_, rfl⟩
    obtain ⟨cq, hcq⟩ : ∃ cq, cq = cp - 1 := ⟨_, rfl⟩
    rw [← hY, ← hcq] at hcut
    have HY := Lib.hid hY
    have HC := Lib.hid hcq
    clear hY hcq
    have heq : ∀ W, (binOp BinOp.eql 35 (.agg #[.int .i64 x.x.k, .int .i64 x.x.i, .int .i64 x.x.j, .int .i64 x.v.n, .int .i64 x.v.c, .int .i64 x.v.g, .int .i64 x.g, .int .i64 x.p]) (.agg #[.int .i64 x.x.k, .int .i64 x.x.i, .int .i64 x.x.j, .int .i64 x.v.n, .int .i64 x.v.c, .int .i64 x.v.g, .int .i64 x.g, .int .i64 x.p])).run Try.prog W = .ok (.bool true) W := fun W => by
      have := eq35 x x W
      rw [decide_eq_true rfl] at this
      exact this
    go_enter Try.func9, Try.ntmps9
    go_wp2_with fail
    refine ht.mono ?_
    rintro e w1 ⟨rfl, h1', hg1⟩
    have ho1 := ho0.kept hg1 (ho0.chan h0.holds)
    obtain ⟨W1, eW1⟩ : ∃ W, w1.alloc (.cells #[.int .i64 0, .int .i64 0, .int .i64 0, .int .i64 0, .int .i64 0, .int .i64 0, .int .i64 0, .int .i64 0] 35) = W := ⟨_, rfl⟩
    obtain ⟨W2, eW2⟩ : ∃ W, w1.alloc (.cells #[.int .i64 x.x.k, .int .i64 x.x.i, .int .i64 x.x.j, .int .i64 x.v.n, .int .i64 x.v.c, .int .i64 x.v.g, .int .i64 x.g, .int .i64 x.p] 35) = W := ⟨_, rfl⟩
    clear eW1
    have hb2 : Below w1.heap.size w1 (w1.alloc (.cells #[.int .i64 x.x.k, .int .i64 x.x.i, .int .i64 x.x.j, .int .i64 x.v.n, .int .i64 x.v.c, .int .i64 x.v.g, .int .i64 x.g, .int .i64 x.p] 35)) := (Below.refl _ _).alloc (Nat.le_refl _) _
    have hx2 : Blk (w1.alloc (.cells #[.int .i64 x.x.k, .int .i64 x.x.i, .int .i64 x.x.j, .int .i64 x.v.n, .int .i64 x.v.c, .int .i64 x.v.g, .int .i64 x.g, .int .i64 x.p] 35)) w1.heap.size 35 #[.int .i64 x.x.k, .int .i64 x.x.i, .int .i64 x.x.j, .int .i64 x.v.n, .int .i64 x.v.c, .int .i64 x.v.g, .int .i64 x.g, .int .i64 x.p] := blk_new w1 #[.int .i64 x.x.k, .int .i64 x.x.i, .int .i64 x.x.j, .int .i64 x.v.n, .int .i64 x.v.c, .int .i64 x.v.g, .int .i64 x.g, .int .i64 x.p] 35 _ rfl
    rw [eW2] at hb2 hx2
    have ho2 := ho1.below hb2
    obtain ⟨q', o', eq', hr⟩ := sees_at' ho2.sees h1N
    injection eq' with eq'
    injection eq' with e1 e2
    subst e1 e2
    rw [Nat.zero_mul, Nat.add_zero] at hr
    have hr' : W2.rangeAt q o x.cs := hr
    clear hr
    have d0 : W2.cell? ⟨w1.heap.size, 0, none⟩ = some (.int .i64 x.x.k) := hx2.cell 0
    have d1 : W2.cell? ⟨w1.heap.size, 1, none⟩ = some (.int .i64 x.x.i) := hx2.cell 1
    have d2 : W2.cell? ⟨w1.heap.size, 2, none⟩ = some (.int .i64 x.x.j) := hx2.cell 2
    have d3 : W2.cell? ⟨w1.heap.size, 3, none⟩ = some (.int .i64 x.v.n) := hx2.cell 3
    have d4 : W2.cell? ⟨w1.heap.size, 4, none⟩ = some (.int .i64 x.v.c) := hx2.cell 4
    have d5 : W2.cell? ⟨w1.heap.size, 5, none⟩ = some (.int .i64 x.v.g) := hx2.cell 5
    have d6 : W2.cell? ⟨w1.heap.size, 6, none⟩ = some (.int .i64 x.g) := hx2.cell 6
    have d7 : W2.cell? ⟨w1.heap.size, 7, none⟩ = some (.int .i64 x.p) := hx2.cell 7
    have c0 : W2.cell? ⟨q, o, none⟩ = some (.int .i64 x.x.k) := hr' 0 _ rfl
    have c1 : W2.cell? ⟨q, o + 1, none⟩ = some (.int .i64 x.x.i) := hr' 1 _ rfl
    have c2 : W2.cell? ⟨q, o + 2, none⟩ = some (.int .i64 x.x.j) := hr' 2 _ rfl
    have c3 : W2.cell? ⟨q, o + 3, none⟩ = some (.int .i64 x.v.n) := hr' 3 _ rfl
    have c4 : W2.cell? ⟨q, o + 4, none⟩ = some (.int .i64 x.v.c) := hr' 4 _ rfl
    have c5 : W2.cell? ⟨q, o + 5, none⟩ = some (.int .i64 x.v.g) := hr' 5 _ rfl
    have c6 : W2.cell? ⟨q, o + 6, none⟩ = some (.int .i64 x.g) := hr' 6 _ rfl
    have c7 : W2.cell? ⟨q, o + 7, none⟩ = some (.int .i64 x.p) := hr' 7 _ rfl
    clear hr'
    go_wp2
    go_quiet (fail)
    go_wp2
    go_ret2
    have hbq : Below W2.heap.size W2 (W2.drewN nq) := below_dn (Below.refl _ _) nq
    rw [HL.out] at ho2
    have hoT := ho2.tail
    rw [← HY.out, ← HC.out, HN.out, List.tail_cons] at hoT
    rw [HN.out]
    refine ⟨Y, cq, rfl, (h1'.below hb2).below hbq, hoT.below hbq, aside_grown (((below_grown hb0 hg1).trans (grown_below hb2 _)).trans (grown_below hbq _)) (.inl rfl), fun g hg _ => ?_⟩
    rw [HY.out, blk_tail] at hg
    exact hg

set_option maxRecDepth 100000 in
set_option maxHeartbeats 4000000 in
theorem run_push (p c room : Nat) (A : Option Addr) (cp B : Nat) (xs : List Ent) (k : Int) (m : Ent) (w : World) (h : Buf w p c room xs) (ho : Own w B A xs.length cp xs) (hB : B ≤ w.heap.size) (hk1 : k ≠ 1) :
    Calls Try.prog 9 #[.pointer (some ⟨p, 0, none⟩), .slice A xs.length cp, .int .i64 (room : Int), .agg #[.int .i64 k, .int .i64 m.x.k, .int .i64 m.x.i, .int .i64 m.x.j, .int .i64 m.v.n, .int .i64 m.v.c, .int .i64 m.v.g, .int .i64 m.g, .int .i64 m.p]] w fun e w' => ∃ A' cp', e = .returned (.tuple #[.slice A' (putN room xs m).length cp', .bool true]) ∧ Ran w w' B p c room A A' cp' (putN room xs m) := by
  obtain ⟨W0, eW0⟩ : ∃ W, w.alloc (.cells #[.int .i64 k, .int .i64 m.x.k, .int .i64 m.x.i, .int .i64 m.x.j, .int .i64 m.v.n, .int .i64 m.v.c, .int .i64 m.v.g, .int .i64 m.g, .int .i64 m.p] 37) = W := ⟨_, rfl⟩
  have hb0 : Below w.heap.size w W0 := by rw [← eW0]; exact (Below.refl _ w).alloc (Nat.le_refl _) _
  have hx0 : Blk W0 w.heap.size 37 #[.int .i64 k, .int .i64 m.x.k, .int .i64 m.x.i, .int .i64 m.x.j, .int .i64 m.v.n, .int .i64 m.v.c, .int .i64 m.v.g, .int .i64 m.g, .int .i64 m.p] := by rw [← eW0]; exact blk_new w #[.int .i64 k, .int .i64 m.x.k, .int .i64 m.x.i, .int .i64 m.x.j, .int .i64 m.v.n, .int .i64 m.v.c, .int .i64 m.v.g, .int .i64 m.g, .int .i64 m.p] 37 _ rfl
  have hk : (k != 1) = true := by simpa using hk1
  have k0 : W0.cell? ⟨w.heap.size, 0, none⟩ = some (.int .i64 k) := hx0.cell 0
  have d0 : W0.cell? ⟨w.heap.size, 1, none⟩ = some (.int .i64 m.x.k) := hx0.cell 1
  have d1 : W0.cell? ⟨w.heap.size, 2, none⟩ = some (.int .i64 m.x.i) := hx0.cell 2
  have d2 : W0.cell? ⟨w.heap.size, 3, none⟩ = some (.int .i64 m.x.j) := hx0.cell 3
  have d3 : W0.cell? ⟨w.heap.size, 4, none⟩ = some (.int .i64 m.v.n) := hx0.cell 4
  have d4 : W0.cell? ⟨w.heap.size, 5, none⟩ = some (.int .i64 m.v.c) := hx0.cell 5
  have d5 : W0.cell? ⟨w.heap.size, 6, none⟩ = some (.int .i64 m.v.g) := hx0.cell 6
  have d6 : W0.cell? ⟨w.heap.size, 7, none⟩ = some (.int .i64 m.g) := hx0.cell 7
  have d7 : W0.cell? ⟨w.heap.size, 8, none⟩ = some (.int .i64 m.p) := hx0.cell 8
  have h0 := h.below hb0
  have ho0 := ho.below hb0
  have ht := push_buf p c room m xs W0 h0
  have hm := h.most
  have hf := h.holds.fits
  have hclt := h.holds.lt
  clear hk1
  obtain ⟨n, hn⟩ : ∃ n, n = xs.length := ⟨_, rfl⟩
  by_cases hlt : xs.length < room
  · have hp : putN room xs m = xs ++ [m] := by simp [putN, hlt]
    have hlen : (putN room xs m).length = n + 1 := by rw [hp, hn]; simp
    rw [hlen]
    rw [hp] at ht ⊢
    simp only [hlt, decide_true] at ht
    rw [← hn] at ho ho0 hlt hf ⊢
    have d1 : decide ((n : Int) < (room : Int)) = true := by simp; omega
    have d2 : (n : Int) < (room : Int) := by omega
    have hn256 : n ≤ 4 := by omega
    have HN := Lib.hid hn
    clear hn hp hlen
    go_enter Try.func9, Try.ntmps9
    go_wp2_with fail
    refine ht.mono ?_
    rintro e w1 ⟨rfl, h1, hg1⟩
    have ho1 := ho0.kept hg1 (ho0.chan h0.holds)
    have hB1 : B ≤ w1.heap.size := Nat.le_trans hB (Nat.le_trans hb0.size hg1.size)
    have hx1 : Blk w1 w.heap.size 37 #[.int .i64 k, .int .i64 m.x.k, .int .i64 m.x.i, .int .i64 m.x.j, .int .i64 m.v.n, .int .i64 m.v.c, .int .i64 m.v.g, .int .i64 m.g, .int .i64 m.p] := blk_grown hx0 hg1 (by intro e; injection e with e; omega)
    clear d0 d3 d4 d5 d6 d7
    have ho2 : Own (w1.alloc (.cells #[.int .i64 m.x.k, .int .i64 m.x.i, .int .i64 m.x.j, .int .i64 m.v.n, .int .i64 m.v.c, .int .i64 m.v.g, .int .i64 m.g, .int .i64 m.p] 35)) B A n cp xs := ho1.below ((Below.refl _ _).alloc (Nat.le_refl _) _)
    have hnw : Blk (w1.alloc (.cells #[.int .i64 m.x.k, .int .i64 m.x.i, .int .i64 m.x.j, .int .i64 m.v.n, .int .i64 m.v.c, .int .i64 m.v.g, .int .i64 m.g, .int .i64 m.p] 35)) w1.heap.size 35 m.cs.toArray := blk_new w1 #[.int .i64 m.x.k, .int .i64 m.x.i, .int .i64 m.x.j, .int .i64 m.v.n, .int .i64 m.v.c, .int .i64 m.v.g, .int .i64 m.g, .int .i64 m.p] 35 _ rfl
    have c0 : w1.cell? ⟨w.heap.size, 1, none⟩ = some (.int .i64 m.x.k) := hx1.cell 1
    have c1 : w1.cell? ⟨w.heap.size, 2, none⟩ = some (.int .i64 m.x.i) := hx1.cell 2
    have c2 : w1.cell? ⟨w.heap.size, 3, none⟩ = some (.int .i64 m.x.j) := hx1.cell 3
    have c3 : w1.cell? ⟨w.heap.size, 4, none⟩ = some (.int .i64 m.v.n) := hx1.cell 4
    have c4 : w1.cell? ⟨w.heap.size, 5, none⟩ = some (.int .i64 m.v.c) := hx1.cell 5
    have c5 : w1.cell? ⟨w.heap.size, 6, none⟩ = some (.int .i64 m.v.g) := hx1.cell 6
    have c6 : w1.cell? ⟨w.heap.size, 7, none⟩ = some (.int .i64 m.g) := hx1.cell 7
    have c7 : w1.cell? ⟨w.heap.size, 8, none⟩ = some (.int .i64 m.p) := hx1.cell 8
    go_wp2_with (first
      | (at_builtin; refine wpList_append_cut rfl (.tmp 29) (.tmp 32) rfl rfl ho2 (by omega) (by simp; omega) ⟨w1.heap.size, 0, none⟩ 1 m rfl (fun j u hj => by rw [plain_add]; exact range_blk hnw j u hj) ?_; intro A2 cp2 w2 ho3 hg2 hfr2))
    go_ret2
    have hba : Below w1.heap.size w1 (w1.alloc (.cells #[.int .i64 m.x.k, .int .i64 m.x.i, .int .i64 m.x.j, .int .i64 m.v.n, .int .i64 m.v.c, .int .i64 m.v.g, .int .i64 m.g, .int .i64 m.p] 35)) := (Below.refl _ w1).alloc (Nat.le_refl _) _
    have h2 := (h1.below hba)
    have h3 : Buf w2 p c room (xs ++ [m]) := h2.kept hg2 (ho2.box h2.box (by decide)) (fun e => ho2.chan h2.holds c e.symm rfl)
    have hl2 : (xs ++ [m]).length = n + 1 := by rw [HN.out]; simp
    refine ⟨A2, cp2, rfl, h3, by rw [hl2]; exact ho3, ?_, fun g hg hlt => ?_⟩
    · exact (aside_grown (below_grown hb0 hg1) (.inl rfl)).trans (aside_grown (below_grown hba hg2) (.inr (.inl rfl)))
    · exact hfr2 g hg (by have h9 := hg1.size; have h8 := hb0.size; have h7 := hba.size; omega)
  · have hp : putN room xs m = xs := by simp [putN, hlt]
    rw [hp] at ht ⊢
    simp only [hlt, decide_false] at ht
    rw [← hn] at ho ho0 hlt hf ⊢
    have d1' : decide ((n : Int) < (room : Int)) = false := by simp; omega
    have d2' : (room : Int) ≤ (n : Int) := by omega
    have d3' : room ≤ n := by omega
    have d4' : decide (n < room) = false := by simp; omega
    have HN := Lib.hid hn
    clear hn hp hlt
    go_enter Try.func9, Try.ntmps9
    go_wp2_with fail
    refine ht.mono ?_
    rintro e w1 ⟨rfl, h1, hg1⟩
    go_wp2
    go_ret2
    refine ⟨A, cp, rfl, h1, ?_, aside_grown (below_grown hb0 hg1) (.inl rfl), fun _ hg _ => hg⟩
    rw [← HN.out]
    exact ho0.kept hg1 (ho0.chan h0.holds)

theorem run_any (p c room : Nat) (A : Option Addr) (cp B : Nat) (xs : List Ent) (k : Int) (m : Ent) (w : World) (h : Buf w p c room xs) (ho : Own w B A xs.length cp xs) (hB : B ≤ w.heap.size) :
    Calls Try.prog 9 #[.pointer (some ⟨p, 0, none⟩), .slice A xs.length cp, .int .i64 (room : Int), .agg #[.int .i64 k, .int .i64 m.x.k, .int .i64 m.x.i, .int .i64 m.x.j, .int .i64 m.v.n, .int .i64 m.v.c, .int .i64 m.v.g, .int .i64 m.g, .int .i64 m.p]] w fun e w' => ∃ A' cp', e = .returned (.tuple #[.slice A' (stepN room xs k m).length cp', .bool true]) ∧ Ran w w' B p c room A A' cp' (stepN room xs k m) := by
  unfold stepN
  by_cases h1 : k = 1
  · subst h1
    exact run_pop p c room A cp B xs m w h ho
  · rw [if_neg h1]
    exact run_push p c room A cp B xs k m w h ho hB h1
end Go.Proofs.Ytclnkgoaenlhhaa
