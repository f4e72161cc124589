/- Cells, words and changes as cells of memory; lists of them, however they lie; what turns, and what is kept. Conditions: none. -/
import Derived.Test.YtdilmapcjmdabaaRows
import Derived.WalkKit
import Derived.WalkSpells
import Derived.DataShut
import Derived.Lib.Hide
import Derived.Laws.ResultCell
import Derived.Laws.CopyOwn
import Derived.Below
import Derived.Laws.StructEq
import Derived.Deep.MidRow
import Derived.Deep.AppendLies
import Derived.Deep.RegionLaw
import Derived.Deep.RegionHeld3
import Derived.ArgAppend
namespace Go.Proofs.Ytdilmapcjmdabaa
open Go.ChangeShapes Go.WideShapes Go.RowKit

/-- A block is known whole, and may be written. -/
def Blk (w : World) (g : Nat) (t : TypeId) (cs : Array Value) : Prop := w.heap[g]? = some (.cells cs t (0, 0))
section
variable {w w' : World} {g B : Nat} {t : TypeId} {cs : Array Value}
theorem Blk.lt (h : Blk w g t cs) : g < w.heap.size := (Array.getElem?_eq_some_iff.1 h).1
theorem Blk.cell (h : Blk w g t cs) (i : Nat) : w.cell? ⟨g, i, none⟩ = cs[i]? := cell_of_row w g i cs t (0, 0) h
theorem Blk.free (h : Blk w g t cs) (i : Nat) : w.frozen? ⟨g, i, none⟩ = false := by
  unfold Blk at h
  simp [World.frozen?, h]
theorem Blk.below (h : Blk w g t cs) (hb : Below B w w') (hg : g < B) : Blk w' g t cs := (hb.block g hg).trans h
theorem Blk.on (h : Blk w g t cs) (hb : Below w.heap.size w w') : Blk w' g t cs := (hb.block g h.lt).trans h
theorem Blk.ne {g' : Nat} {t' : TypeId} {cs' : Array Value} (h : Blk w g t cs) (h' : Blk w g' t' cs') (ht : t ≠ t') : g ≠ g' := fun e => by
  subst e
  unfold Blk at h h'
  rw [h] at h'
  injection h' with h'
  injection h' with _ h' _
  exact ht h'
end

/-- What turns is in S, or new. -/
structure Kept (S : Nat → Prop) (w w' : World) : Prop where
  os : w'.os = w.os
  tape : w'.tape = w.tape
  output : w'.output = w.output
  size : w.heap.size ≤ w'.heap.size
  block : ∀ k, k < w.heap.size → ¬ S k → w'.heap[k]? = w.heap[k]?
section
variable {S S' : Nat → Prop} {w w1 w2 : World}
theorem Kept.refl (S : Nat → Prop) (w : World) : Kept S w w := ⟨rfl, rfl, rfl, Nat.le_refl _, fun _ _ _ => rfl⟩
theorem Kept.next (h : Kept S w w1) (k : Kept S' w1 w2) (hS : ∀ g, S' g → S g ∨ w.heap.size ≤ g) : Kept S w w2 :=
  ⟨k.os.trans h.os, k.tape.trans h.tape, k.output.trans h.output, Nat.le_trans h.size k.size, fun i hi hn =>
    (k.block i (Nat.lt_of_lt_of_le hi h.size) (fun e => (hS i e).elim hn (fun _ => by omega))).trans (h.block i hi hn)⟩
theorem Kept.more (h : Kept S w w1) (hS : ∀ g, S g → S' g) : Kept S' w w1 := ⟨h.os, h.tape, h.output, h.size, fun k hk hn => h.block k hk fun e => hn (hS k e)⟩
theorem kept_below (S : Nat → Prop) (h : Below w.heap.size w w1) : Kept S w w1 := ⟨h.os, h.tape, h.output, h.size, fun k hk _ => h.block k hk⟩
theorem kept_grown {row : Option Nat} (h : w.grownBy w1 row) : Kept (fun k => row = some k) w w1 := ⟨h.os, h.tape, h.output, h.size, fun k hk hn => h.block k hk fun e => hn e.symm⟩
theorem Kept.grown (h : Kept S w w1) (row : Option Nat) (hS : ∀ k, S k → some k = row) : w.grownBy w1 row := ⟨h.os, h.tape, h.output, h.size, fun k hk hn => h.block k hk fun e => hn (hS k e)⟩
theorem Kept.under (h : Kept S w w1) (B : Nat) (hB : B ≤ w.heap.size) (hS : ∀ k, S k → B ≤ k) : Below B w w1 := ⟨h.os, h.tape, h.output, h.size, fun k hk => h.block k (by omega) fun e => by have := hS k e; omega⟩
theorem kept_cell (w : World) (a : Addr) (u : Value) : Kept (fun k => k = a.block) w (w.setCell a u) :=
  ⟨rfl, rfl, rfl, by simp [World.setCell], fun k _ hn => Below.heap_setCell _ _ _ _ hn⟩
theorem kept_row (w : World) (g : Nat) (cs : Array Value) : Kept (fun k => k = g) w (w.setRow g cs) :=
  ⟨rfl, rfl, rfl, by simp [World.setRow], fun k _ hn => setRow_other _ _ _ _ hn⟩
theorem kept_cells (g : Nat) : ∀ (vs : List Value) (o : Nat) (w : World), Kept (fun k => k = g) w (w.setCells g o vs)
  | [], _, w => Kept.refl _ w
  | v :: r, o, w => by
    rw [World.setCells]
    exact (kept_cell w ⟨g, o, none⟩ v).next (kept_cells g r (o + 1) _) (fun g h => .inl h)
theorem Blk.kept {g : Nat} {t : TypeId} {cs : Array Value} (h : Blk w g t cs) (k : Kept S w w1) (hg : ¬ S g) : Blk w1 g t cs := (k.block g h.lt hg).trans h
end

/-! ### words, cells, changes -/
/-- A word: its number, its cell, the cell's life. -/
structure Wd where
  n : Int
  c : Int
  g : Int
deriving DecidableEq
def Wd.cs (x : Wd) : List Value := [.int .i64 x.n, .int .i64 x.c, .int .i64 x.g]
def noW : Wd := ⟨0, 0, 0⟩
/-- A cell of the arena. -/
structure Cel where
  s : Int
  g : Int
  b : Int
  p : Int
  x : Wd
  y : Wd
deriving DecidableEq
def Cel.cs (c : Cel) : List Value := [.int .i64 c.s, .int .i64 c.g, .int .i64 c.b, .int .i64 c.p, .int .i64 c.x.n, .int .i64 c.x.c, .int .i64 c.x.g, .int .i64 c.y.n, .int .i64 c.y.c, .int .i64 c.y.g]
def noC : Cel := ⟨0, 0, 0, 0, noW, noW⟩
/-- A change: which cell, and what it was. -/
structure Chg where
  k : Int
  was : Cel
deriving DecidableEq
def Chg.cs (c : Chg) : List Value := .int .i64 c.k :: c.was.cs
def flatC (l : List Cel) : List Value := l.flatMap Cel.cs
def flatG (l : List Chg) : List Value := l.flatMap Chg.cs
def ints (l : List Int) : List Value := l.flatMap fun x => [.int .i64 x]
theorem Cel.len (c : Cel) : c.cs.length = 10 := rfl
theorem Chg.len (c : Chg) : c.cs.length = 11 := rfl
theorem Cel.one (c : Cel) : ∀ v ∈ c.cs, v.oneCell' = true := by
  intro v hv
  simp only [Cel.cs, List.mem_cons, List.not_mem_nil, or_false] at hv
  rcases hv with rfl | rfl | rfl | rfl | rfl | rfl | rfl | rfl | rfl | rfl <;> rfl
theorem Chg.one (c : Chg) : ∀ v ∈ c.cs, v.oneCell' = true := by
  intro v hv
  rcases List.mem_cons.1 hv with rfl | hv
  · rfl
  · exact c.was.one v hv

section
variable {α : Type} {f : α → List Value} {k : Nat}
theorem flat_len (hf : ∀ x, (f x).length = k) : ∀ l : List α, (l.flatMap f).length = l.length * k
  | [] => by simp
  | x :: r => by
    rw [List.flatMap_cons, List.length_append, hf, flat_len hf r, List.length_cons, Nat.add_mul]
    omega
theorem flat_get (hf : ∀ x, (f x).length = k) : ∀ (l : List α) (i : Nat) (x : α), l[i]? = some x → ∀ j, j < k → (l.flatMap f)[i * k + j]? = (f x)[j]?
  | [], i, x, h, _, _ => by simp at h
  | y :: r, 0, x, h, j, hj => by
    simp at h
    subst h
    rw [List.flatMap_cons, Nat.zero_mul, Nat.zero_add, List.getElem?_append_left (by rw [hf]; exact hj)]
  | y :: r, i + 1, x, h, j, hj => by
    rw [List.flatMap_cons, List.getElem?_append_right (by rw [hf, Nat.add_mul]; omega), hf, show (i + 1) * k + j - k = i * k + j by rw [Nat.add_mul]; omega]
    exact flat_get hf r i x (by simpa using h) j hj
theorem flat_set (hf : ∀ x, (f x).length = k) (l : List α) (i : Nat) (x : α) (j : Nat) (hi : i < l.length) : ((l.set i x).flatMap f)[j]? = if i * k ≤ j ∧ j < i * k + k then (f x)[j - i * k]? else (l.flatMap f)[j]? := by
  by_cases hk : k = 0
  · subst hk
    have h0 : ∀ l' : List α, l'.flatMap f = [] := fun l' => List.eq_nil_of_length_eq_zero (by rw [flat_len hf]; omega)
    rw [if_neg (by omega), h0, h0]
  have hkp : 0 < k := Nat.pos_of_ne_zero hk
  by_cases hj : j < l.length * k
  · have ej : j = j / k * k + j % k := by rw [Nat.mul_comm]; exact (Nat.div_add_mod j k).symm
    have hm : j % k < k := Nat.mod_lt _ hkp
    have hd : j / k < l.length := Nat.div_lt_of_lt_mul (by rw [Nat.mul_comm]; exact hj)
    by_cases e : j / k = i
    · have h1 : i * k ≤ j ∧ j < i * k + k := by rw [← e]; omega
      rw [if_pos h1]
      have := flat_get hf (l.set i x) i x (by simp [hi]) (j % k) hm
      rw [show j - i * k = j % k by rw [← e]; omega, ← this, ← e, ← ej]
    · have h1 : ¬ (i * k ≤ j ∧ j < i * k + k) := fun h => e (by
        apply Nat.div_eq_of_lt_le
        · exact h.1
        · rw [Nat.add_mul]; omega)
      rw [if_neg h1]
      have hx : l[j / k]? = some l[j / k] := List.getElem?_eq_getElem hd
      have a := flat_get hf l (j / k) _ hx (j % k) hm
      have b := flat_get hf (l.set i x) (j / k) l[j / k] (by rw [List.getElem?_set_ne (fun h => e h.symm)]; exact hx) (j % k) hm
      rw [← ej] at a b
      rw [a, b]
  · have h1 : ¬ (i * k ≤ j ∧ j < i * k + k) := fun h => hj (Nat.lt_of_lt_of_le h.2 (by rw [← Nat.succ_mul]; exact Nat.mul_le_mul_right _ hi))
    rw [if_neg h1, List.getElem?_eq_none (by rw [flat_len hf, List.length_set]; omega), List.getElem?_eq_none (by rw [flat_len hf]; omega)]
theorem flat_one (h1 : ∀ x, ∀ v ∈ f x, v.oneCell' = true) (l : List α) : ∀ v ∈ l.flatMap f, v.oneCell' = true := by
  intro v hv
  obtain ⟨x, _, hx⟩ := List.mem_flatMap.1 hv
  exact h1 x v hx
end
theorem int_len (x : Int) : [Value.int .i64 x].length = 1 := rfl

theorem info3 : (Try.prog.info? 3).map (fun i => (i.zero, i.size, i.bytes)) = some (some (.int .i64 0), 1, 8) := by kernel_rfl
theorem info45 : (Try.prog.info? 45).map (fun i => (i.zero, i.size, i.bytes)) = some (some (.agg noC.cs.toArray), 10, 80) := by kernel_rfl
theorem info83 : (Try.prog.info? 83).map (fun i => (i.zero, i.size, i.bytes)) = some (some (.agg (Chg.cs ⟨0, noC⟩).toArray), 11, 88) := by kernel_rfl
theorem info34 : (Try.prog.info? 34).map (fun i => (i.zero, i.size, i.bytes)) = some (some (.agg #[.slice none 0 0, .slice none 0 0, .int .i64 0]), 3, 56) := by kernel_rfl
theorem size24 : (Try.prog.info? 24).map (·.size) = some 3 := by kernel_rfl
theorem size31 : (Try.prog.info? 31).map (·.size) = some 2 := by kernel_rfl
theorem size34 : (Try.prog.info? 34).map (·.size) = some 3 := by kernel_rfl
theorem size38 : (Try.prog.info? 38).map (·.size) = some 8 := by kernel_rfl
theorem size45 : (Try.prog.info? 45).map (·.size) = some 10 := by kernel_rfl
theorem size83 : (Try.prog.info? 83).map (·.size) = some 11 := by kernel_rfl
theorem size62 : (Try.prog.info? 62).map (·.size) = some 2 := by kernel_rfl
theorem size80 : (Try.prog.info? 80).map (·.size) = some 2 := by kernel_rfl

theorem load45 (c : Cel) : (Try.prog.info? 45).map (·.size) = some c.cs.length := size45
theorem load83 (c : Chg) : (Try.prog.info? 83).map (·.size) = some c.cs.length := size83
/-! ### the fields of a cell that is a value -/
theorem field0 (c : Cel) (w : World) : (Instr.field 45 (.agg c.cs.toArray) 0).run Try.prog w = .ok (.int .i64 c.s) w := by kernel_rfl
theorem field1 (c : Cel) (w : World) : (Instr.field 45 (.agg c.cs.toArray) 1).run Try.prog w = .ok (.int .i64 c.g) w := by kernel_rfl
theorem field4 (c : Cel) (w : World) : (Instr.field 45 (.agg c.cs.toArray) 4).run Try.prog w = .ok (.agg (c.x.cs ++ c.y.cs).toArray) w := by kernel_rfl
theorem index0 (x y : Wd) (w : World) : (Instr.index 43 (.agg (x.cs ++ y.cs).toArray) (.int .i64 0)).run Try.prog w = .ok (.agg x.cs.toArray) w := by kernel_rfl
theorem index1 (x y : Wd) (w : World) : (Instr.index 43 (.agg (x.cs ++ y.cs).toArray) (.int .i64 1)).run Try.prog w = .ok (.agg y.cs.toArray) w := by kernel_rfl
theorem build45 (a b c d : Int) (w : World) : (Instr.build 45 #[(0, .int .i64 a), (1, .int .i64 b), (2, .int .i64 c), (3, .int .i64 d)]).run Try.prog w = .ok (.agg (Cel.cs ⟨a, b, c, d, noW, noW⟩).toArray) w := by kernel_rfl
theorem build45b (a b : Int) (w : World) : (Instr.build 45 #[(0, .int .i64 a), (1, .int .i64 b)]).run Try.prog w = .ok (.agg (Cel.cs ⟨a, b, 0, 0, noW, noW⟩).toArray) w := by kernel_rfl
theorem build45c (b : Int) (w : World) : (Instr.build 45 #[(1, .int .i64 b)]).run Try.prog w = .ok (.agg (Cel.cs ⟨0, b, 0, 0, noW, noW⟩).toArray) w := by kernel_rfl
theorem build83 (k : Int) (c : Cel) (w : World) : (Instr.build 83 #[(0, .int .i64 k), (1, .agg c.cs.toArray)]).run Try.prog w = .ok (.agg (Chg.cs ⟨k, c⟩).toArray) w := by kernel_rfl

/-! ### lists of the program's: from the head of a block -/
section
variable {w w' : World} {A : Option Addr} {n cap k : Nat} {t : TypeId} {vs : List Value}
/-- In which block a list lies. -/
def lies (A : Option Addr) (g : Nat) : Prop := A.map (·.block) = some g
theorem own_lies (A : Option Addr) (n cap g : Nat) : (Value.slice A n cap).ownBlock = some g ↔ lies A g := by cases A <;> rfl
theorem own_kept {S : Nat → Prop} (h : w.ownsRow 0 t k (.slice A n cap) n vs) (hk : Kept S w w') (hS : ∀ g, lies A g → ¬ S g) : w'.ownsRow 0 t k (.slice A n cap) n vs := by
  refine ⟨h.1, ?_⟩
  rcases h.2 with hn | ⟨g, c, cur, e, hb, hg, rest⟩
  · exact .inl hn
  · refine .inr ⟨g, c, cur, e, hb, ?_, rest⟩
    injection e with e
    subst e
    exact (hk.block g (Array.getElem?_eq_some_iff.1 hg).1 (hS g rfl)).trans hg
theorem own_below (h : w.ownsRow 0 t k (.slice A n cap) n vs) (hb : Below w.heap.size w w') : w'.ownsRow 0 t k (.slice A n cap) n vs := own_kept h (kept_below (fun _ => False) hb) (fun _ _ h => h)
/-- The block is one of that type. -/
theorem own_blk (h : w.ownsRow 0 t k (.slice A n cap) n vs) {g : Nat} (hg : lies A g) : ∃ cs, Blk w g t cs := by
  rcases h.2 with ⟨e, _⟩ | ⟨g', c, cur, e, hb, hh, rest⟩
  · injection e with e
    subst e
    cases hg
  · injection e with e
    subst e
    injection hg with hg
    subst hg
    exact ⟨cur, hh⟩
theorem own_off (h : w.ownsRow 0 t k (.slice A n cap) n vs) {g : Nat} {t' : TypeId} {cs : Array Value} (hb : Blk w g t' cs) (ht : t ≠ t') : ¬ lies A g := fun hg => by
  obtain ⟨cs', h'⟩ := own_blk h hg
  exact h'.ne hb ht rfl
theorem own_cap (h : w.ownsRow 0 t k (.slice A n cap) n vs) : n ≤ cap ∧ cap ≤ maxLen ∧ (A = none → cap = 0) := by
  rcases h.2 with ⟨e, h0⟩ | ⟨g, c, cur, e, hb, hh, h1, h2, _⟩
  · injection e with e1 e2 e3
    subst e1 e3
    exact ⟨by omega, Nat.zero_le _, fun _ => rfl⟩
  · injection e with e1 e2 e3
    subst e1 e3
    exact ⟨h1, h2, fun h => (by cases h)⟩
/-- Its elements. -/
theorem own_at {α : Type} {f : α → List Value} (hf : ∀ x, (f x).length = k) {l : List α} (h : w.ownsRow 0 t k (.slice A n cap) n (l.flatMap f)) {i : Nat} {x : α} (hx : l[i]? = some x) (hk : 0 < k) :
    ∃ g, A = some ⟨g, 0, none⟩ ∧ (∃ cs, Blk w g t cs) ∧ w.rangeAt g (i * k) (f x) ∧ w.there g (i * k) k := by
  have hi := (List.getElem?_eq_some_iff.1 hx).1
  have hl : l.length = n := by
    have := h.1
    rw [flat_len hf] at this
    exact Nat.eq_of_mul_eq_mul_right hk this
  rcases id h.2 with ⟨e, h0⟩ | ⟨g, c, cur, e, hb, hh, h1, h2, h3, h4⟩
  · omega
  · injection e with e1 e2 e3
    subst e1 e3
    have hin : ∀ j, j < k → i * k + j < n * k := fun j hj => by
      have : (i + 1) * k ≤ n * k := Nat.mul_le_mul_right _ (by omega)
      rw [Nat.add_mul] at this
      omega
    have hr : w.rangeAt g (i * k) (f x) := fun j v hv => by
      have hj : j < k := by
        have := (List.getElem?_eq_some_iff.1 hv).1
        rw [hf] at this
        exact this
      rw [h.cellAt _ (hin j hj), flat_get hf l i x hx j hj, hv]
    refine ⟨g, rfl, ⟨cur, hh⟩, hr, fun j hj => ⟨?_, h.frozenAt _⟩⟩
    rw [hr j _ (List.getElem?_eq_getElem (by rw [hf]; exact hj))]
    rfl
end
end Go.Proofs.Ytdilmapcjmdabaa
