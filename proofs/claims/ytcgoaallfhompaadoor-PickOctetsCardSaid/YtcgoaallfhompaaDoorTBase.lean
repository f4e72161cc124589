/- Words and bagged cells as cells of memory; lists of them, however they lie; what turns, and what is kept. Conditions: none. -/
import Derived.Test.YtcgoaallfhompaaDoorRows
import Derived.WalkKit
import Derived.WalkSpells
import Derived.DataShut
import Derived.Lib.Hide
import Derived.Laws.ResultCell
import Derived.Laws.CopyOwn
import Derived.Below
import Derived.Laws.StructEq
import Derived.Deep.MidRow
import Derived.Deep.AppendLies
import Derived.Deep.RegionLaw
import Derived.Deep.RegionHeld3
import Derived.ArgAppend
import Derived.Laws.AppendOwnNone
import Derived.ChangeKeysEq
import Derived.Deep.Draws
import Derived.Test.YtcgoaallfhompaaDoorOWords
namespace Go.Proofs.YtcgoaallfhompaaDoor.T
set_option linter.unusedSimpArgs false
set_option linter.unusedVariables false
open Go.ChangeShapes Go.WideShapes Go.RowKit
section
variable {w w' : World} {g B : Nat} {t : TypeId} {cs : Array Value}
theorem _root_.Go.Proofs.YtcgoaallfhompaaDoor.Blk.on (h : Blk w g t cs) (hb : Below w.heap.size w w') : Blk w' g t cs := (hb.block g h.lt).trans h
theorem _root_.Go.Proofs.YtcgoaallfhompaaDoor.Blk.ne {g' : Nat} {t' : TypeId} {cs' : Array Value} (h : Blk w g t cs) (h' : Blk w g' t' cs') (ht : t ≠ t') : g ≠ g' := fun e => by
  subst e
  unfold Blk at h h'
  rw [h] at h'
  injection h' with h'
  injection h' with _ h' _
  exact ht h'
end
/-- What turns is in S, or new. -/
structure _root_.Go.Proofs.YtcgoaallfhompaaDoor.Kept (S : Nat → Prop) (w w' : World) : Prop where
  os : w'.os = w.os
  tape : w'.tape = w.tape
  output : w'.output = w.output
  size : w.heap.size ≤ w'.heap.size
  block : ∀ k, k < w.heap.size → ¬ S k → w'.heap[k]? = w.heap[k]?
section
variable {S S' : Nat → Prop} {w w1 w2 : World}
theorem _root_.Go.Proofs.YtcgoaallfhompaaDoor.Kept.refl (S : Nat → Prop) (w : World) : Kept S w w := ⟨rfl, rfl, rfl, Nat.le_refl _, fun _ _ _ => rfl⟩
theorem _root_.Go.Proofs.YtcgoaallfhompaaDoor.Kept.next (h : Kept S w w1) (k : Kept S' w1 w2) (hS : ∀ g, S' g → S g ∨ w.heap.size ≤ g) : Kept S w w2 :=
  ⟨k.os.trans h.os, k.tape.trans h.tape, k.output.trans h.output, Nat.le_trans h.size k.size, fun i hi hn =>
    (k.block i (Nat.lt_of_lt_of_le hi h.size) (fun e => (hS i e).elim hn (fun _ => by omega))).trans (h.block i hi hn)⟩
theorem _root_.Go.Proofs.YtcgoaallfhompaaDoor.Kept.more (h : Kept S w w1) (hS : ∀ g, S g → S' g) : Kept S' w w1 := ⟨h.os, h.tape, h.output, h.size, fun k hk hn => h.block k hk fun e => hn (hS k e)⟩
theorem _root_.Go.Proofs.YtcgoaallfhompaaDoor.kept_below (S : Nat → Prop) (h : Below w.heap.size w w1) : Kept S w w1 := ⟨h.os, h.tape, h.output, h.size, fun k hk _ => h.block k hk⟩
theorem _root_.Go.Proofs.YtcgoaallfhompaaDoor.kept_grown {row : Option Nat} (h : w.grownBy w1 row) : Kept (fun k => row = some k) w w1 := ⟨h.os, h.tape, h.output, h.size, fun k hk hn => h.block k hk fun e => hn e.symm⟩
theorem _root_.Go.Proofs.YtcgoaallfhompaaDoor.Kept.grown (h : Kept S w w1) (row : Option Nat) (hS : ∀ k, S k → some k = row) : w.grownBy w1 row := ⟨h.os, h.tape, h.output, h.size, fun k hk hn => h.block k hk fun e => hn (hS k e)⟩
theorem _root_.Go.Proofs.YtcgoaallfhompaaDoor.Kept.under (h : Kept S w w1) (B : Nat) (hB : B ≤ w.heap.size) (hS : ∀ k, S k → B ≤ k) : Below B w w1 := ⟨h.os, h.tape, h.output, h.size, fun k hk => h.block k (by omega) fun e => by have := hS k e; omega⟩
theorem _root_.Go.Proofs.YtcgoaallfhompaaDoor.kept_cell (w : World) (a : Addr) (u : Value) : Kept (fun k => k = a.block) w (w.setCell a u) :=
  ⟨rfl, rfl, rfl, by simp [World.setCell], fun k _ hn => Below.heap_setCell _ _ _ _ hn⟩
theorem _root_.Go.Proofs.YtcgoaallfhompaaDoor.kept_row (w : World) (g : Nat) (cs : Array Value) : Kept (fun k => k = g) w (w.setRow g cs) :=
  ⟨rfl, rfl, rfl, by simp [World.setRow], fun k _ hn => setRow_other _ _ _ _ hn⟩
theorem _root_.Go.Proofs.YtcgoaallfhompaaDoor.kept_cells (g : Nat) : ∀ (vs : List Value) (o : Nat) (w : World), Kept (fun k => k = g) w (w.setCells g o vs)
  | [], _, w => Kept.refl _ w
  | v :: r, o, w => by
    rw [World.setCells]
    exact (kept_cell w ⟨g, o, none⟩ v).next (kept_cells g r (o + 1) _) (fun g h => .inl h)
theorem _root_.Go.Proofs.YtcgoaallfhompaaDoor.Blk.kept {g : Nat} {t : TypeId} {cs : Array Value} (h : Blk w g t cs) (k : Kept S w w1) (hg : ¬ S g) : Blk w1 g t cs := (k.block g h.lt hg).trans h
end
/-! ### words, bagged cells -/
/-- A word: its number, the cell to which it points, that cell's life. -/
structure _root_.Go.Proofs.YtcgoaallfhompaaDoor.Wd where
  n : Int
  c : Int
  g : Int
deriving DecidableEq
def _root_.Go.Proofs.YtcgoaallfhompaaDoor.Wd.cs (x : Wd) : List Value := [.int .i64 x.n, .int .i64 x.c, .int .i64 x.g]
def _root_.Go.Proofs.YtcgoaallfhompaaDoor.noW : Wd := ⟨0, 0, 0⟩
/-- A cell in a bag: its number, its life, and a number of its own. -/
structure _root_.Go.Proofs.YtcgoaallfhompaaDoor.Bg where
  c : Int
  g : Int
  n : Int
deriving DecidableEq
def _root_.Go.Proofs.YtcgoaallfhompaaDoor.Bg.cs (x : Bg) : List Value := [.int .i64 x.c, .int .i64 x.g, .int .i64 x.n]
def _root_.Go.Proofs.YtcgoaallfhompaaDoor.noB : Bg := ⟨0, 0, 0⟩
instance : Inhabited Bg := ⟨noB⟩
def _root_.Go.Proofs.YtcgoaallfhompaaDoor.flatB (l : List Bg) : List Value := l.flatMap Bg.cs
def _root_.Go.Proofs.YtcgoaallfhompaaDoor.int1 (x : Int) : List Value := [.int .i64 x]
def _root_.Go.Proofs.YtcgoaallfhompaaDoor.ints (l : List Int) : List Value := l.flatMap int1
theorem _root_.Go.Proofs.YtcgoaallfhompaaDoor.Wd.len (c : Wd) : c.cs.length = 3 := rfl
theorem _root_.Go.Proofs.YtcgoaallfhompaaDoor.Bg.len (c : Bg) : c.cs.length = 3 := rfl
theorem _root_.Go.Proofs.YtcgoaallfhompaaDoor.int1_len (x : Int) : (int1 x).length = 1 := rfl
theorem _root_.Go.Proofs.YtcgoaallfhompaaDoor.Wd.onea (c : Wd) : c.cs.toArray.all (·.oneCell') = true := by simp [Wd.cs, Value.oneCell']
theorem _root_.Go.Proofs.YtcgoaallfhompaaDoor.Bg.one (c : Bg) : ∀ v ∈ c.cs, v.oneCell' = true := by
  intro v hv
  simp only [Bg.cs, List.mem_cons, List.not_mem_nil, or_false] at hv
  rcases hv with rfl | rfl | rfl <;> rfl
theorem _root_.Go.Proofs.YtcgoaallfhompaaDoor.Bg.onea (c : Bg) : c.cs.toArray.all (·.oneCell') = true := by simp [Bg.cs, Value.oneCell']
theorem _root_.Go.Proofs.YtcgoaallfhompaaDoor.ints_map (l : List Int) : ints l = l.map (Value.int .i64) := by
  induction l with
  | nil => rfl
  | cons x r ih => rw [ints, List.flatMap_cons, ← ints, ih]; rfl
section
variable {α : Type} {f : α → List Value} {k : Nat}
theorem _root_.Go.Proofs.YtcgoaallfhompaaDoor.flat_len (hf : ∀ x, (f x).length = k) : ∀ l : List α, (l.flatMap f).length = l.length * k
  | [] => by simp
  | x :: r => by
    rw [List.flatMap_cons, List.length_append, hf, flat_len hf r, List.length_cons, Nat.add_mul]
    omega
theorem _root_.Go.Proofs.YtcgoaallfhompaaDoor.flat_get (hf : ∀ x, (f x).length = k) : ∀ (l : List α) (i : Nat) (x : α), l[i]? = some x → ∀ j, j < k → (l.flatMap f)[i * k + j]? = (f x)[j]?
  | [], i, x, h, _, _ => by simp at h
  | y :: r, 0, x, h, j, hj => by
    simp at h
    subst h
    rw [List.flatMap_cons, Nat.zero_mul, Nat.zero_add, List.getElem?_append_left (by rw [hf]; exact hj)]
  | y :: r, i + 1, x, h, j, hj => by
    rw [List.flatMap_cons, List.getElem?_append_right (by rw [hf, Nat.add_mul]; omega), hf, show (i + 1) * k + j - k = i * k + j by rw [Nat.add_mul]; omega]
    exact flat_get hf r i x (by simpa using h) j hj
theorem _root_.Go.Proofs.YtcgoaallfhompaaDoor.flat_set (hf : ∀ x, (f x).length = k) (l : List α) (i : Nat) (x : α) (j : Nat) (hi : i < l.length) : ((l.set i x).flatMap f)[j]? = if i * k ≤ j ∧ j < i * k + k then (f x)[j - i * k]? else (l.flatMap f)[j]? := by
  by_cases hk : k = 0
  · subst hk
    have h0 : ∀ l' : List α, l'.flatMap f = [] := fun l' => List.eq_nil_of_length_eq_zero (by rw [flat_len hf]; omega)
    rw [if_neg (by omega), h0, h0]
  have hkp : 0 < k := Nat.pos_of_ne_zero hk
  by_cases hj : j < l.length * k
  · have ej : j = j / k * k + j % k := by rw [Nat.mul_comm]; exact (Nat.div_add_mod j k).symm
    have hm : j % k < k := Nat.mod_lt _ hkp
    have hd : j / k < l.length := Nat.div_lt_of_lt_mul (by rw [Nat.mul_comm]; exact hj)
    by_cases e : j / k = i
    · have h1 : i * k ≤ j ∧ j < i * k + k := by rw [← e]; omega
      rw [if_pos h1]
      have := flat_get hf (l.set i x) i x (by simp [hi]) (j % k) hm
      rw [show j - i * k = j % k by rw [← e]; omega, ← this, ← e, ← ej]
    · have h1 : ¬ (i * k ≤ j ∧ j < i * k + k) := fun h => e (by
        apply Nat.div_eq_of_lt_le
        · exact h.1
        · rw [Nat.add_mul]; omega)
      rw [if_neg h1]
      have hx : l[j / k]? = some l[j / k] := List.getElem?_eq_getElem hd
      have a := flat_get hf l (j / k) _ hx (j % k) hm
      have b := flat_get hf (l.set i x) (j / k) l[j / k] (by rw [List.getElem?_set_ne (fun h => e h.symm)]; exact hx) (j % k) hm
      rw [← ej] at a b
      rw [a, b]
  · have h1 : ¬ (i * k ≤ j ∧ j < i * k + k) := fun h => hj (Nat.lt_of_lt_of_le h.2 (by rw [← Nat.succ_mul]; exact Nat.mul_le_mul_right _ hi))
    rw [if_neg h1, List.getElem?_eq_none (by rw [flat_len hf, List.length_set]; omega), List.getElem?_eq_none (by rw [flat_len hf]; omega)]
theorem _root_.Go.Proofs.YtcgoaallfhompaaDoor.flat_one (h1 : ∀ x, ∀ v ∈ f x, v.oneCell' = true) (l : List α) : ∀ v ∈ l.flatMap f, v.oneCell' = true := by
  intro v hv
  obtain ⟨x, _, hx⟩ := List.mem_flatMap.1 hv
  exact h1 x v hx
end
theorem _root_.Go.Proofs.YtcgoaallfhompaaDoor.info3 : (Tryd.prog.info? 3).map (fun i => (i.zero, i.size, i.bytes)) = some (some (.int .i64 0), 1, 8) := by kernel_rfl
/-! ### lists of the program's: from the head of a block -/
section
variable {w w' : World} {A : Option Addr} {n cap k : Nat} {t : TypeId} {vs : List Value}
/-- In which block a list lies. -/
def _root_.Go.Proofs.YtcgoaallfhompaaDoor.lies (A : Option Addr) (g : Nat) : Prop := A.map (·.block) = some g
theorem _root_.Go.Proofs.YtcgoaallfhompaaDoor.own_lies (A : Option Addr) (n cap g : Nat) : (Value.slice A n cap).ownBlock = some g ↔ lies A g := by cases A <;> rfl
theorem _root_.Go.Proofs.YtcgoaallfhompaaDoor.own_kept {S : Nat → Prop} (h : w.ownsRow 0 t k (.slice A n cap) n vs) (hk : Kept S w w') (hS : ∀ g, lies A g → ¬ S g) : w'.ownsRow 0 t k (.slice A n cap) n vs := by
  refine ⟨h.1, ?_⟩
  rcases h.2 with hn | ⟨g, c, cur, e, hb, hg, rest⟩
  · exact .inl hn
  · refine .inr ⟨g, c, cur, e, hb, ?_, rest⟩
    injection e with e
    subst e
    exact (hk.block g (Array.getElem?_eq_some_iff.1 hg).1 (hS g rfl)).trans hg
theorem _root_.Go.Proofs.YtcgoaallfhompaaDoor.own_below (h : w.ownsRow 0 t k (.slice A n cap) n vs) (hb : Below w.heap.size w w') : w'.ownsRow 0 t k (.slice A n cap) n vs := own_kept h (kept_below (fun _ => False) hb) (fun _ _ h => h)
/-- The block is one of that type. -/
theorem _root_.Go.Proofs.YtcgoaallfhompaaDoor.own_blk (h : w.ownsRow 0 t k (.slice A n cap) n vs) {g : Nat} (hg : lies A g) : ∃ cs, Blk w g t cs := by
  rcases h.2 with ⟨e, _⟩ | ⟨g', c, cur, e, hb, hh, rest⟩
  · injection e with e
    subst e
    cases hg
  · injection e with e
    subst e
    injection hg with hg
    subst hg
    exact ⟨cur, hh⟩
theorem _root_.Go.Proofs.YtcgoaallfhompaaDoor.own_off (h : w.ownsRow 0 t k (.slice A n cap) n vs) {g : Nat} {t' : TypeId} {cs : Array Value} (hb : Blk w g t' cs) (ht : t ≠ t') : ¬ lies A g := fun hg => by
  obtain ⟨cs', h'⟩ := own_blk h hg
  exact h'.ne hb ht rfl
theorem _root_.Go.Proofs.YtcgoaallfhompaaDoor.own_cap (h : w.ownsRow 0 t k (.slice A n cap) n vs) : n ≤ cap ∧ cap ≤ maxLen ∧ (A = none → cap = 0) := by
  rcases h.2 with ⟨e, h0⟩ | ⟨g, c, cur, e, hb, hh, h1, h2, _⟩
  · injection e with e1 e2 e3
    subst e1 e3
    exact ⟨by omega, Nat.zero_le _, fun _ => rfl⟩
  · injection e with e1 e2 e3
    subst e1 e3
    exact ⟨h1, h2, fun h => (by cases h)⟩
/-- Its elements. -/
theorem _root_.Go.Proofs.YtcgoaallfhompaaDoor.own_at {α : Type} {f : α → List Value} (hf : ∀ x, (f x).length = k) {l : List α} (h : w.ownsRow 0 t k (.slice A n cap) n (l.flatMap f)) {i : Nat} {x : α} (hx : l[i]? = some x) (hk : 0 < k) :
    ∃ g, A = some ⟨g, 0, none⟩ ∧ (∃ cs, Blk w g t cs) ∧ w.rangeAt g (i * k) (f x) ∧ w.there g (i * k) k := by
  have hi := (List.getElem?_eq_some_iff.1 hx).1
  have hl : l.length = n := by
    have := h.1
    rw [flat_len hf] at this
    exact Nat.eq_of_mul_eq_mul_right hk this
  rcases id h.2 with ⟨e, h0⟩ | ⟨g, c, cur, e, hb, hh, h1, h2, h3, h4⟩
  · omega
  · injection e with e1 e2 e3
    subst e1 e3
    have hin : ∀ j, j < k → i * k + j < n * k := fun j hj => by
      have : (i + 1) * k ≤ n * k := Nat.mul_le_mul_right _ (by omega)
      rw [Nat.add_mul] at this
      omega
    have hr : w.rangeAt g (i * k) (f x) := fun j v hv => by
      have hj : j < k := by
        have := (List.getElem?_eq_some_iff.1 hv).1
        rw [hf] at this
        exact this
      rw [h.cellAt _ (hin j hj), flat_get hf l i x hx j hj, hv]
    refine ⟨g, rfl, ⟨cur, hh⟩, hr, fun j hj => ⟨?_, h.frozenAt _⟩⟩
    rw [hr j _ (List.getElem?_eq_getElem (by rw [hf]; exact hj))]
    rfl
end
section
variable {w w' : World} {B n cap k : Nat} {t : TypeId} {v : Value} {vs : List Value} {A : Option Addr}
theorem _root_.Go.Proofs.YtcgoaallfhompaaDoor.own_form (h : w.ownsRow B t k v n vs) : ∃ A cap, v = .slice A n cap := by
  rcases h.2 with ⟨rfl, rfl⟩ | ⟨g, c, cur, rfl, _⟩
  · exact ⟨none, 0, rfl⟩
  · exact ⟨_, c, rfl⟩
theorem _root_.Go.Proofs.YtcgoaallfhompaaDoor.own_low (h : w.ownsRow B t k v n vs) : w.ownsRow 0 t k v n vs := by
  refine ⟨h.1, ?_⟩
  rcases h.2 with h0 | ⟨g, c, cur, e, hb, rest⟩
  · exact .inl h0
  · exact .inr ⟨g, c, cur, e, Nat.zero_le _, rest⟩
theorem _root_.Go.Proofs.YtcgoaallfhompaaDoor.own_new (h : w.ownsRow B t k (.slice A n cap) n vs) : ∀ g, lies A g → B ≤ g := fun g hg => (h.lt g ((own_lies A n cap g).2 hg)).1
end
/-- In which block the elements lie. -/
def _root_.Go.Proofs.YtcgoaallfhompaaDoor.holds (A : Option Addr) (n : Nat) (g : Nat) : Prop := 0 < n ∧ lies A g
/-- A slice that reads as such cells, however it came to be. -/
structure _root_.Go.Proofs.YtcgoaallfhompaaDoor.Sees (w : World) (k : Nat) (A : Option Addr) (n cap : Nat) (vs : List Value) : Prop where
  len : vs.length = n * k
  room : n ≤ cap
  most : cap ≤ maxLen
  none_ : A = none → cap = 0
  cell : ∀ ad, A = some ad → 0 < n → ∃ g o, ad = ⟨g, o, none⟩ ∧ g < w.heap.size ∧ w.rangeAt g o vs
section
variable {w w' : World} {k n cap : Nat} {A : Option Addr} {vs : List Value} {t : TypeId}
theorem _root_.Go.Proofs.YtcgoaallfhompaaDoor.own_sees {B : Nat} (h : w.ownsRow B t k (.slice A n cap) n vs) : Sees w k A n cap vs := by
  obtain ⟨h1, h2, h3⟩ := own_cap (own_low h)
  refine ⟨h.1, h1, h2, h3, fun ad ha _ => ?_⟩
  rcases id h.2 with ⟨e, _⟩ | ⟨g, c, cur, e, hb, hh, _⟩
  · injection e with e
    rw [ha] at e
    cases e
  · injection e with e
    rw [ha] at e
    injection e with e
    subst e
    refine ⟨g, 0, rfl, (Array.getElem?_eq_some_iff.1 hh).1, fun j v hv => ?_⟩
    have := h.cells (g := g) (by rw [ha]; rfl) j v hv
    rw [Addr.add_mid] at this
    exact this
theorem _root_.Go.Proofs.YtcgoaallfhompaaDoor.Sees.kept {S : Nat → Prop} (h : Sees w k A n cap vs) (hk : Kept S w w') (hS : ∀ g, holds A n g → ¬ S g) : Sees w' k A n cap vs :=
  ⟨h.len, h.room, h.most, h.none_, fun ad ha hn => by
    obtain ⟨g, o, e, hg, hr⟩ := h.cell ad ha hn
    exact ⟨g, o, e, Nat.lt_of_lt_of_le hg hk.size, fun j v hv => (World.cell?_of_block (w := w) (hk.block g hg (hS g ⟨hn, by rw [ha, e]; rfl⟩))).trans (hr j v hv)⟩⟩
theorem _root_.Go.Proofs.YtcgoaallfhompaaDoor.Sees.below (h : Sees w k A n cap vs) (hb : Below w.heap.size w w') : Sees w' k A n cap vs := h.kept (kept_below (fun _ => False) hb) (fun _ _ e => e)
theorem _root_.Go.Proofs.YtcgoaallfhompaaDoor.Sees.lt (h : Sees w k A n cap vs) : ∀ g, holds A n g → g < w.heap.size := fun g hg => by
  obtain ⟨hn, hg⟩ := hg
  cases A with
  | none => cases hg
  | some ad =>
    obtain ⟨g', o, rfl, hg', _⟩ := h.cell ad rfl hn
    have : g' = g := by simpa [lies] using hg
    omega
end
theorem _root_.Go.Proofs.YtcgoaallfhompaaDoor.run_append_owned_zero {w : World} (base : Nat) (t ty e : TypeId) (i : TypeInfo) (size : Nat) (ht : Tryd.prog.underlying t = some (.slice e)) (hi : Tryd.prog.info? e = some i)
    (v : Value) (n : Nat) (xs : List Value) (hown : w.ownsRow base e size v n xs) (a : Addr) (c : Nat) :
    (Builtin.append_ #[t, t] ty #[v, .slice (some a) 0 c]).run Tryd.prog w = .ok v w := by
  have hl : (loadCells a 0).run Tryd.prog w = .ok #[] w := run_loadCells_list (P := Tryd.prog) w a [] (by simp)
  rcases hown.2 with ⟨rfl, rfl⟩ | ⟨g, cap, cur, rfl, _, _, hnc, _⟩
  · simp [Builtin.append_, run_underlying ht, sizeOf, typeInfo, hi, Builtin.lenOf, Builtin.firstCells, hl]
  · simp [Builtin.append_, run_underlying ht, sizeOf, typeInfo, hi, Builtin.lenOf, Builtin.firstCells, hnc, storeCells, hl]
/-- 'append(l, xs...)' onto a list of the call's own, whatever xs. -/
theorem _root_.Go.Proofs.YtcgoaallfhompaaDoor.wpList_app {w : World} {ops : Array Oper} {rest : List Oper} {o : Oper} {a : Act} {Q : Exit → Act → World → Prop} (hgd : o.guard = none) (s x : Operand) (t : TypeId)
    (ho : o.op = .call { callee := .builtin .append, args := #[s, x], argTypes := #[t, t] })
    (base : Nat) (e : TypeId) (i : TypeInfo) (z : Value) (size bytes : Nat) (ht : Tryd.prog.underlying t = some (.slice e)) (hi : Tryd.prog.info? e = some i) (hz : i.zero = some z)
    (hsize : i.size = size) (hby : i.bytes = bytes) (hzs : z.cells.size = size) (hsz : 0 < size)
    (A0 : Option Addr) (n0 c0 : Nat) (xs : List Value) (hs : a.eval s = .slice A0 n0 c0) (hown : w.ownsRow base e size (.slice A0 n0 c0) n0 xs)
    (A : Option Addr) (n cap : Nat) (vs : List Value) (hx : a.eval x = .slice A n cap) (hv : Sees w size A n cap vs) (h1 : ∀ u ∈ vs, u.oneCell' = true)
    (h63 : n0 + n ≤ maxLen) (hbytes : (n0 + n) * bytes ≤ 140737488355328) (hbase : base ≤ w.heap.size)
    (h : ∀ A' c' w', w'.ownsRow base e size (.slice A' (n0 + n) c') (n0 + n) (xs ++ vs) → w.grownBy w' (Value.slice A0 n0 c0).ownBlock → (∀ g, lies A' g → lies A0 g ∨ w.heap.size ≤ g) → wpList Tryd.prog ops Q rest (a.put o.dst (.slice A' (n0 + n) c')) w') : wpList Tryd.prog ops Q (o :: rest) a w := by
  cases A with
  | none =>
    have hc := hv.none_ rfl
    have hr := hv.room
    obtain rfl : cap = 0 := hc
    obtain rfl : n = 0 := by omega
    obtain rfl : vs = [] := List.eq_nil_of_length_eq_zero (by rw [hv.len, Nat.zero_mul])
    refine wpList_append_own_none hgd s x t ho base e i size ht hi (.slice A0 n0 c0) n0 xs hs hown hx ?_
    have := h A0 c0 w (by simpa using hown) ⟨rfl, rfl, rfl, Nat.le_refl _, fun _ _ _ => rfl⟩ (fun g hg => .inl hg)
    simpa using this
  | some ad =>
    by_cases hn : n = 0
    · subst hn
      obtain rfl : vs = [] := List.eq_nil_of_length_eq_zero (by rw [hv.len, Nat.zero_mul])
      refine wpList_plain hgd fun K hK => ?_
      have hrun := run_append_owned_zero (w := w) base t o.type e i size ht hi (.slice A0 n0 c0) n0 xs hown ad cap
      unfold Oper.wp
      simp [execOp, ho, resolve, invoke, builtin, hs, hx, hrun, Result.andThen]
      refine hK _ _ ?_
      have := h A0 c0 w (by simpa using hown) ⟨rfl, rfl, rfl, Nat.le_refl _, fun _ _ _ => rfl⟩ (fun g hg => .inl hg)
      simpa using this
    · obtain ⟨g, off, rfl, hg, hr⟩ := hv.cell ad rfl (by omega)
      refine wpList_append_lies w hgd s x t ho base e i z size bytes ht hi hz hsize hby hzs hsz (.slice A0 n0 c0) n0 xs hs hown ⟨g, off, none⟩ n cap vs hx hv.len (fun j u hu => by rw [Addr.add_mid]; exact hr j u hu) h1 (by omega) h63 hbytes hbase w.heap.size rfl ?_
      intro gg cp w' ho' hg' hat hlt
      refine h _ cp w' ho' hg' (fun g' hg'' => ?_)
      have e2 : gg = g' := by simpa [lies] using hg''
      subst e2
      rcases hat with hat | hat
      · exact .inl ((own_lies A0 n0 c0 _).1 hat)
      · exact .inr (by omega)
theorem _root_.Go.Proofs.YtcgoaallfhompaaDoor.sees_at {α : Type} {f : α → List Value} {k : Nat} (hf : ∀ x, (f x).length = k) {w : World} {A : Option Addr} {n cap : Nat} {l : List α} (h : Sees w k A n cap (l.flatMap f)) {i : Nat} {x : α} (hx : l[i]? = some x) (hk : 0 < k) :
    ∃ g o, A = some ⟨g, o, none⟩ ∧ w.rangeAt g (o + i * k) (f x) := by
  have hi := (List.getElem?_eq_some_iff.1 hx).1
  have hl : l.length = n := by
    have := h.len
    rw [flat_len hf] at this
    exact Nat.eq_of_mul_eq_mul_right hk this
  cases A with
  | none => have := h.none_ rfl; have := h.room; omega
  | some ad =>
    obtain ⟨g, o, rfl, hg, hr⟩ := h.cell ad rfl (by omega)
    refine ⟨g, o, rfl, fun j v hv => ?_⟩
    have hj : j < k := by
      have := (List.getElem?_eq_some_iff.1 hv).1
      rw [hf] at this
      exact this
    rw [Nat.add_assoc]
    exact hr (i * k + j) v (by rw [flat_get hf l i x hx j hj, hv])
section
variable {w w' : World}
theorem _root_.Go.Proofs.YtcgoaallfhompaaDoor.blk_set {g : Nat} {t : TypeId} {cs : Array Value} (h : Blk w g t cs) (i : Nat) (v : Value) : Blk (w.setCell ⟨g, i, none⟩ v) g t (cs.setIfInBounds i v) := heap_setCell_same w g i cs t v h
theorem _root_.Go.Proofs.YtcgoaallfhompaaDoor.blk_far {g g' : Nat} {t : TypeId} {cs : Array Value} (h : Blk w g t cs) (hg : g ≠ g') (i : Nat) (v : Value) : Blk (w.setCell ⟨g', i, none⟩ v) g t cs := (Below.heap_setCell _ _ _ _ hg).trans h
theorem _root_.Go.Proofs.YtcgoaallfhompaaDoor.blk_new (w : World) (cs : Array Value) (t : TypeId) (n : Nat) (hn : w.heap.size = n) : Blk (w.alloc (.cells cs t)) n t cs := by
  subst hn
  exact heap_alloc_new w _
theorem _root_.Go.Proofs.YtcgoaallfhompaaDoor.blk_grown {g : Nat} {t : TypeId} {cs : Array Value} {row : Option Nat} (h : Blk w g t cs) (hg : w.grownBy w' row) (hr : some g ≠ row) : Blk w' g t cs := (hg.block g h.lt hr).trans h
end
/-- A part of a row turned. -/
def _root_.Go.Proofs.YtcgoaallfhompaaDoor.splice (cur : Array Value) : Nat → List Value → Array Value
  | _, [] => cur
  | o, v :: r => splice (cur.setIfInBounds o v) (o + 1) r
theorem _root_.Go.Proofs.YtcgoaallfhompaaDoor.splice_size : ∀ (vs : List Value) (cur : Array Value) (o : Nat), (splice cur o vs).size = cur.size
  | [], _, _ => rfl
  | v :: r, cur, o => by rw [splice, splice_size r]; simp
theorem _root_.Go.Proofs.YtcgoaallfhompaaDoor.splice_get : ∀ (vs : List Value) (cur : Array Value) (o i : Nat), o + vs.length ≤ cur.size → (splice cur o vs)[i]? = if o ≤ i ∧ i < o + vs.length then vs[i - o]? else cur[i]?
  | [], cur, o, i, _ => by rw [splice, if_neg (by simp)]
  | v :: r, cur, o, i, h => by
    simp only [List.length_cons] at h
    rw [splice, splice_get r _ (o + 1) i (by simp; omega), Array.getElem?_setIfInBounds, List.length_cons]
    by_cases h1 : i = o
    · subst h1
      rw [if_neg (by omega), if_pos rfl, if_pos (by omega), if_pos (by omega)]
      simp
    · by_cases h2 : o + 1 ≤ i ∧ i < o + 1 + r.length
      · rw [if_pos h2, if_pos (by omega), show i - o = (i - (o + 1)) + 1 by omega]
        simp
      · rw [if_neg h2, if_neg (by omega), if_neg (by omega)]
theorem _root_.Go.Proofs.YtcgoaallfhompaaDoor.heap_cells {g : Nat} {t : TypeId} : ∀ (vs : List Value) (o : Nat) (w : World) (cur : Array Value), Blk w g t cur → Blk (w.setCells g o vs) g t (splice cur o vs)
  | [], _, _, _, h => h
  | v :: r, o, w, cur, h => by
    rw [World.setCells, splice]
    exact heap_cells r (o + 1) _ _ (heap_setCell_same w g o cur t v h)
section
variable {w : World}
theorem _root_.Go.Proofs.YtcgoaallfhompaaDoor.there_blk {g : Nat} {t : TypeId} {cs : Array Value} (h : Blk w g t cs) (o n : Nat) (hn : o + n ≤ cs.size) : w.there g o n := fun j hj =>
  ⟨by rw [h.cell, Array.getElem?_eq_getElem (by omega)]; rfl, h.free _⟩
theorem _root_.Go.Proofs.YtcgoaallfhompaaDoor.range_blk {g : Nat} {t : TypeId} {cs : List Value} (h : Blk w g t cs.toArray) : w.rangeAt g 0 cs := fun j v hv => by
  rw [Nat.zero_add, h.cell]
  simpa using hv
end
/-- A slice that reads as such bagged cells; as such numbers. -/
def _root_.Go.Proofs.YtcgoaallfhompaaDoor.SeesB (w : World) (A : Option Addr) (n cap : Nat) (l : List Bg) : Prop := Sees w 3 A n cap (flatB l)
def _root_.Go.Proofs.YtcgoaallfhompaaDoor.SeesI (w : World) (A : Option Addr) (n cap : Nat) (l : List Int) : Prop := Sees w 1 A n cap (ints l)
section
variable {w w' : World} {A : Option Addr} {n cap : Nat} {l : List Bg} {z : List Int}
theorem _root_.Go.Proofs.YtcgoaallfhompaaDoor.SeesB.on (h : SeesB w A n cap l) (hb : Below w.heap.size w w') : SeesB w' A n cap l := Sees.below h hb
theorem _root_.Go.Proofs.YtcgoaallfhompaaDoor.SeesI.on (h : SeesI w A n cap z) (hb : Below w.heap.size w w') : SeesI w' A n cap z := Sees.below h hb
theorem _root_.Go.Proofs.YtcgoaallfhompaaDoor.SeesB.len (h : SeesB w A n cap l) : l.length = n := by
  have := Sees.len h
  unfold flatB at this
  rw [flat_len Bg.len] at this
  omega
theorem _root_.Go.Proofs.YtcgoaallfhompaaDoor.SeesI.len (h : SeesI w A n cap z) : z.length = n := by
  have := Sees.len h
  unfold ints at this
  rw [flat_len int1_len] at this
  omega
theorem _root_.Go.Proofs.YtcgoaallfhompaaDoor.SeesB.at_ (h : SeesB w A n cap l) {i : Nat} {x : Bg} (hx : l[i]? = some x) : ∃ g o, A = some ⟨g, o, none⟩ ∧ w.rangeAt g (o + i * 3) x.cs := sees_at Bg.len h hx (by omega)
theorem _root_.Go.Proofs.YtcgoaallfhompaaDoor.SeesB.get (h : SeesB w A n cap l) {k : Nat} (hk : k < n) : ∃ g o, A = some ⟨g, o, none⟩ ∧ w.rangeAt g (o + k * 3) (l.getD k noB).cs := by
  have hl := h.len
  have hx : l[k]? = some (l.getD k noB) := by simp [List.getD, List.getElem?_eq_getElem (show k < l.length by omega)]
  exact h.at_ hx
theorem _root_.Go.Proofs.YtcgoaallfhompaaDoor.SeesI.get (h : SeesI w A n cap z) {k : Nat} (hk : k < n) : ∃ g o, A = some ⟨g, o, none⟩ ∧ w.cell? ⟨g, o + k, none⟩ = some (.int .i64 (z.getD k 0)) := by
  have hl := h.len
  have hx : z[k]? = some (z.getD k 0) := by simp [List.getD, List.getElem?_eq_getElem (show k < z.length by omega)]
  obtain ⟨g, o, e, hr⟩ := sees_at int1_len h hx (by omega)
  refine ⟨g, o, e, ?_⟩
  have := hr 0 _ rfl
  rw [Nat.mul_one, Nat.add_zero] at this
  exact this
theorem _root_.Go.Proofs.YtcgoaallfhompaaDoor.ownB_below {B n k : Nat} {t : TypeId} {v : Value} {vs : List Value} (h : w.ownsRow B t k v n vs) (hb : Below w.heap.size w w') : w'.ownsRow B t k v n vs :=
  h.kept (row := none) ⟨hb.os, hb.tape, hb.output, hb.size, fun k hk _ => hb.block k hk⟩ (by cases v.ownBlock <;> simp)
theorem _root_.Go.Proofs.YtcgoaallfhompaaDoor.seesB_nil (w : World) : SeesB w none 0 0 [] := ⟨rfl, Nat.le_refl _, Nat.zero_le _, fun _ => rfl, fun ad e => (by cases e)⟩
end
theorem _root_.Go.Proofs.YtcgoaallfhompaaDoor.flatB_snoc (pre : List Bg) (x : Bg) : flatB (pre ++ [x]) = flatB pre ++ x.cs := by simp [flatB]
theorem _root_.Go.Proofs.YtcgoaallfhompaaDoor.Sees.first {α : Type} {f : α → List Value} {k : Nat} (hf : ∀ x, (f x).length = k) {w : World} {A : Option Addr} {n cap : Nat} {l : List α} (h : Sees w k A n cap (l.flatMap f)) (m : Nat) (hm : m ≤ n) (hk : 0 < k) : Sees w k A m cap ((l.take m).flatMap f) := by
  have hl : l.length = n := by
    have := h.len
    rw [flat_len hf] at this
    exact Nat.eq_of_mul_eq_mul_right hk this
  refine ⟨by rw [flat_len hf, List.length_take]; congr 1; omega, Nat.le_trans hm h.room, h.most, h.none_, fun ad ha h0 => ?_⟩
  obtain ⟨g, o, e, hg, hr⟩ := h.cell ad ha (by omega)
  refine ⟨g, o, e, hg, fun j v hv => hr j v ?_⟩
  have hj := (List.getElem?_eq_some_iff.1 hv).1
  have e2 : l.flatMap f = (l.take m).flatMap f ++ (l.drop m).flatMap f := by rw [← List.flatMap_append, List.take_append_drop]
  rw [e2, List.getElem?_append_left hj, hv]
theorem _root_.Go.Proofs.YtcgoaallfhompaaDoor.below_dn {b : Nat} {w w' : World} (h : Below b w w') (q : Nat) : Below b w (w'.drewN q) := ⟨h.os, h.tape, h.output, h.size, h.block⟩
end Go.Proofs.YtcgoaallfhompaaDoor.T
