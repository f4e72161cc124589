/- Texts as octets; the library's powers of ten, and what the rows' condition says of a world; places and programs as cells of memory. Conditions: none. -/
import Derived.Test.YtabnfiligbpocaaDoorRows
import Derived.WalkKit
import Derived.ProofKit
import Derived.OpenShut
import Derived.Below
import Derived.BigQuiet
import Derived.WalkSpells
import Derived.DataShut
import Derived.Lib.Hide
import Derived.Stop.Joined
import Derived.MakeChecks
import Derived.Lib.LaidTab
import Derived.Lib.ItoaNum
import Derived.Stop.LaidErr
import Derived.LaidMore
import Derived.Lay
import Derived.Laws.ResultCell
import Derived.Laws.CopyOwn
import Derived.Laws.StructEq
import Derived.Deep.MidRow
import Derived.Deep.AppendLies
import Derived.Deep.RegionLaw
import Derived.Deep.RegionHeld3
import Derived.ArgAppend
import Derived.Laws.AppendOwnNone
import Derived.ChangeKeysEq
namespace Go.Proofs.YtabnfiligbpocaaDoor
open Go.RowKit Go.ChangeShapes Go.WideShapes

/-- A text's octets, and octets as a text. -/
def oct (s : ByteArray) : List UInt8 := s.data.toList
def txt (l : List UInt8) : ByteArray := ⟨l.toArray⟩
theorem oct_txt (l : List UInt8) : oct (txt l) = l := by simp [oct, txt]
theorem txt_oct (s : ByteArray) : txt (oct s) = s := by cases s; simp [oct, txt]
theorem oct_len (s : ByteArray) : (oct s).length = s.size := by rw [oct, Array.length_toList]; rfl
theorem txt_size (l : List UInt8) : (txt l).size = l.length := by rw [← oct_len, oct_txt]
theorem txt_inj {a b : List UInt8} (h : txt a = txt b) : a = b := by rw [← oct_txt a, h, oct_txt]

theorem oct_at (s : ByteArray) (k : Nat) (h : k < s.size) : (oct s)[k]? = some s[k] := by
  have hl : k < (oct s).length := by rw [oct_len]; exact h
  rw [List.getElem?_eq_getElem hl]
  congr 1
theorem oct_take (s : ByteArray) (k : Nat) (h : k < s.size) : (oct s).take (k + 1) = (oct s).take k ++ [s[k]] := by
  rw [List.take_add_one, oct_at s k h]
  rfl
theorem oct_drop (s : ByteArray) (k : Nat) (h : k < s.size) : (oct s).drop k = s[k] :: (oct s).drop (k + 1) := by
  have hl : k < (oct s).length := by rw [oct_len]; exact h
  rw [List.drop_eq_getElem_cons hl]
  congr 1
theorem oct_extract (s : ByteArray) (a b : Nat) : oct (s.extract a b) = ((oct s).take b).drop a := by
  unfold oct
  rw [ByteArray.data_extract, Array.toList_extract, List.extract_eq_take_drop]
  rw [List.drop_take]
theorem extract_txt (s : ByteArray) (a b : Nat) : s.extract a b = txt (((oct s).take b).drop a) := by rw [← oct_extract, txt_oct]
theorem eq_txt (x y : ByteArray) : (x.toList == y.toList) = decide (x = y) := by
  rw [ByteArray.toList_eq, ByteArray.toList_eq, Bool.eq_iff_iff, beq_iff_eq, decide_eq_true_iff]
  refine ⟨fun h => ByteArray.ext (Array.ext' h), fun h => by rw [h]⟩

/-! ### the library's powers of ten -/
/-- The library's powers of ten lie as they are laid. -/
structure Laid (w : World) : Prop where
  tens : Lib.TabIs Tryd.prog w "internal/strconv.uint64pow10" .u64 Lib.pow10Tab
theorem glob0 : Tryd.prog.globalNamed "internal/strconv.uint64pow10" = some 0 := by kernel_rfl
theorem var_below {B g : Nat} {w w' : World} {n : String} {cs : Array Value} (hg : Tryd.prog.globalNamed n = some g) (hb : Below B w w') (hB : g < B) (h : w.var? Tryd.prog n = some cs) : w'.var? Tryd.prog n = some cs := by
  unfold World.var? at *
  rw [hg] at *
  simp only [Option.bind_some] at *
  rw [hb.block g hB]
  exact h
theorem Laid.big {w : World} (h : Laid w) : 1 ≤ w.heap.size := by
  have ht := h.tens
  unfold Lib.TabIs World.var? at ht
  rw [glob0] at ht
  simp only [Option.bind_some] at ht
  rcases Nat.lt_or_ge 0 w.heap.size with h' | h'
  · omega
  · simp [Array.getElem?_eq_none h'] at ht
theorem Laid.below {B : Nat} {w w' : World} (h : Laid w) (hb : Below B w w') (hB : 1 ≤ B) : Laid w' := ⟨var_below glob0 hb (by omega) h.tens⟩
theorem Laid.on {w w' : World} (h : Laid w) (hb : Below w.heap.size w w') : Laid w' := h.below hb h.big
def lst : List (String × DataW Unit) := [("math/bits.deBruijn32tab", Rows.laid_math_bits_deBruijn32tab), ("math/bits.deBruijn64tab", Rows.laid_math_bits_deBruijn64tab), ("internal/strconv.uint64pow10", Rows.laid_internal_strconv_uint64pow10)]
theorem laid_in {W : World} (h : laidMetH Tryd.prog lst W) : Laid W := by
  rw [MakeChecks.laidMetH_plain _ _ _ (by kernel_rfl)] at h
  have h2 : laidMet Tryd.prog (("internal/strconv.uint64pow10", Lib.tabData .u64 Lib.pow10Tab) :: []) W := laidMet.tail (laidMet.tail h)
  exact ⟨Lib.tabIs_of_head (g := 0) (t := 76) (e := 61) (n := 20) (by kernel_rfl) (by kernel_rfl) Tryd.underlying76 Tryd.underlying61 (by kernel_rfl) (by kernel_rfl) h2⟩

/-- A block is known whole, and may be written. -/
def Blk (w : World) (g : Nat) (t : TypeId) (cs : Array Value) : Prop := w.heap[g]? = some (.cells cs t (0, 0))
section
variable {w w' : World} {g B : Nat} {t : TypeId} {cs : Array Value}
theorem Blk.lt (h : Blk w g t cs) : g < w.heap.size := (Array.getElem?_eq_some_iff.1 h).1
theorem Blk.cell (h : Blk w g t cs) (i : Nat) : w.cell? ⟨g, i, none⟩ = cs[i]? := cell_of_row w g i cs t (0, 0) h
theorem Blk.free (h : Blk w g t cs) (i : Nat) : w.frozen? ⟨g, i, none⟩ = false := by
  unfold Blk at h
  simp [World.frozen?, h]
theorem Blk.below (h : Blk w g t cs) (hb : Below B w w') (hg : g < B) : Blk w' g t cs := (hb.block g hg).trans h
theorem Blk.on (h : Blk w g t cs) (hb : Below w.heap.size w w') : Blk w' g t cs := (hb.block g h.lt).trans h
theorem Blk.ne {g' : Nat} {t' : TypeId} {cs' : Array Value} (h : Blk w g t cs) (h' : Blk w g' t' cs') (ht : t ≠ t') : g ≠ g' := fun e => by
  subst e
  unfold Blk at h h'
  rw [h] at h'
  injection h' with h'
  injection h' with _ h' _
  exact ht h'
end

/-- What turns is in S, or new. -/
structure Kept (S : Nat → Prop) (w w' : World) : Prop where
  os : w'.os = w.os
  tape : w'.tape = w.tape
  output : w'.output = w.output
  size : w.heap.size ≤ w'.heap.size
  block : ∀ k, k < w.heap.size → ¬ S k → w'.heap[k]? = w.heap[k]?
section
variable {S S' : Nat → Prop} {w w1 w2 : World}
theorem Kept.refl (S : Nat → Prop) (w : World) : Kept S w w := ⟨rfl, rfl, rfl, Nat.le_refl _, fun _ _ _ => rfl⟩
theorem Kept.next (h : Kept S w w1) (k : Kept S' w1 w2) (hS : ∀ g, S' g → S g ∨ w.heap.size ≤ g) : Kept S w w2 :=
  ⟨k.os.trans h.os, k.tape.trans h.tape, k.output.trans h.output, Nat.le_trans h.size k.size, fun i hi hn =>
    (k.block i (Nat.lt_of_lt_of_le hi h.size) (fun e => (hS i e).elim hn (fun _ => by omega))).trans (h.block i hi hn)⟩
theorem Kept.more (h : Kept S w w1) (hS : ∀ g, S g → S' g) : Kept S' w w1 := ⟨h.os, h.tape, h.output, h.size, fun k hk hn => h.block k hk fun e => hn (hS k e)⟩
theorem kept_below (S : Nat → Prop) (h : Below w.heap.size w w1) : Kept S w w1 := ⟨h.os, h.tape, h.output, h.size, fun k hk _ => h.block k hk⟩
theorem kept_grown {row : Option Nat} (h : w.grownBy w1 row) : Kept (fun k => row = some k) w w1 := ⟨h.os, h.tape, h.output, h.size, fun k hk hn => h.block k hk fun e => hn e.symm⟩
theorem Kept.grown (h : Kept S w w1) (row : Option Nat) (hS : ∀ k, S k → some k = row) : w.grownBy w1 row := ⟨h.os, h.tape, h.output, h.size, fun k hk hn => h.block k hk fun e => hn (hS k e)⟩
theorem Kept.under (h : Kept S w w1) (B : Nat) (hB : B ≤ w.heap.size) (hS : ∀ k, S k → B ≤ k) : Below B w w1 := ⟨h.os, h.tape, h.output, h.size, fun k hk => h.block k (by omega) fun e => by have := hS k e; omega⟩
theorem kept_cell (w : World) (a : Addr) (u : Value) : Kept (fun k => k = a.block) w (w.setCell a u) :=
  ⟨rfl, rfl, rfl, by simp [World.setCell], fun k _ hn => Below.heap_setCell _ _ _ _ hn⟩
theorem kept_row (w : World) (g : Nat) (cs : Array Value) : Kept (fun k => k = g) w (w.setRow g cs) :=
  ⟨rfl, rfl, rfl, by simp [World.setRow], fun k _ hn => setRow_other _ _ _ _ hn⟩
theorem kept_cells (g : Nat) : ∀ (vs : List Value) (o : Nat) (w : World), Kept (fun k => k = g) w (w.setCells g o vs)
  | [], _, w => Kept.refl _ w
  | v :: r, o, w => by
    rw [World.setCells]
    exact (kept_cell w ⟨g, o, none⟩ v).next (kept_cells g r (o + 1) _) (fun g h => .inl h)
theorem Blk.kept {g : Nat} {t : TypeId} {cs : Array Value} (h : Blk w g t cs) (k : Kept S w w1) (hg : ¬ S g) : Blk w1 g t cs := (k.block g h.lt hg).trans h
end

/-! ### places, programs -/
/-- A place: its kind and its two numbers. -/
structure Pl where
  k : Int
  i : Int
  j : Int
deriving DecidableEq
def Pl.cs (x : Pl) : List Value := [.int .i64 x.k, .int .i64 x.i, .int .i64 x.j]
def noP : Pl := ⟨0, 0, 0⟩
instance : Inhabited Pl := ⟨noP⟩
/-- A program: roots, cells, slots, and where its threads' list lies. -/
structure Pg where
  r : Int
  c : Int
  s : Int
  A : Option Addr
  n : Nat
  cap : Nat
def Pg.cs (p : Pg) : List Value := [.int .i64 p.r, .int .i64 p.c, .int .i64 p.s, .slice p.A p.n p.cap]
structure Pg.Ok (p : Pg) : Prop where
  room : p.n ≤ p.cap
  most : p.cap ≤ maxLen
def flatP (l : List Pl) : List Value := l.flatMap Pl.cs
theorem Pl.len (c : Pl) : c.cs.length = 3 := rfl
theorem Pl.one (c : Pl) : ∀ v ∈ c.cs, v.oneCell' = true := by
  intro v hv
  simp only [Pl.cs, List.mem_cons, List.not_mem_nil, or_false] at hv
  rcases hv with rfl | rfl | rfl <;> rfl
theorem Pl.onea (c : Pl) : c.cs.toArray.all (·.oneCell') = true := by simp [Pl.cs, Value.oneCell']

section
variable {α : Type} {f : α → List Value} {k : Nat}
theorem flat_len (hf : ∀ x, (f x).length = k) : ∀ l : List α, (l.flatMap f).length = l.length * k
  | [] => by simp
  | x :: r => by
    rw [List.flatMap_cons, List.length_append, hf, flat_len hf r, List.length_cons, Nat.add_mul]
    omega
theorem flat_get (hf : ∀ x, (f x).length = k) : ∀ (l : List α) (i : Nat) (x : α), l[i]? = some x → ∀ j, j < k → (l.flatMap f)[i * k + j]? = (f x)[j]?
  | [], i, x, h, _, _ => by simp at h
  | y :: r, 0, x, h, j, hj => by
    simp at h
    subst h
    rw [List.flatMap_cons, Nat.zero_mul, Nat.zero_add, List.getElem?_append_left (by rw [hf]; exact hj)]
  | y :: r, i + 1, x, h, j, hj => by
    rw [List.flatMap_cons, List.getElem?_append_right (by rw [hf, Nat.add_mul]; omega), hf, show (i + 1) * k + j - k = i * k + j by rw [Nat.add_mul]; omega]
    exact flat_get hf r i x (by simpa using h) j hj
theorem flat_set (hf : ∀ x, (f x).length = k) (l : List α) (i : Nat) (x : α) (j : Nat) (hi : i < l.length) : ((l.set i x).flatMap f)[j]? = if i * k ≤ j ∧ j < i * k + k then (f x)[j - i * k]? else (l.flatMap f)[j]? := by
  by_cases hk : k = 0
  · subst hk
    have h0 : ∀ l' : List α, l'.flatMap f = [] := fun l' => List.eq_nil_of_length_eq_zero (by rw [flat_len hf]; omega)
    rw [if_neg (by omega), h0, h0]
  have hkp : 0 < k := Nat.pos_of_ne_zero hk
  by_cases hj : j < l.length * k
  · have ej : j = j / k * k + j % k := by rw [Nat.mul_comm]; exact (Nat.div_add_mod j k).symm
    have hm : j % k < k := Nat.mod_lt _ hkp
    have hd : j / k < l.length := Nat.div_lt_of_lt_mul (by rw [Nat.mul_comm]; exact hj)
    by_cases e : j / k = i
    · have h1 : i * k ≤ j ∧ j < i * k + k := by rw [← e]; omega
      rw [if_pos h1]
      have := flat_get hf (l.set i x) i x (by simp [hi]) (j % k) hm
      rw [show j - i * k = j % k by rw [← e]; omega, ← this, ← e, ← ej]
    · have h1 : ¬ (i * k ≤ j ∧ j < i * k + k) := fun h => e (by
        apply Nat.div_eq_of_lt_le
        · exact h.1
        · rw [Nat.add_mul]; omega)
      rw [if_neg h1]
      have hx : l[j / k]? = some l[j / k] := List.getElem?_eq_getElem hd
      have a := flat_get hf l (j / k) _ hx (j % k) hm
      have b := flat_get hf (l.set i x) (j / k) l[j / k] (by rw [List.getElem?_set_ne (fun h => e h.symm)]; exact hx) (j % k) hm
      rw [← ej] at a b
      rw [a, b]
  · have h1 : ¬ (i * k ≤ j ∧ j < i * k + k) := fun h => hj (Nat.lt_of_lt_of_le h.2 (by rw [← Nat.succ_mul]; exact Nat.mul_le_mul_right _ hi))
    rw [if_neg h1, List.getElem?_eq_none (by rw [flat_len hf, List.length_set]; omega), List.getElem?_eq_none (by rw [flat_len hf]; omega)]
theorem flat_one (h1 : ∀ x, ∀ v ∈ f x, v.oneCell' = true) (l : List α) : ∀ v ∈ l.flatMap f, v.oneCell' = true := by
  intro v hv
  obtain ⟨x, _, hx⟩ := List.mem_flatMap.1 hv
  exact h1 x v hx
end
theorem info3 : (Tryd.prog.info? 3).map (fun i => (i.zero, i.size, i.bytes)) = some (some (.int .i64 0), 1, 8) := by kernel_rfl
theorem info9 : (Tryd.prog.info? 9).map (fun i => (i.zero, i.size, i.bytes)) = some (some (.string ⟨#[]⟩), 1, 16) := by kernel_rfl
theorem info23 : (Tryd.prog.info? 23).map (fun i => (i.zero, i.size, i.bytes)) = some (some (.agg noP.cs.toArray), 3, 24) := by kernel_rfl
theorem size23 : (Tryd.prog.info? 23).map (·.size) = some 3 := by kernel_rfl
theorem size26 : (Tryd.prog.info? 26).map (·.size) = some 4 := by kernel_rfl
theorem size41 : (Tryd.prog.info? 41).map (·.size) = some 3 := by kernel_rfl
theorem load23 (c : Pl) : (Tryd.prog.info? 23).map (·.size) = some c.cs.length := size23
theorem load26 (c : Pg) : (Tryd.prog.info? 26).map (·.size) = some c.cs.length := size26

/-! ### lists of the program's: from the head of a block -/
section
variable {w w' : World} {A : Option Addr} {n cap k : Nat} {t : TypeId} {vs : List Value}
/-- In which block a list lies. -/
def lies (A : Option Addr) (g : Nat) : Prop := A.map (·.block) = some g
theorem own_lies (A : Option Addr) (n cap g : Nat) : (Value.slice A n cap).ownBlock = some g ↔ lies A g := by cases A <;> rfl
theorem own_kept {S : Nat → Prop} (h : w.ownsRow 0 t k (.slice A n cap) n vs) (hk : Kept S w w') (hS : ∀ g, lies A g → ¬ S g) : w'.ownsRow 0 t k (.slice A n cap) n vs := by
  refine ⟨h.1, ?_⟩
  rcases h.2 with hn | ⟨g, c, cur, e, hb, hg, rest⟩
  · exact .inl hn
  · refine .inr ⟨g, c, cur, e, hb, ?_, rest⟩
    injection e with e
    subst e
    exact (hk.block g (Array.getElem?_eq_some_iff.1 hg).1 (hS g rfl)).trans hg
theorem own_below (h : w.ownsRow 0 t k (.slice A n cap) n vs) (hb : Below w.heap.size w w') : w'.ownsRow 0 t k (.slice A n cap) n vs := own_kept h (kept_below (fun _ => False) hb) (fun _ _ h => h)
/-- The block is one of that type. -/
theorem own_blk (h : w.ownsRow 0 t k (.slice A n cap) n vs) {g : Nat} (hg : lies A g) : ∃ cs, Blk w g t cs := by
  rcases h.2 with ⟨e, _⟩ | ⟨g', c, cur, e, hb, hh, rest⟩
  · injection e with e
    subst e
    cases hg
  · injection e with e
    subst e
    injection hg with hg
    subst hg
    exact ⟨cur, hh⟩
theorem own_off (h : w.ownsRow 0 t k (.slice A n cap) n vs) {g : Nat} {t' : TypeId} {cs : Array Value} (hb : Blk w g t' cs) (ht : t ≠ t') : ¬ lies A g := fun hg => by
  obtain ⟨cs', h'⟩ := own_blk h hg
  exact h'.ne hb ht rfl
theorem own_cap (h : w.ownsRow 0 t k (.slice A n cap) n vs) : n ≤ cap ∧ cap ≤ maxLen ∧ (A = none → cap = 0) := by
  rcases h.2 with ⟨e, h0⟩ | ⟨g, c, cur, e, hb, hh, h1, h2, _⟩
  · injection e with e1 e2 e3
    subst e1 e3
    exact ⟨by omega, Nat.zero_le _, fun _ => rfl⟩
  · injection e with e1 e2 e3
    subst e1 e3
    exact ⟨h1, h2, fun h => (by cases h)⟩
/-- Its elements. -/
theorem own_at {α : Type} {f : α → List Value} (hf : ∀ x, (f x).length = k) {l : List α} (h : w.ownsRow 0 t k (.slice A n cap) n (l.flatMap f)) {i : Nat} {x : α} (hx : l[i]? = some x) (hk : 0 < k) :
    ∃ g, A = some ⟨g, 0, none⟩ ∧ (∃ cs, Blk w g t cs) ∧ w.rangeAt g (i * k) (f x) ∧ w.there g (i * k) k := by
  have hi := (List.getElem?_eq_some_iff.1 hx).1
  have hl : l.length = n := by
    have := h.1
    rw [flat_len hf] at this
    exact Nat.eq_of_mul_eq_mul_right hk this
  rcases id h.2 with ⟨e, h0⟩ | ⟨g, c, cur, e, hb, hh, h1, h2, h3, h4⟩
  · omega
  · injection e with e1 e2 e3
    subst e1 e3
    have hin : ∀ j, j < k → i * k + j < n * k := fun j hj => by
      have : (i + 1) * k ≤ n * k := Nat.mul_le_mul_right _ (by omega)
      rw [Nat.add_mul] at this
      omega
    have hr : w.rangeAt g (i * k) (f x) := fun j v hv => by
      have hj : j < k := by
        have := (List.getElem?_eq_some_iff.1 hv).1
        rw [hf] at this
        exact this
      rw [h.cellAt _ (hin j hj), flat_get hf l i x hx j hj, hv]
    refine ⟨g, rfl, ⟨cur, hh⟩, hr, fun j hj => ⟨?_, h.frozenAt _⟩⟩
    rw [hr j _ (List.getElem?_eq_getElem (by rw [hf]; exact hj))]
    rfl
end

section
variable {w w' : World} {B n cap k : Nat} {t : TypeId} {v : Value} {vs : List Value} {A : Option Addr}
theorem own_form (h : w.ownsRow B t k v n vs) : ∃ A cap, v = .slice A n cap := by
  rcases h.2 with ⟨rfl, rfl⟩ | ⟨g, c, cur, rfl, _⟩
  · exact ⟨none, 0, rfl⟩
  · exact ⟨_, c, rfl⟩
theorem own_low (h : w.ownsRow B t k v n vs) : w.ownsRow 0 t k v n vs := by
  refine ⟨h.1, ?_⟩
  rcases h.2 with h0 | ⟨g, c, cur, e, hb, rest⟩
  · exact .inl h0
  · exact .inr ⟨g, c, cur, e, Nat.zero_le _, rest⟩
theorem own_new (h : w.ownsRow B t k (.slice A n cap) n vs) : ∀ g, lies A g → B ≤ g := fun g hg => (h.lt g ((own_lies A n cap g).2 hg)).1
end

section
variable {w w' : World}
theorem blk_set {g : Nat} {t : TypeId} {cs : Array Value} (h : Blk w g t cs) (i : Nat) (v : Value) : Blk (w.setCell ⟨g, i, none⟩ v) g t (cs.setIfInBounds i v) := heap_setCell_same w g i cs t v h
theorem blk_far {g g' : Nat} {t : TypeId} {cs : Array Value} (h : Blk w g t cs) (hg : g ≠ g') (i : Nat) (v : Value) : Blk (w.setCell ⟨g', i, none⟩ v) g t cs := (Below.heap_setCell _ _ _ _ hg).trans h
theorem blk_new (w : World) (cs : Array Value) (t : TypeId) (n : Nat) (hn : w.heap.size = n) : Blk (w.alloc (.cells cs t)) n t cs := by
  subst hn
  exact heap_alloc_new w _
theorem blk_grown {g : Nat} {t : TypeId} {cs : Array Value} {row : Option Nat} (h : Blk w g t cs) (hg : w.grownBy w' row) (hr : some g ≠ row) : Blk w' g t cs := (hg.block g h.lt hr).trans h
end
section
variable {w : World}
theorem there_blk {g : Nat} {t : TypeId} {cs : Array Value} (h : Blk w g t cs) (o n : Nat) (hn : o + n ≤ cs.size) : w.there g o n := fun j hj =>
  ⟨by rw [h.cell, Array.getElem?_eq_getElem (by omega)]; rfl, h.free _⟩
theorem range_blk {g : Nat} {t : TypeId} {cs : List Value} (h : Blk w g t cs.toArray) : w.rangeAt g 0 cs := fun j v hv => by
  rw [Nat.zero_add, h.cell]
  simpa using hv
end
end Go.Proofs.YtabnfiligbpocaaDoor
