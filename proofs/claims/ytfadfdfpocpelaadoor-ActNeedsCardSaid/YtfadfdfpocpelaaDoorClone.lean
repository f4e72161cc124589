/- A list of one's own that reads as another one; a thread whose lists are its own. Conditions: at most a thousand elements. -/
import Derived.Test.YtfadfdfpocpelaaDoorThr
import Derived.OwnWalk
import Derived.WalkSpells
import Derived.Lib.SliceRun
namespace Go.Proofs.YtfadfdfpocpelaaDoor
open Go.RowKit Go.ChangeShapes Go.WideShapes

theorem int1_one (x : Int) : ∀ v ∈ int1 x, v.oneCell' = true := by
  intro v hv
  simp only [int1, List.mem_cons, List.not_mem_nil, or_false] at hv
  subst hv
  rfl
/-- The same thread, with other lists. -/
def Th.put (x : Th) (se bg sn : Sl) : Th := { x with se := se, bg := bg, sn := sn }
/-- Its three lists are new, and read as such. -/
structure Own (B : Nat) (w : World) (x : Th) (z : List Int) (l : List Bg) (s : List Int) : Prop where
  se : w.ownsRow B 2 1 (.slice x.se.A x.se.n x.se.cap) x.se.n (ints z)
  bg : w.ownsRow B 98 3 (.slice x.bg.A x.bg.n x.bg.cap) x.bg.n (flatB l)
  sn : w.ownsRow B 2 1 (.slice x.sn.A x.sn.n x.sn.cap) x.sn.n (ints s)
section
variable {B : Nat} {w w' : World} {x : Th} {z s : List Int} {l : List Bg}
theorem own_seesI {A : Option Addr} {n cap : Nat} {l : List Int} (h : w.ownsRow B 2 1 (.slice A n cap) n (ints l)) : SeesI w A n cap l := own_sees h
theorem Own.reads (h : Own B w x z l s) : Reads w x z l s := ⟨own_seesI h.se, own_seesB h.bg, own_seesI h.sn⟩
theorem Own.on (h : Own B w x z l s) (hb : Below w.heap.size w w') : Own B w' x z l s := ⟨ownB_below h.se hb, ownB_below h.bg hb, ownB_below h.sn hb⟩
theorem Own.mono {B' : Nat} (h : Own B w x z l s) (hB : B' ≤ B) : Own B' w x z l s := ⟨own_mono h.se hB, own_mono h.bg hB, own_mono h.sn hB⟩
end
section
variable {ops : Array Oper} {rest : List Oper} {o : Oper} {a : Act} {w : World} {Q : Exit → Act → World → Prop}
/-- The next operation is that load, that store: so that a law for it is tried there alone. -/
theorem at_load (ty : TypeId) (x : Operand) {d : Option Tmp} {t : TypeId} {p : String} {af : Array Edge} {g : Option (Nat × Bool)} (h : wpList Tryd.prog ops Q (⟨d, .load ty x, t, p, af, g⟩ :: rest) a w) : wpList Tryd.prog ops Q (⟨d, .load ty x, t, p, af, g⟩ :: rest) a w := h
theorem at_store (ty : TypeId) (x y : Operand) {d : Option Tmp} {t : TypeId} {p : String} {af : Array Edge} {g : Option (Nat × Bool)} (h : wpList Tryd.prog ops Q (⟨d, .store ty x y, t, p, af, g⟩ :: rest) a w) : wpList Tryd.prog ops Q (⟨d, .store ty x y, t, p, af, g⟩ :: rest) a w := h
theorem wpList_wanted (hw : Region.wanted o (yielded ops a.tmps) = true) (h : ∀ K : Act → World → Prop, (∀ a w, wpList Tryd.prog ops Q rest a w → K a w) → o.wp Tryd.prog a w K Q) : wpList Tryd.prog ops Q (o :: rest) a w :=
  wpList_step fun K hK => by simp only [hw, if_true]; exact h K hK
/-- A part of a row loaded by an operation that is guarded, and wanted. -/
theorem wpList_mid (hw : Region.wanted o (yielded ops a.tmps) = true) (ty : TypeId) (x : Operand) (ho : o.op = .load ty x)
    (b f : Nat) (hx : a.eval x = .pointer (some ⟨b, f, none⟩)) (cs : List Value) (d : TypeDesc) (hc : w.rangeAt b f cs)
    (hu : Tryd.prog.underlying ty = some d) (hd : d.isRow = true) (hi : (Tryd.prog.info? ty).map (·.size) = some cs.length)
    (h : wpList Tryd.prog ops Q rest (a.put o.dst (.agg cs.toArray)) w) : wpList Tryd.prog ops Q (o :: rest) a w :=
  wpList_wanted hw fun _ hK => wp_load_mid ty x ho b f hx cs d hc hu hd hi (hK _ _ h)
end
theorem put_se (x : Th) (v : Sl) : x.cs.toArray.setIfInBounds 18 v.v = (x.put v x.bg x.sn).cs.toArray := rfl
/-- A cell of a block set, by name. -/
theorem set_named {w W : World} {g : Nat} {t : TypeId} {cs cs' : Array Value} {i : Nat} {v : Value} (h : Blk w g t cs) (e : w.setCell ⟨g, i, none⟩ v = W) (hc : cs.setIfInBounds i v = cs') : Blk W g t cs' := by
  subst e hc
  exact blk_set h i v
theorem set_far {w W : World} {g g' : Nat} {t : TypeId} {cs : Array Value} {i : Nat} {v : Value} (h : Blk w g' t cs) (e : w.setCell ⟨g, i, none⟩ v = W) (hne : g' ≠ g) : Blk W g' t cs := by
  subst e
  exact blk_far h hne i v
theorem set_below {w W : World} {g i B : Nat} {v : Value} (e : w.setCell ⟨g, i, none⟩ v = W) (hB : B ≤ g) (hs : B ≤ w.heap.size) : Below B w W := by
  subst e
  exact (kept_cell w ⟨g, i, none⟩ v).under B hs (fun k hk => by rw [hk]; exact hB)
theorem own_blocks {w : World} {B k n cap g : Nat} {t t' : TypeId} {A : Option Addr} {vs : List Value} {cs : Array Value} (h : w.ownsRow B t k (.slice A n cap) n vs) (hb : Blk w g t' cs) (ht : t ≠ t') : (Value.slice A n cap).ownBlock = none ∨ (Value.slice A n cap).ownBlock ≠ some g := by
  cases hw : (Value.slice A n cap).ownBlock with
  | none => exact .inl rfl
  | some g' => exact .inr (fun e => own_off (own_low h) hb ht ((own_lies A n cap g).1 (hw.trans e)))
theorem set_own {w W : World} {g i B k n : Nat} {v : Value} {t t' : TypeId} {A : Option Addr} {cap : Nat} {vs : List Value} {cs : Array Value} (h : w.ownsRow B t k (.slice A n cap) n vs) (hb : Blk w g t' cs) (ht : t ≠ t') (e : w.setCell ⟨g, i, none⟩ v = W) : W.ownsRow B t k (.slice A n cap) n vs := by
  subst e
  exact h.kept (row := some g) ((kept_cell w ⟨g, i, none⟩ v).grown (some g) (fun k hk => by rw [hk])) (own_blocks h hb ht)
theorem row_named {w W : World} {g : Nat} {t : TypeId} {cs cs' : Array Value} (h : Blk w g t cs) (e : w.setRow g cs' = W) : Blk W g t cs' := by
  subst e
  exact setRow_heap _ _ _ _ _ _ h
theorem row_far {w W : World} {g g' : Nat} {t : TypeId} {cs cs' : Array Value} (h : Blk w g' t cs) (e : w.setRow g cs' = W) (hne : g' ≠ g) : Blk W g' t cs := by
  subst e
  exact (setRow_other _ _ _ _ hne).trans h
theorem row_below {w W : World} {g B : Nat} {cs : Array Value} (e : w.setRow g cs = W) (hB : B ≤ g) (hs : B ≤ w.heap.size) : Below B w W := by
  subst e
  exact (kept_row w g cs).under B hs (fun k hk => by rw [hk]; exact hB)
theorem row_own {w W : World} {g B k n : Nat} {t t' : TypeId} {A : Option Addr} {cap : Nat} {vs : List Value} {cs cs' : Array Value} (h : w.ownsRow B t k (.slice A n cap) n vs) (hb : Blk w g t' cs) (ht : t ≠ t') (e : w.setRow g cs' = W) : W.ownsRow B t k (.slice A n cap) n vs := by
  subst e
  exact h.kept (row := some g) ((kept_row w g cs').grown (some g) (fun k hk => by rw [hk])) (own_blocks h hb ht)
theorem range_part {w : World} {g : Nat} {t : TypeId} {cs : List Value} (h : Blk w g t cs.toArray) (o : Nat) (mid : List Value) (hm : (cs.drop o).take mid.length = mid) : w.rangeAt g o mid := fun j v hv => by
  have := range_blk h (o + j) v (by
    have hj := (List.getElem?_eq_some_iff.1 hv).1
    rw [← hm, List.getElem?_take_of_lt hj, List.getElem?_drop] at hv
    exact hv)
  rwa [Nat.zero_add] at this
end Go.Proofs.YtfadfdfpocpelaaDoor
