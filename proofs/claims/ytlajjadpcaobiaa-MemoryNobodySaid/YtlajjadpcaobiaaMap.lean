/- A map of places to words, as a function of places: it is asked, it is written, it is gone through. Conditions: places of 64 bits. -/
import Derived.Test.YtlajjadpcaobiaaBase
import Derived.Maps.Ext
import Derived.Maps.OwnIn
import Derived.Maps.RangeWalk
import Derived.Maps.OwnSet
import Derived.DeepKeys4
namespace Go.Proofs.Ytlajjadpcaobiaa
open Go.RowKit Go.ChangeShapes Go.WideShapes Go.Maps

/-! ### places as keys -/
def I64 (x : Int) : Prop := -9223372036854775808 ≤ x ∧ x ≤ 9223372036854775807
structure Pl.Wide (x : Pl) : Prop where
  k : I64 x.k
  i : I64 x.i
  j : I64 x.j
theorem wf_i64 (x : Int) (h : I64 x) : (Lit.int .i64 x).wf = true := by
  unfold I64 at h
  exact WalkArith.wf_i64 (by omega)
theorem of_wf (x : Int) (h : (Lit.int .i64 x).wf = true) : I64 x := by
  unfold I64
  have h' : decide (IntKind.i64.min ≤ x) = true ∧ decide (x ≤ IntKind.i64.max) = true := by simpa [Lit.wf] using h
  have e1 : IntKind.i64.min = -9223372036854775808 := by decide
  have e2 : IntKind.i64.max = 9223372036854775807 := by decide
  rw [e1, e2] at h'
  simpa using h'
theorem rowK : (27 : TypeId) < Try.prog.types.size := of_decide_eq_true (by kernel_rfl)
theorem laidOut : laidOutB Try.prog = true := by kernel_rfl
theorem wideK : (match Try.prog.underlying 27 with | some (.array _ _) | some (.struct _) => true | _ => false) = true := by rw [Try.underlying27]
theorem deepK : Try.prog.keyTypeAt 2 27 = true := by kernel_rfl
theorem gateK : Try.prog.keyType 27 = true := by kernel_rfl
theorem many : Try.prog.types.size = 107 := by kernel_rfl
theorem cells27 : Try.prog.cellsOf 27 = 3 := by kernel_rfl
theorem cells3 : Try.prog.cellsOf 3 = 1 := by kernel_rfl
theorem lawK : Keyed Try.prog 27 := Keyed.of_law (deep_law_laid laidOut (m := 2) (by omega) rowK deepK wideK)
theorem formed27 (x : Pl) : (Value.agg x.cs.toArray).formed Try.prog 27 = true := by simp [Value.formed, Try.underlying27, cells27, Pl.cs]
theorem lits3 (a : Int) (h : I64 a) (d : Nat) : Try.prog.keyLits (d + 1) 3 [.int .i64 a] = some [.int .i64 a] := by
  have := wf_i64 a h
  simp [Program.keyLits, Try.underlying3, this]
theorem lits27 (x : Pl) (h : x.Wide) (d : Nat) : Try.prog.keyLits (d + 1 + 1) 27 x.cs = some [.int .i64 x.k, .int .i64 x.i, .int .i64 x.j] := by
  rw [Program.keyLits.eq_def]
  simp only [Try.underlying27]
  rw [if_pos ⟨by rw [cells27]; rfl, by kernel_rfl⟩]
  simp only [List.mapM_cons, List.mapM_nil, cells3, Pl.cs, List.drop_zero, List.drop_succ_cons, List.take_succ_cons, List.take_zero]
  rw [lits3 x.k h.k, lits3 x.i h.i, lits3 x.j h.j]
  rfl
/-- What a place reads as. -/
def keyL (x : Pl) : Lit := .string (keyBytes [.int .i64 x.k, .int .i64 x.i, .int .i64 x.j])
theorem key_of (x : Pl) (h : x.Wide) : keyOf Try.prog 27 (.agg x.cs.toArray) = some (keyL x) := by
  unfold keyOf
  rw [Try.underlying27]
  simp only [gateK, formed27, Bool.and_self, if_true, many]
  show (Try.prog.keyLits (106 + 1 + 1) 27 x.cs).map _ = _
  rw [lits27 x h]
  rfl
theorem key_is (x : Pl) (h : x.Wide) : WideAt.IsKeyLit (keyL x) := lawK.key (key_of x h)
theorem key_inj {x y : Pl} (hx : x.Wide) (hy : y.Wide) (e : keyL x = keyL y) : x = y := by
  have h1 := key_of x hx
  rw [e] at h1
  have := lawK.inj h1 (key_of y hy)
  obtain ⟨a, b, c⟩ := x
  obtain ⟨a', b', c'⟩ := y
  simp only [Pl.cs] at this
  injection this with this
  simp at this
  obtain ⟨rfl, rfl, rfl⟩ := this
  rfl
theorem lits3_inv {cs : List Value} {L : List Lit} {d : Nat} (h : Try.prog.keyLits (d + 1) 3 cs = some L) : ∃ a, cs = [.int .i64 a] ∧ I64 a := by
  rw [Program.keyLits.eq_def] at h
  simp only [Try.underlying3] at h
  split at h <;> simp_all
  obtain ⟨⟨e, hw⟩, _⟩ := h
  have hq := ‹IntKind.i64 = _›
  cases hq
  exact of_wf _ hw
theorem lits27_inv {cs : List Value} {L : List Lit} {d : Nat} (h : Try.prog.keyLits (d + 1 + 1) 27 cs = some L) : ∃ x : Pl, x.Wide ∧ cs = x.cs := by
  rw [Program.keyLits.eq_def] at h
  simp only [Try.underlying27] at h
  split at h
  · rename_i hh
    obtain ⟨hl, _⟩ := hh
    rw [cells27] at hl
    match cs, hl with
    | [a, b, c], _ =>
      simp only [List.mapM_cons, List.mapM_nil, cells3, List.drop_zero, List.drop_succ_cons, List.take_succ_cons, List.take_zero, Option.map_eq_some_iff] at h
      obtain ⟨LL, h, _⟩ := h
      cases h1 : Try.prog.keyLits (d + 1) 3 [a] with
      | none => simp [h1] at h
      | some x1 =>
        cases h2 : Try.prog.keyLits (d + 1) 3 [b] with
        | none => simp [h1, h2] at h
        | some x2 =>
          cases h3 : Try.prog.keyLits (d + 1) 3 [c] with
          | none => simp [h1, h2, h3] at h
          | some x3 =>
            obtain ⟨a, e1, w1⟩ := lits3_inv h1
            obtain ⟨b, e2, w2⟩ := lits3_inv h2
            obtain ⟨c, e3, w3⟩ := lits3_inv h3
            cases e1
            cases e2
            cases e3
            exact ⟨⟨a, b, c⟩, ⟨w1, w2, w3⟩, rfl⟩
  · cases h
theorem key_inv {v : Value} {l : Lit} (h : keyOf Try.prog 27 v = some l) : ∃ x : Pl, x.Wide ∧ v = .agg x.cs.toArray ∧ l = keyL x := by
  obtain ⟨xs, L, rfl, h1, _⟩ := keyOf_top wideK h
  rw [many] at h1
  have h1 : Try.prog.keyLits (106 + 1 + 1) 27 xs.toList = some L := h1
  obtain ⟨x, hx, e⟩ := lits27_inv h1
  have ea : xs = x.cs.toArray := by rw [← e]
  subst ea
  refine ⟨x, hx, rfl, ?_⟩
  have := key_of x hx
  rw [h] at this
  exact Option.some.inj this

/-! ### words as elements -/
def wd (v : Wd) : DataW Unit := .agg [.lit (.int .i64 v.n), .lit (.int .i64 v.c), .lit (.int .i64 v.g)]
def readW (v : Value) : Option (DataW Unit × List MemPlace) :=
  match v with
  | .agg cs => match cs.toList with
    | [.int .i64 a, .int .i64 b, .int .i64 c] => some (wd ⟨a, b, c⟩, [])
    | _ => none
  | _ => none
theorem readW_mk (v : Wd) : readW (.agg v.cs.toArray) = some (wd v, []) := rfl
theorem wd_inj {u v : Wd} (h : wd u = wd v) : u = v := by
  obtain ⟨a, b, c⟩ := u
  obtain ⟨a', b', c'⟩ := v
  simpa [wd] using h
theorem readW_inv {v : Value} {y : DataW Unit × List MemPlace} (h : readW v = some y) : ∃ u : Wd, v = .agg u.cs.toArray ∧ y = (wd u, []) := by
  unfold readW at h
  split at h
  · rename_i cs
    split at h
    · rename_i a b c e
      cases h
      obtain ⟨l⟩ := cs
      simp only at e
      subst e
      exact ⟨⟨a, b, c⟩, rfl, rfl⟩
    · cases h
  · cases h
theorem zero35 (w : World) : (zeroValue 35).run Try.prog w = .ok (.agg noW.cs.toArray) w := by kernel_rfl
theorem under58 : Try.prog.underlying 58 = some (.map 27 35) := Try.underlying58

/-! ### a map as a function -/
def upd (f : Pl → Option Wd) (x : Pl) (v : Wd) : Pl → Option Wd := fun y => if y = x then some v else f y
theorem upd_same (f : Pl → Option Wd) (x : Pl) (v : Wd) : upd f x v x = some v := if_pos rfl
theorem upd_other (f : Pl → Option Wd) {x y : Pl} (v : Wd) (h : y ≠ x) : upd f x v y = f y := if_neg h
/-- Of each place of 64 bits the map has what f says. -/
def Alike (D : DataW Unit) (f : Pl → Option Wd) : Prop := ∀ x : Pl, x.Wide → Maps.has D (keyL x) = (f x).isSome ∧ ∀ v, f x = some v → ∀ z, D.atKey (keyL x) z = wd v
/-- Block b is a map of at most n entries that tells f. -/
def MP (w : World) (b n : Nat) (f : Pl → Option Wd) : Prop := ∃ D, w.ownsMap Try.prog 27 readW b n D ∧ Alike D f
theorem Alike.put {D : DataW Unit} {f : Pl → Option Wd} (h : Alike D f) (hm : Maps.IsMap D) {x : Pl} (hx : x.Wide) (v : Wd) : Alike (D.put (keyL x) (wd v)) (upd f x v) := by
  intro y hy
  by_cases e : y = x
  · subst e
    rw [upd_same, Maps.has_put_same hm (key_is y hx)]
    refine ⟨rfl, fun u hu z => ?_⟩
    injection hu with hu
    subst hu
    exact Maps.atKey_put_same hm (key_is y hx) _ _
  · have hk : keyL y ≠ keyL x := fun h => e (key_inj hy hx h)
    rw [upd_other f v e, Maps.has_put_other hk]
    refine ⟨(h y hy).1, fun u hu z => ?_⟩
    rw [Maps.atKey_put_other hk]
    exact (h y hy).2 u hu z
theorem own_isMap {w : World} {b n : Nat} {D : DataW Unit} (h : w.ownsMap Try.prog 27 readW b n D) : Maps.IsMap D := by
  obtain ⟨es, clock, _, _, _, rfl⟩ := h
  exact ⟨_, rfl⟩
theorem own_tidy {w : World} {b n : Nat} {D : DataW Unit} (h : w.ownsMap Try.prog 27 readW b n D) : Maps.Tidy D := by
  obtain ⟨es, e, h1, _⟩ := h.canon lawK
  exact ⟨es, e, Maps.apart_of_rising h1⟩
theorem own_tight {w : World} {b n : Nat} {D : DataW Unit} (h : w.ownsMap Try.prog 27 readW b n D) : w.ownsMap Try.prog 27 readW b (Maps.size D) D := by
  obtain ⟨es, clock, hb, F, hs, rfl⟩ := h
  exact ⟨es, clock, hb, F, by simp [Maps.size, length_sorted], rfl⟩
section
variable {w w' : World} {b n : Nat} {f : Pl → Option Wd}
theorem MP.lt (h : MP w b n f) : b < w.heap.size := by
  obtain ⟨D, h, _⟩ := h
  exact h.lt
theorem MP.kept {S : Nat → Prop} (h : MP w b n f) (hk : Kept S w w') (hS : ¬ S b) : MP w' b n f := by
  obtain ⟨D, ho, ha⟩ := h
  obtain ⟨es, clock, hb, rest⟩ := ho
  exact ⟨D, ⟨es, clock, (hk.block b (Array.getElem?_eq_some_iff.1 hb).1 hS).trans hb, rest⟩, ha⟩
theorem MP.on (h : MP w b n f) (hb : Below w.heap.size w w') : MP w' b n f := h.kept (kept_below (fun _ => False) hb) (fun h => h)
theorem MP.mono (h : MP w b n f) {n' : Nat} (hn : n ≤ n') : MP w b n' f := by
  obtain ⟨D, ho, ha⟩ := h
  exact ⟨D, ho.mono hn, ha⟩
theorem MP.same (h : MP w b n f) {g : Pl → Option Wd} (e : ∀ x, x.Wide → g x = f x) : MP w b n g := by
  obtain ⟨D, ho, ha⟩ := h
  exact ⟨D, ho, fun x hx => by rw [e x hx]; exact ha x hx⟩
/-- A map is no row of cells. -/
theorem MP.ne {g : Nat} {t : TypeId} {cs : Array Value} (h : MP w b n f) (hg : Blk w g t cs) : g ≠ b := fun e => by
  obtain ⟨D, ⟨es, clock, hb, _⟩, _⟩ := h
  subst e
  unfold Blk at hg
  rw [hg] at hb
  cases hb
theorem mp_made (w : World) : MP (w.alloc (.map #[] 0)) w.heap.size 0 (fun _ => none) :=
  ⟨_, World.ownsMap_made w Try.prog 27 readW, fun x _ => ⟨rfl, fun v hv => (by cases hv)⟩⟩
/-- 'm[x]', and whether it is there. -/
theorem MP.look (h : MP w b n f) {x : Pl} (hx : x.Wide) : (Instr.lookup 58 (.map (some b)) (.agg x.cs.toArray) true).run Try.prog w = .ok (.tuple #[.agg ((f x).getD noW).cs.toArray, .bool (f x).isSome]) w := by
  obtain ⟨D, ho, ha⟩ := h
  obtain ⟨v, ps, hr, hv⟩ := ho.look_ok lawK under58 (zero35 w) (readW_mk noW) (key_of x hx)
  obtain ⟨h1, h2⟩ := ha x hx
  obtain ⟨u, rfl, hu⟩ := readW_inv hv
  rw [h1] at hr
  have : u = (f x).getD noW := by
    cases hf : f x with
    | none =>
      rw [hf] at h1
      rw [Maps.atKey_of_not_has h1] at hu
      injection hu with hu _
      exact (wd_inj hu).symm
    | some v =>
      rw [h2 v hf] at hu
      injection hu with hu _
      exact (wd_inj hu).symm
  rw [← this]
  exact hr
theorem MP.look1 (h : MP w b n f) {x : Pl} (hx : x.Wide) : (Instr.lookup 58 (.map (some b)) (.agg x.cs.toArray) false).run Try.prog w = .ok (.agg ((f x).getD noW).cs.toArray) w := by
  obtain ⟨D, ho, ha⟩ := h
  obtain ⟨v, ps, hr, hv⟩ := ho.lookup lawK under58 (zero35 w) (readW_mk noW) (key_of x hx)
  obtain ⟨h1, h2⟩ := ha x hx
  obtain ⟨u, rfl, hu⟩ := readW_inv hv
  have : u = (f x).getD noW := by
    cases hf : f x with
    | none =>
      rw [hf] at h1
      rw [Maps.atKey_of_not_has h1] at hu
      injection hu with hu _
      exact (wd_inj hu).symm
    | some v =>
      rw [h2 v hf] at hu
      injection hu with hu _
      exact (wd_inj hu).symm
  rw [← this]
  exact hr
/-- 'm[x] = v'. -/
theorem MP.add (h : MP w b n f) {x : Pl} (hx : x.Wide) (v : Wd) (hn : n < maxLen) : ∃ w', (Instr.mapUpdate 58 (.map (some b)) (.agg x.cs.toArray) (.agg v.cs.toArray)).run Try.prog w = .ok () w' ∧ MP w' b (n + 1) (upd f x v) ∧ w.grownBy w' (some b) ∧ w'.heap.size = w.heap.size := by
  obtain ⟨D, ho, ha⟩ := h
  obtain ⟨w', hr, h1, h2⟩ := ho.store lawK under58 hn (key_of x hx) (readW_mk v)
  refine ⟨w', hr, ⟨_, h1, ha.put (own_isMap ho) hx v⟩, h2.grown, ?_⟩
  obtain ⟨es, clock, es', clock', hb, rfl⟩ := h2
  simp [ChangeMaps.setBlock]
/-- .. of a place that is there. -/
theorem MP.put (h : MP w b n f) {x : Pl} (hx : x.Wide) (hf : (f x).isSome = true) (v : Wd) (hn : n < maxLen) : ∃ w', (Instr.mapUpdate 58 (.map (some b)) (.agg x.cs.toArray) (.agg v.cs.toArray)).run Try.prog w = .ok () w' ∧ MP w' b n (upd f x v) ∧ w.grownBy w' (some b) ∧ w'.heap.size = w.heap.size := by
  obtain ⟨D, ho, ha⟩ := h
  obtain ⟨w', hr, h1, h2⟩ := ho.store lawK under58 hn (key_of x hx) (readW_mk v)
  refine ⟨w', hr, ⟨_, ?_, ha.put (own_isMap ho) hx v⟩, h2.grown, ?_⟩
  · have h3 := own_tight h1
    rw [Maps.size_put (own_tidy ho), (ha x hx).1, hf, if_pos rfl] at h3
    exact h3.mono ho.size_le
  · obtain ⟨es, clock, es', clock', hb, rfl⟩ := h2
    simp [ChangeMaps.setBlock]
end

/-! ### gone through -/
/-- Iterator r goes through map b; 'left': which places are still to come, and how many. -/
def RG (w : World) (b r n : Nat) (f : Pl → Option Wd) (left : Pl → Bool) (cnt : Nat) : Prop :=
  ∃ D L, w.ranges Try.prog 27 readW b r n D L cnt ∧ Alike D f ∧ ∀ x : Pl, x.Wide → L (keyL x) = left x
section
variable {w w' : World} {b r n cnt : Nat} {f : Pl → Option Wd} {left : Pl → Bool}
theorem RG.owns (h : RG w b r n f left cnt) : MP w b n f := by
  obtain ⟨D, L, h1, h2, _⟩ := h
  exact ⟨D, h1.owns, h2⟩
theorem RG.lt (h : RG w b r n f left cnt) : r < w.heap.size := by
  obtain ⟨D, L, h1, _⟩ := h
  exact h1.lt
theorem RG.ne (h : RG w b r n f left cnt) : r ≠ b := by
  obtain ⟨D, L, h1, _⟩ := h
  exact h1.ne
theorem RG.left_eq (h : RG w b r n f left cnt) : w.rangeLeft b r = cnt := by
  obtain ⟨D, L, h1, _⟩ := h
  exact h1.left_eq
theorem RG.grown {row : Option Nat} (h : RG w b r n f left cnt) (hg : w.grownBy w' row) (hb : some b ≠ row) (hr : some r ≠ row) : RG w' b r n f left cnt := by
  obtain ⟨D, L, h1, h2, h3⟩ := h
  exact ⟨D, L, h1.kept hg hb hr, h2, h3⟩
theorem RG.not {g : Nat} {t : TypeId} {cs : Array Value} (h : RG w b r n f left cnt) (hg : Blk w g t cs) : g ≠ r := fun e => by
  obtain ⟨D, L, ⟨es, clock, since, seen, c0, _, _, _, _, hr, _⟩, _⟩ := h
  subst e
  unfold Blk at hg
  rw [hg] at hr
  cases hr
theorem RG.nomap {g k : Nat} {f' : Pl → Option Wd} (h : RG w b r n f left cnt) (hg : MP w g k f') : g ≠ r := fun e => by
  obtain ⟨D, L, ⟨es, clock, since, seen, c0, _, _, _, _, hr, _⟩, _⟩ := h
  obtain ⟨D', ⟨es', clock', hb', _⟩, _⟩ := hg
  subst e
  rw [hb'] at hr
  cases hr
end
section
variable {w : World} {ops : Array Oper} {rest : List Oper} {o : Oper} {a : Act} {Q : Exit → Act → World → Prop} {b r n cnt : Nat} {f : Pl → Option Wd} {left : Pl → Bool}
theorem wpList_range_mp (hg : o.guard = none) (m : Operand) (hop : o.op = Op.range 58 m) (hm : a.eval m = .map (some b)) (h : MP w b n f)
    (hK : ∀ w' cnt, RG w' b w.heap.size n f (fun x => (f x).isSome) cnt → w.grownBy w' none → w'.heap.size = w.heap.size + 1 → cnt ≤ n → wpList Try.prog ops Q rest (a.put o.dst (.pointer (some ⟨w.heap.size, 0, none⟩))) w') :
    wpList Try.prog ops Q (o :: rest) a w := by
  obtain ⟨D, ho, ha⟩ := h
  refine wpList_range_own w hg m 58 hop 27 35 lawK under58 readW b n D hm ho ?_
  intro w' h1 h2 h3
  exact hK w' _ ⟨D, _, h1, ha, fun x hx => (ha x hx).1⟩ h2 h3 ho.size_le
theorem wpList_next_mp (hg : o.guard = none) (it : Operand) (hop : o.op = Op.next it false) (hit : a.eval it = .pointer (some ⟨r, 0, none⟩)) (h : RG w b r n f left cnt)
    (hDone : cnt = 0 → (∀ x : Pl, x.Wide → left x = false) → wpList Try.prog ops Q rest (a.put o.dst (.tuple #[.bool false])) w)
    (hMore : ∀ (x : Pl) (v : Wd) (w' : World) (cnt' : Nat), x.Wide → f x = some v → left x = true → RG w' b r n f (fun z => left z && !decide (z = x)) cnt' → cnt' < cnt →
      w.grownBy w' (some r) → w'.heap.size = w.heap.size → (Instr.entry (.pointer (some ⟨r, 0, none⟩))).run Try.prog w' = .ok (.tuple #[.agg x.cs.toArray, .agg v.cs.toArray]) w' → wpList Try.prog ops Q rest (a.put o.dst (.tuple #[.bool true, .agg x.cs.toArray, .agg v.cs.toArray])) w') :
    wpList Try.prog ops Q (o :: rest) a w := by
  obtain ⟨D, L, h1, ha, hL⟩ := h
  refine wpList_next_ranges w hg it hop 27 lawK readW (fun x : Pl => Value.agg x.cs.toArray) (fun v : Wd => Value.agg v.cs.toArray)
    (fun key kl hk => by obtain ⟨x, _, e, _⟩ := key_inv hk; exact ⟨x, e⟩) (fun v y hv => by obtain ⟨u, e, _⟩ := readW_inv hv; exact ⟨u, e⟩) b r n D L cnt hit h1 ?_ ?_
  · intro h0 hl
    exact hDone h0 fun x hx => by rw [← hL x hx]; exact hl _
  · intro x v kl y w' cnt' hk hl hv hat hrg hlt hgr hsz hen
    obtain ⟨x', hx, e, rfl⟩ := key_inv hk
    have ex : x = x' := by
      obtain ⟨a, b, c⟩ := x
      obtain ⟨a', b', c'⟩ := x'
      simpa [Pl.cs] using e
    subst ex
    obtain ⟨v', e, rfl⟩ := readW_inv hv
    have ev : v = v' := by
      obtain ⟨a, b, c⟩ := v
      obtain ⟨a', b', c'⟩ := v'
      simpa [Wd.cs] using e
    subst ev
    refine hMore x v w' cnt' hx ?_ (by rw [← hL x hx]; exact hl) ⟨D, _, hrg, ha, fun z hz => ?_⟩ hlt hgr hsz hen
    · have hh := (ha x hx).1
      rw [Maps.has_true_of_atKey hat] at hh
      obtain ⟨u, hu⟩ := Option.isSome_iff_exists.1 hh.symm
      have := (ha x hx).2 u hu .nil
      rw [hat] at this
      rw [hu, wd_inj this]
    · rw [hL z hz]
      by_cases e : z = x
      · subst e
        rw [WideAt.sameKey_self (key_is z hz)]
        simp
      · rw [Maps.sameKey_ne (fun h => e (key_inj hz hx h))]
        simp [e]
end
end Go.Proofs.Ytlajjadpcaobiaa
