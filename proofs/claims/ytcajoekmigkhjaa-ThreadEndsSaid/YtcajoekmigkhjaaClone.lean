/- A list of one's own that reads as another one; a thread whose lists are its own. Conditions: at most a thousand elements. -/
import Derived.Test.YtcajoekmigkhjaaThr
import Derived.OwnWalk
import Derived.WalkSpells
import Derived.Lib.SliceRun
namespace Go.Proofs.Ytcajoekmigkhjaa
open Go.RowKit Go.ChangeShapes Go.WideShapes Go.Great

theorem int1_one (x : Int) : ∀ v ∈ int1 x, v.oneCell' = true := by
  intro v hv
  simp only [int1, List.mem_cons, List.not_mem_nil, or_false] at hv
  subst hv
  rfl
/-- The same thread, with other lists. -/
def Th.put (x : Th) (se bg sn : Sl) : Th := { x with se := se, bg := bg, sn := sn }
/-- Its three lists are new, and read as such. -/
structure Own (B : Nat) (w : World) (x : Th) (z : List Int) (l : List Bg) (s : List Int) : Prop where
  se : w.ownsRow B 2 1 (.slice x.se.A x.se.n x.se.cap) x.se.n (ints z)
  bg : w.ownsRow B 48 3 (.slice x.bg.A x.bg.n x.bg.cap) x.bg.n (flatB l)
  sn : w.ownsRow B 2 1 (.slice x.sn.A x.sn.n x.sn.cap) x.sn.n (ints s)
section
variable {B : Nat} {w w' : World} {x : Th} {z s : List Int} {l : List Bg}
theorem own_seesI {A : Option Addr} {n cap : Nat} {l : List Int} (h : w.ownsRow B 2 1 (.slice A n cap) n (ints l)) : SeesI w A n cap l := own_sees h
theorem Own.reads (h : Own B w x z l s) : Reads w x z l s := ⟨own_seesI h.se, own_seesB h.bg, own_seesI h.sn⟩
theorem Own.on (h : Own B w x z l s) (hb : Below w.heap.size w w') : Own B w' x z l s := ⟨ownB_below h.se hb, ownB_below h.bg hb, ownB_below h.sn hb⟩
theorem Own.mono {B' : Nat} (h : Own B w x z l s) (hB : B' ≤ B) : Own B' w x z l s := ⟨own_mono h.se hB, own_mono h.bg hB, own_mono h.sn hB⟩
end
section
variable {ops : Array Oper} {rest : List Oper} {o : Oper} {a : Act} {w : World} {Q : Exit → Act → World → Prop}
/-- The next operation is that load, that store: so that a law for it is tried there alone. -/
theorem at_load (ty : TypeId) (x : Operand) {d : Option Tmp} {t : TypeId} {p : String} {af : Array Edge} {g : Option (Nat × Bool)} (h : wpList Try.prog ops Q (⟨d, .load ty x, t, p, af, g⟩ :: rest) a w) : wpList Try.prog ops Q (⟨d, .load ty x, t, p, af, g⟩ :: rest) a w := h
theorem at_store (ty : TypeId) (x y : Operand) {d : Option Tmp} {t : TypeId} {p : String} {af : Array Edge} {g : Option (Nat × Bool)} (h : wpList Try.prog ops Q (⟨d, .store ty x y, t, p, af, g⟩ :: rest) a w) : wpList Try.prog ops Q (⟨d, .store ty x y, t, p, af, g⟩ :: rest) a w := h
theorem wpList_wanted (hw : Region.wanted o (yielded ops a.tmps) = true) (h : ∀ K : Act → World → Prop, (∀ a w, wpList Try.prog ops Q rest a w → K a w) → o.wp Try.prog a w K Q) : wpList Try.prog ops Q (o :: rest) a w :=
  wpList_step fun K hK => by simp only [hw, if_true]; exact h K hK
/-- A part of a row loaded by an operation that is guarded, and wanted. -/
theorem wpList_mid (hw : Region.wanted o (yielded ops a.tmps) = true) (ty : TypeId) (x : Operand) (ho : o.op = .load ty x)
    (b f : Nat) (hx : a.eval x = .pointer (some ⟨b, f, none⟩)) (cs : List Value) (d : TypeDesc) (hc : w.rangeAt b f cs)
    (hu : Try.prog.underlying ty = some d) (hd : d.isRow = true) (hi : (Try.prog.info? ty).map (·.size) = some cs.length)
    (h : wpList Try.prog ops Q rest (a.put o.dst (.agg cs.toArray)) w) : wpList Try.prog ops Q (o :: rest) a w :=
  wpList_wanted hw fun _ hK => wp_load_mid ty x ho b f hx cs d hc hu hd hi (hK _ _ h)
end
theorem put_se (x : Th) (v : Sl) : x.cs.toArray.setIfInBounds 18 v.v = (x.put v x.bg x.sn).cs.toArray := rfl
/-- A cell of a block set, by name. -/
theorem set_named {w W : World} {g : Nat} {t : TypeId} {cs cs' : Array Value} {i : Nat} {v : Value} (h : Blk w g t cs) (e : w.setCell ⟨g, i, none⟩ v = W) (hc : cs.setIfInBounds i v = cs') : Blk W g t cs' := by
  subst e hc
  exact blk_set h i v
theorem set_far {w W : World} {g g' : Nat} {t : TypeId} {cs : Array Value} {i : Nat} {v : Value} (h : Blk w g' t cs) (e : w.setCell ⟨g, i, none⟩ v = W) (hne : g' ≠ g) : Blk W g' t cs := by
  subst e
  exact blk_far h hne i v
theorem set_below {w W : World} {g i B : Nat} {v : Value} (e : w.setCell ⟨g, i, none⟩ v = W) (hB : B ≤ g) (hs : B ≤ w.heap.size) : Below B w W := by
  subst e
  exact (kept_cell w ⟨g, i, none⟩ v).under B hs (fun k hk => by rw [hk]; exact hB)
theorem own_blocks {w : World} {B k n cap g : Nat} {t t' : TypeId} {A : Option Addr} {vs : List Value} {cs : Array Value} (h : w.ownsRow B t k (.slice A n cap) n vs) (hb : Blk w g t' cs) (ht : t ≠ t') : (Value.slice A n cap).ownBlock = none ∨ (Value.slice A n cap).ownBlock ≠ some g := by
  cases hw : (Value.slice A n cap).ownBlock with
  | none => exact .inl rfl
  | some g' => exact .inr (fun e => own_off (own_low h) hb ht ((own_lies A n cap g).1 (hw.trans e)))
theorem set_own {w W : World} {g i B k n : Nat} {v : Value} {t t' : TypeId} {A : Option Addr} {cap : Nat} {vs : List Value} {cs : Array Value} (h : w.ownsRow B t k (.slice A n cap) n vs) (hb : Blk w g t' cs) (ht : t ≠ t') (e : w.setCell ⟨g, i, none⟩ v = W) : W.ownsRow B t k (.slice A n cap) n vs := by
  subst e
  exact h.kept (row := some g) ((kept_cell w ⟨g, i, none⟩ v).grown (some g) (fun k hk => by rw [hk])) (own_blocks h hb ht)
theorem row_named {w W : World} {g : Nat} {t : TypeId} {cs cs' : Array Value} (h : Blk w g t cs) (e : w.setRow g cs' = W) : Blk W g t cs' := by
  subst e
  exact setRow_heap _ _ _ _ _ _ h
theorem row_far {w W : World} {g g' : Nat} {t : TypeId} {cs cs' : Array Value} (h : Blk w g' t cs) (e : w.setRow g cs' = W) (hne : g' ≠ g) : Blk W g' t cs := by
  subst e
  exact (setRow_other _ _ _ _ hne).trans h
theorem row_below {w W : World} {g B : Nat} {cs : Array Value} (e : w.setRow g cs = W) (hB : B ≤ g) (hs : B ≤ w.heap.size) : Below B w W := by
  subst e
  exact (kept_row w g cs).under B hs (fun k hk => by rw [hk]; exact hB)
theorem row_own {w W : World} {g B k n : Nat} {t t' : TypeId} {A : Option Addr} {cap : Nat} {vs : List Value} {cs cs' : Array Value} (h : w.ownsRow B t k (.slice A n cap) n vs) (hb : Blk w g t' cs) (ht : t ≠ t') (e : w.setRow g cs' = W) : W.ownsRow B t k (.slice A n cap) n vs := by
  subst e
  exact h.kept (row := some g) ((kept_row w g cs').grown (some g) (fun k hk => by rw [hk])) (own_blocks h hb ht)
theorem range_part {w : World} {g : Nat} {t : TypeId} {cs : List Value} (h : Blk w g t cs.toArray) (o : Nat) (mid : List Value) (hm : (cs.drop o).take mid.length = mid) : w.rangeAt g o mid := fun j v hv => by
  have := range_blk h (o + j) v (by
    have hj := (List.getElem?_eq_some_iff.1 hv).1
    rw [← hm, List.getElem?_take_of_lt hj, List.getElem?_drop] at hv
    exact hv)
  rwa [Nat.zero_add] at this
set_option maxRecDepth 100000 in
set_option maxHeartbeats 4000000 in
theorem copy_any {w : World} {x : Th} {z s : List Int} {l : List Bg} (h : Reads w x z l s) (h1 : x.se.n ≤ 1000) (h2 : x.bg.n ≤ 1000) (h3 : x.sn.n ≤ 1000) :
    Calls Try.prog 10 #[.agg x.cs.toArray] w fun e w' => ∃ A1 c1 A2 c2 A3 c3, e = .returned (.agg (x.put ⟨A1, x.se.n, c1⟩ ⟨A2, x.bg.n, c2⟩ ⟨A3, x.sn.n, c3⟩).cs.toArray) ∧ Own w.heap.size w' (x.put ⟨A1, x.se.n, c1⟩ ⟨A2, x.bg.n, c2⟩ ⟨A3, x.sn.n, c3⟩) z l s ∧ Below w.heap.size w w' := by
  obtain ⟨i0, hi, hz0, hz1, hz2⟩ := info_parts info48
  obtain ⟨j0, hj, hy0, hy1, hy2⟩ := info_parts info2
  obtain ⟨p1, f1⟩ : ∃ p, w.heap.size = p := ⟨_, rfl⟩
  obtain ⟨W1, ea1⟩ : ∃ W, w.alloc (.cells x.cs.toArray 32) = W := ⟨_, rfl⟩
  have ka1 : Below w.heap.size w W1 := by rw [← ea1]; exact (Below.refl _ w).alloc (Nat.le_refl _) _
  have b1 : Blk W1 p1 32 x.cs.toArray := by rw [← ea1]; exact blk_new w _ 32 _ f1
  have kk : Below w.heap.size w W1 := ka1
  have hp1 : w.heap.size ≤ p1 := Nat.le_of_eq f1
  clear ka1
  obtain ⟨p2, f2⟩ : ∃ p, W1.heap.size = p := ⟨_, rfl⟩
  obtain ⟨W2, ea2⟩ : ∃ W, W1.alloc (.cells #[.int .i64 0, .int .i64 0, .int .i64 0, .int .i64 0, .int .i64 0, .int .i64 0, .int .i64 0, .int .i64 0, .int .i64 0, .int .i64 0, .int .i64 0, .int .i64 0, .int .i64 0, .int .i64 0, .int .i64 0, .int .i64 0, .int .i64 0, .int .i64 0, .slice none 0 0, .slice none 0 0, .slice none 0 0, .int .i64 0] 32) = W := ⟨_, rfl⟩
  have ka2 : Below W1.heap.size W1 W2 := by rw [← ea2]; exact (Below.refl _ W1).alloc (Nat.le_refl _) _
  have b2 : Blk W2 p2 32 #[.int .i64 0, .int .i64 0, .int .i64 0, .int .i64 0, .int .i64 0, .int .i64 0, .int .i64 0, .int .i64 0, .int .i64 0, .int .i64 0, .int .i64 0, .int .i64 0, .int .i64 0, .int .i64 0, .int .i64 0, .int .i64 0, .int .i64 0, .int .i64 0, .slice none 0 0, .slice none 0 0, .slice none 0 0, .int .i64 0] := by rw [← ea2]; exact blk_new W1 _ 32 _ f2
  have q1_2 : p1 < p2 := by rw [← f2]; exact b1.lt
  replace b1 := b1.on ka2
  have kk0 := kk
  replace kk := kk.trans (ka2.mono kk.size)
  have hp2 : w.heap.size ≤ p2 := by rw [← f2]; exact kk0.size
  clear ka2 kk0
  have c2_1_18 : W2.cell? ⟨p1, 18, none⟩ = some (.slice x.se.A x.se.n x.se.cap) := b1.cell 18
  have d1 := (h.on kk).se
  go_enter Try.func10, Try.ntmps10
  go_wp2_with (at_builtin; refine wpList_app rfl _ _ 27 rfl w.heap.size 2 j0 (.int .i64 0) 1 8 Try.underlying27 hj hy0 hy1 hy2 rfl (by decide) none 0 0 [] rfl (World.ownsRow_nil _ _ _ _) x.se.A x.se.n x.se.cap (ints z) rfl d1 (flat_one int1_one z) (by unfold maxLen; omega) (by omega) kk.size ?_)
  intro A1 c1 W3 o1 g1 _
  have kW3 : Below W2.heap.size W2 W3 := (kept_grown g1).under _ (Nat.le_refl _) (fun k h => by cases h)
  clear c2_1_18
  clear g1
  replace b1 := b1.on kW3
  replace b2 := b2.on kW3
  replace kk := kk.trans (kW3.mono kk.size)
  clear kW3
  clear d1
  rw [← f1] at o1
  have d2 := (h.on kk).bg
  have c3_1_19 : W3.cell? ⟨p1, 19, none⟩ = some (.slice x.bg.A x.bg.n x.bg.cap) := b1.cell 19
  go_wp2_with (at_builtin; refine wpList_app rfl _ _ 30 rfl w.heap.size 48 i0 (.agg noB.cs.toArray) 3 24 Try.underlying30 hi hz0 hz1 hz2 rfl (by decide) none 0 0 [] rfl (World.ownsRow_nil _ _ _ _) x.bg.A x.bg.n x.bg.cap (flatB l) rfl d2 (flat_one Bg.one l) (by unfold maxLen; omega) (by omega) kk.size ?_)
  intro A2 c2 W4 o2 g2 _
  have kW4 : Below W3.heap.size W3 W4 := (kept_grown g2).under _ (Nat.le_refl _) (fun k h => by cases h)
  clear c3_1_19
  clear g2
  replace b1 := b1.on kW4
  replace b2 := b2.on kW4
  replace o1 := ownB_below o1 kW4
  replace kk := kk.trans (kW4.mono kk.size)
  clear kW4
  clear d2
  rw [← f1] at o2
  have d3 := (h.on kk).sn
  have c4_1_20 : W4.cell? ⟨p1, 20, none⟩ = some (.slice x.sn.A x.sn.n x.sn.cap) := b1.cell 20
  go_wp2_with (at_builtin; refine wpList_app rfl _ _ 27 rfl w.heap.size 2 j0 (.int .i64 0) 1 8 Try.underlying27 hj hy0 hy1 hy2 rfl (by decide) none 0 0 [] rfl (World.ownsRow_nil _ _ _ _) x.sn.A x.sn.n x.sn.cap (ints s) rfl d3 (flat_one int1_one s) (by unfold maxLen; omega) (by omega) kk.size ?_)
  intro A3 c3 W5 o3 g3 _
  have kW5 : Below W4.heap.size W4 W5 := (kept_grown g3).under _ (Nat.le_refl _) (fun k h => by cases h)
  clear c4_1_20
  clear g3
  replace b1 := b1.on kW5
  replace b2 := b2.on kW5
  replace o1 := ownB_below o1 kW5
  replace o2 := ownB_below o2 kW5
  replace kk := kk.trans (kW5.mono kk.size)
  clear kW5
  clear d3
  rw [← f1] at o3
  have fr5_1_18 := b1.free 18
  have c5_1_18 : W5.cell? ⟨p1, 18, none⟩ = some (.slice x.se.A x.se.n x.se.cap) := b1.cell 18
  obtain ⟨W6, es6⟩ : ∃ W, W5.setCell ⟨p1, 18, none⟩ (.slice A1 x.se.n c1) = W := ⟨_, rfl⟩
  replace o1 := set_own o1 b1 (by decide) es6
  replace o2 := set_own o2 b1 (by decide) es6
  replace o3 := set_own o3 b1 (by decide) es6
  replace b2 := set_far b2 es6 (by omega)
  replace b1 : Blk W6 p1 32 (x.put ⟨A1, x.se.n, c1⟩ x.bg x.sn).cs.toArray := set_named b1 es6 rfl
  replace kk := kk.trans (set_below es6 hp1 kk.size)
  have fr6_1_19 := b1.free 19
  have c6_1_19 : W6.cell? ⟨p1, 19, none⟩ = some (.slice x.bg.A x.bg.n x.bg.cap) := b1.cell 19
  obtain ⟨W7, es7⟩ : ∃ W, W6.setCell ⟨p1, 19, none⟩ (.slice A2 x.bg.n c2) = W := ⟨_, rfl⟩
  replace o1 := set_own o1 b1 (by decide) es7
  replace o2 := set_own o2 b1 (by decide) es7
  replace o3 := set_own o3 b1 (by decide) es7
  replace b2 := set_far b2 es7 (by omega)
  replace b1 : Blk W7 p1 32 (x.put ⟨A1, x.se.n, c1⟩ ⟨A2, x.bg.n, c2⟩ x.sn).cs.toArray := set_named b1 es7 rfl
  replace kk := kk.trans (set_below es7 hp1 kk.size)
  have fr7_1_20 := b1.free 20
  have c7_1_20 : W7.cell? ⟨p1, 20, none⟩ = some (.slice x.sn.A x.sn.n x.sn.cap) := b1.cell 20
  obtain ⟨W8, es8⟩ : ∃ W, W7.setCell ⟨p1, 20, none⟩ (.slice A3 x.sn.n c3) = W := ⟨_, rfl⟩
  replace o1 := set_own o1 b1 (by decide) es8
  replace o2 := set_own o2 b1 (by decide) es8
  replace o3 := set_own o3 b1 (by decide) es8
  replace b2 := set_far b2 es8 (by omega)
  replace b1 : Blk W8 p1 32 (x.put ⟨A1, x.se.n, c1⟩ ⟨A2, x.bg.n, c2⟩ ⟨A3, x.sn.n, c3⟩).cs.toArray := set_named b1 es8 rfl
  replace kk := kk.trans (set_below es8 hp1 kk.size)
  have lb1 := b1
  obtain ⟨W9, es9⟩ : ∃ W, W8.setRow p2 (x.put ⟨A1, x.se.n, c1⟩ ⟨A2, x.bg.n, c2⟩ ⟨A3, x.sn.n, c3⟩).cs.toArray = W := ⟨_, rfl⟩
  have bo2 := b2
  replace o1 := row_own o1 b2 (by decide) es9
  replace o2 := row_own o2 b2 (by decide) es9
  replace o3 := row_own o3 b2 (by decide) es9
  replace b1 := row_far b1 es9 (by omega)
  replace b2 : Blk W9 p2 32 (x.put ⟨A1, x.se.n, c1⟩ ⟨A2, x.bg.n, c2⟩ ⟨A3, x.sn.n, c3⟩).cs.toArray := row_named b2 es9
  replace kk := kk.trans (row_below es9 hp2 kk.size)
  go_wp2_with (first | ((with_reducible refine at_load 32 (.tmp 1) ?_); refine wpList_load_row rfl 32 (.tmp 1) rfl p1 rfl 32 (x.put ⟨A1, x.se.n, c1⟩ ⟨A2, x.bg.n, c2⟩ ⟨A3, x.sn.n, c3⟩).cs.toArray (0, 0) _ lb1 Try.underlying32 rfl (sizeT _) ?_) | ((with_reducible refine at_store 32 (.tmp 2) (.tmp 26) ?_); refine wpList_store_row rfl 32 (.tmp 2) (.tmp 26) rfl p2 (x.put ⟨A1, x.se.n, c1⟩ ⟨A2, x.bg.n, c2⟩ ⟨A3, x.sn.n, c3⟩).cs.toArray rfl rfl 32 #[.int .i64 0, .int .i64 0, .int .i64 0, .int .i64 0, .int .i64 0, .int .i64 0, .int .i64 0, .int .i64 0, .int .i64 0, .int .i64 0, .int .i64 0, .int .i64 0, .int .i64 0, .int .i64 0, .int .i64 0, .int .i64 0, .int .i64 0, .int .i64 0, .slice none 0 0, .slice none 0 0, .slice none 0 0, .int .i64 0] bo2 (sizeT _) rfl (Th.onea _) ?_))
  rw [es9]
  refine bodyPost_ret (results_cell_row (cs := (x.put ⟨A1, x.se.n, c1⟩ ⟨A2, x.bg.n, c2⟩ ⟨A3, x.sn.n, c3⟩).cs.toArray) rfl _ _ p2 32 (0, 0) _ rfl b2 Try.underlying32 rfl (sizeT _)) rfl ?_
  exact ⟨A1, c1, A2, c2, A3, c3, rfl, ⟨o1, o2, o3⟩, kk⟩
end Go.Proofs.Ytcajoekmigkhjaa
