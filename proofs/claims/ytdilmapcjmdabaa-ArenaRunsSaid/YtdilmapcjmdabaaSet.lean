/- A cell is set to what is told; the row goes along. Conditions: none. -/
import Derived.Test.YtdilmapcjmdabaaStock
namespace Go.Proofs.Ytdilmapcjmdabaa
open Go.ChangeShapes Go.WideShapes Go.RowKit

/-- The blocks of a stock. -/
def stkS (ps : Nat) (Ac Ar : Option Addr) (g : Nat) : Prop := g = ps ∨ lies Ac g ∨ lies Ar g
/-- The row behind a cell that is set. -/
def row1 (R : List Int) (k : Int) (was to : Cel) : List Int :=
  if was.s = 0 ∧ to.s ≠ 0 then R.tail else if was.s ≠ 0 ∧ to.s = 0 then k :: R else R

/-- A part of a row turned. -/
def splice (cur : Array Value) : Nat → List Value → Array Value
  | _, [] => cur
  | o, v :: r => splice (cur.setIfInBounds o v) (o + 1) r
theorem splice_size : ∀ (vs : List Value) (cur : Array Value) (o : Nat), (splice cur o vs).size = cur.size
  | [], _, _ => rfl
  | v :: r, cur, o => by rw [splice, splice_size r]; simp
theorem splice_get : ∀ (vs : List Value) (cur : Array Value) (o i : Nat), o + vs.length ≤ cur.size → (splice cur o vs)[i]? = if o ≤ i ∧ i < o + vs.length then vs[i - o]? else cur[i]?
  | [], cur, o, i, _ => by rw [splice, if_neg (by simp)]
  | v :: r, cur, o, i, h => by
    simp only [List.length_cons] at h
    rw [splice, splice_get r _ (o + 1) i (by simp; omega), Array.getElem?_setIfInBounds, List.length_cons]
    by_cases h1 : i = o
    · subst h1
      rw [if_neg (by omega), if_pos rfl, if_pos (by omega), if_pos (by omega)]
      simp
    · by_cases h2 : o + 1 ≤ i ∧ i < o + 1 + r.length
      · rw [if_pos h2, if_pos (by omega), show i - o = (i - (o + 1)) + 1 by omega]
        simp
      · rw [if_neg h2, if_neg (by omega), if_neg (by omega)]
theorem heap_cells {g : Nat} {t : TypeId} : ∀ (vs : List Value) (o : Nat) (w : World) (cur : Array Value), Blk w g t cur → Blk (w.setCells g o vs) g t (splice cur o vs)
  | [], _, _, _, h => h
  | v :: r, o, w, cur, h => by
    rw [World.setCells, splice]
    exact heap_cells r (o + 1) _ _ (heap_setCell_same w g o cur t v h)

section
variable {w w' : World} {ps cc n cr m : Nat} {Ac Ar : Option Addr} {C : List Cel} {R : List Int}
/-- What a stock is behind a cell that was set. -/
def SetTo (w : World) (ps : Nat) (Ac : Option Addr) (cc n : Nat) (Ar : Option Addr) (C : List Cel) (R : List Int) (w' : World) : Prop :=
  ∃ Ar' cr' m', Stk w' ps Ac cc n Ar' cr' m' C R ∧ Kept (stkS ps Ac Ar) w w' ∧ ∀ g, lies Ar' g → lies Ar g ∨ w.heap.size ≤ g

theorem own_set {A : Option Addr} {cap j g : Nat} {C : List Cel} {c : Cel} (h : w.ownsRow 0 45 10 (.slice A n cap) n (flatC C)) (hA : A = some ⟨g, 0, none⟩) (hj : j < C.length) :
    (w.setCells g (j * 10) c.cs).ownsRow 0 45 10 (.slice A n cap) n (flatC (C.set j c)) := by
  have hl : C.length = n := by
    have := h.1
    unfold flatC at this
    rw [flat_len Cel.len] at this
    omega
  refine ⟨by unfold flatC; rw [flat_len Cel.len, List.length_set, hl], ?_⟩
  rcases h.2 with ⟨e, h0⟩ | ⟨g', c', cur, e, hb, hh, h1, h2, h3, h4⟩
  · omega
  · injection e with e1 e2 e3
    subst e3
    rw [hA] at e1
    injection e1 with e1
    injection e1 with e1
    subst e1
    have hin : j * 10 + 10 ≤ cur.size := by rw [h3]; omega
    refine .inr ⟨g, cap, _, by rw [hA], hb, heap_cells c.cs (j * 10) w cur hh, h1, h2, by rw [splice_size, h3], ?_⟩
    apply List.ext_getElem?
    intro i
    unfold flatC at h4 ⊢
    rw [flat_set Cel.len C j c i hj, List.getElem?_take, Array.getElem?_toList, splice_get _ _ _ _ (by rw [Cel.len]; exact hin), Cel.len, ← h4, List.getElem?_take, Array.getElem?_toList]
    by_cases h5 : j * 10 ≤ i ∧ i < j * 10 + 10
    · rw [if_pos h5, if_pos h5, if_pos (by omega)]
    · rw [if_neg h5, if_neg h5]; simp

theorem under29 : Try.prog.underlying 29 = some (.slice (Try.prog.elem 29)) := by kernel_rfl
theorem sizeE29 (w : World) : (sizeOf (Try.prog.elem 29)).run Try.prog w = .ok 1 w := by kernel_rfl
theorem cut_row (A : Option Addr) (n cap k : Nat) (hc : k ≤ cap) (w : World) :
    (Instr.slice 29 (.slice A n cap) none (some (.int .i64 (k : Int))) none).run Try.prog w = .ok (.slice A k cap) w := by
  rw [run_slice_h w 29 A n cap under29 .i64 _ (by omega) (by omega), sizeE29]
  simp only [Result.andThen, sliced, Int.toNat_natCast, Nat.sub_zero, Nat.zero_mul]
  rcases A with _ | ad
  · split <;> rfl
  · split <;> simp [Addr.add]
theorem set_pop {q : Nat} {A : Option Addr} (h : Stk w ps Ac cc n A cr (q + 1) C R) (hl : R.length = q + 1) :
    Stk (w.setCell ⟨ps, 1, none⟩ (.slice A q cr)) ps Ac cc n A cr q C R.tail ∧ Kept (fun g => g = ps) w (w.setCell ⟨ps, 1, none⟩ (.slice A q cr)) := by
  have hk := kept_cell w ⟨ps, 1, none⟩ (.slice A q cr)
  refine ⟨⟨heap_setCell_same w ps 1 _ 80 _ h.box, own_kept h.oc hk (fun g hg e => by subst e; exact own_off h.oc h.box (by decide) hg), ?_⟩, hk⟩
  have ho := own_kept h.or hk (fun g hg e => by subst e; exact own_off h.or h.box (by decide) hg)
  refine ⟨by unfold ints; rw [flat_len int_len]; simp; omega, ?_⟩
  rcases ho.2 with ⟨e, h0⟩ | ⟨g', c', cur, e, hb, hh, h1, h2, h3, h4⟩
  · omega
  · injection e with e1 e2 e3
    subst e1 e3
    refine .inr ⟨g', cr, cur, rfl, hb, hh, by omega, h2, h3, ?_⟩
    have e : cur.toList.take (q * 1) = (cur.toList.take ((q + 1) * 1)).take q := by rw [List.take_take]; congr 1; omega
    rw [e, h4]
    match R, hl with
    | x :: r, hl =>
      simp at hl
      simp only [List.reverse_cons, List.tail_cons]
      unfold ints
      rw [List.flatMap_append, List.take_append_of_le_length (by rw [flat_len int_len]; simp; omega), List.take_of_length_le (by rw [flat_len int_len]; simp; omega)]
theorem set_push {w5 : World} {gg cp : Nat} (h : Stk w ps Ac cc n Ar cr m C R) (k : Int) (hg : (w.alloc (.cells #[.int .i64 k] 3)).grownBy w5 (Value.slice Ar m cr).ownBlock)
    (ho : w5.ownsRow 0 3 1 (.slice (some ⟨gg, 0, none⟩) (m + 1) cp) (m + 1) (ints R.reverse ++ [.int .i64 k])) (hat : (Value.slice Ar m cr).ownBlock = some gg ∨ gg = w.heap.size + 1) :
    Stk (w5.setCell ⟨ps, 1, none⟩ (.slice (some ⟨gg, 0, none⟩) (m + 1) cp)) ps Ac cc n (some ⟨gg, 0, none⟩) cp (m + 1) C (k :: R) ∧
      Kept (fun g => g = ps ∨ lies Ar g) w (w5.setCell ⟨ps, 1, none⟩ (.slice (some ⟨gg, 0, none⟩) (m + 1) cp)) ∧ ∀ g, lies (some ⟨gg, 0, none⟩) g → lies Ar g ∨ w.heap.size ≤ g := by
  have h1 := h.below ((Below.refl _ w).alloc (Nat.le_refl _) (.cells #[.int .i64 k] 3))
  have k1 := kept_grown hg
  have k2 := kept_cell w5 ⟨ps, 1, none⟩ (.slice (some ⟨gg, 0, none⟩) (m + 1) cp)
  have hR : ∀ g t' cs, Blk (w.alloc (.cells #[.int .i64 k] 3)) g t' cs → 3 ≠ t' → ¬ (Value.slice Ar m cr).ownBlock = some g := fun g t' cs hb ht e => own_off h1.or hb ht ((own_lies Ar m cr g).1 e)
  have b5 : Blk w5 ps 80 #[.slice Ac n cc, .slice Ar m cr] := h1.box.kept k1 (hR _ _ _ h1.box (by decide))
  have oc5 := own_kept h1.oc k1 (fun g hg => by
    obtain ⟨cs, hb⟩ := own_blk h1.oc hg
    exact hR _ _ _ hb (by decide))
  refine ⟨⟨heap_setCell_same w5 ps 1 _ 80 _ b5, own_kept oc5 k2 (fun g hg e => by subst e; exact own_off oc5 b5 (by decide) hg), ?_⟩, ?_, ?_⟩
  · have := own_kept ho k2 (fun g hg e => by subst e; exact own_off ho b5 (by decide) hg)
    rw [show ints (k :: R).reverse = ints R.reverse ++ [.int .i64 k] by simp [ints]]
    exact this
  · refine ((kept_below _ ((Below.refl _ w).alloc (Nat.le_refl _) (.cells #[.int .i64 k] 3))).next k1 (fun g hg => .inl (.inr ((own_lies Ar m cr g).1 hg)))).next k2 (fun g hg => .inl (.inl hg))
  · intro g hg
    injection hg with hg
    subst hg
    rcases hat with hat | hat
    · exact .inl ((own_lies Ar m cr _).1 hat)
    · exact .inr (by show w.heap.size ≤ gg; omega)
theorem push_box {k : Int} (h : Stk w ps Ac cc n Ar cr m C R) : ∀ W, (w.alloc (.cells #[.int .i64 k] 3)).grownBy W (Value.slice Ar m cr).ownBlock → Blk W ps 80 #[.slice Ac n cc, .slice Ar m cr] := by
  intro W hg
  have h1 := h.below ((Below.refl _ w).alloc (Nat.le_refl _) (.cells #[.int .i64 k] 3))
  exact h1.box.kept (kept_grown hg) (fun e => own_off h1.or h1.box (by decide) ((own_lies Ar m cr _).1 e))
set_option maxRecDepth 100000 in
theorem set_any {k : Int} {j : Nat} {c to : Cel} (h : Stk w ps Ac cc n Ar cr m C R) (hn : n ≤ 6) (hm : m ≤ 6) (hk : k - 1 = (j : Int)) (hc : C[j]? = some c) (hR : c.s = 0 → to.s ≠ 0 → R ≠ []) :
    Calls Try.prog 47 #[.pointer (some ⟨ps, 0, none⟩), .int .i64 k, .agg to.cs.toArray] w fun e w' => e = .returned (.tuple #[]) ∧ SetTo w ps Ac cc n Ar (C.set j to) (row1 R k c to) w' := by
  have hj : j < n := by rw [← h.len]; exact (List.getElem?_eq_some_iff.1 hc).1
  obtain ⟨R2, eR2⟩ : ∃ r, r = row1 R k c to := ⟨_, rfl⟩
  rw [← eR2]
  obtain ⟨W1, eW1⟩ : ∃ W, W = w.alloc (.cells to.cs.toArray 45) := ⟨_, rfl⟩
  have hb1 : Below w.heap.size w W1 := by rw [eW1]; exact (Below.refl _ w).alloc (Nat.le_refl _) _
  have b5 : Blk W1 w.heap.size 45 to.cs.toArray := by rw [eW1]; exact heap_alloc_new w _
  have h1 := h.below hb1
  go_enter Try.func47, Try.ntmps47
  go_wp2_with fail
  rw [← eW1]
  refine (at_any h1 hn hk hc).mono ?_
  rintro e w2 ⟨rfl, hb2⟩
  have h2 := h1.below hb2
  have b52 := b5.on hb2
  have hB : Blk (w2.alloc (.cells noC.cs.toArray 45)) w2.heap.size 45 noC.cs.toArray := heap_alloc_new w2 _
  go_wp2_with (first
    | (refine wpList_store_row rfl 45 (.tmp 6) (.tmp 9) rfl w2.heap.size c.cs.toArray rfl rfl 45 noC.cs.toArray hB size45 rfl (by simp [Cel.cs, Value.oneCell']) ?_))
  obtain ⟨w3, ew3⟩ : ∃ W, W = (w2.alloc (.cells noC.cs.toArray 45)).setRow w2.heap.size c.cs.toArray := ⟨_, rfl⟩
  have hb3 : Below w2.heap.size w2 w3 := by rw [ew3]; exact below_setRow ((Below.refl _ w2).alloc (Nat.le_refl _) _) (Nat.le_refl _) _
  have b6 : Blk w3 w2.heap.size 45 c.cs.toArray := by rw [ew3]; exact setRow_heap _ _ _ _ _ _ hB
  have b53 := b52.on hb3
  have h3 := h2.below hb3
  have hbw : Below w.heap.size w w3 := hb1.trans ((hb2.mono hb1.size).trans (hb3.mono (Nat.le_trans hb1.size hb2.size)))
  have hsz : w.heap.size < w2.heap.size := b52.lt
  obtain ⟨g, eA, ⟨cur0, hcur0⟩, _, _⟩ := own_at Cel.len h.oc hc (by omega)
  have hg := hcur0.lt
  show Code.wp _ _ _ _ ((w2.alloc (.cells noC.cs.toArray 45)).setRow w2.heap.size c.cs.toArray)
  rw [← ew3]
  generalize w2.heap.size = z6 at b6 hsz
  obtain ⟨z5, hz5⟩ : ∃ z, z = w.heap.size := ⟨_, rfl⟩
  rw [← hz5] at b53 hbw hsz hg ⊢
  clear hB hb3 h2 b52 hb2 h1 hb1 b5 eW1 ew3 hcur0
  obtain ⟨g', eA', ⟨cur, hcur⟩, _, hth⟩ := own_at Cel.len h3.oc hc (by omega)
  obtain rfl : g = g' := by
    rw [eA] at eA'
    injection eA' with e
    injection e
  subst eA
  have hps := h3.box.ne hcur (by decide)
  have hwj : IntKind.i64.wrap (j : Int) = (j : Int) := by rw [IntKind.wrap_i64]; omega
  have c0 : w3.cell? ⟨ps, 0, none⟩ = some (.slice (some ⟨g, 0, none⟩) n cc) := h3.box.cell 0
  have r5 : w3.rangeAt z5 0 to.cs := fun i v hv => by rw [Nat.zero_add]; exact (b53.cell i).trans (by simpa using hv)
  refine wp_region_noPanic ?_
  refine wp_region_held_drew (S := fun W => W.cell? ⟨ps, 0, none⟩ = some (.slice (some ⟨g, 0, none⟩) n cc) ∧ W.rangeAt z5 0 to.cs ∧ W.there g (j * 10) 10) (by kernel_rfl) ⟨c0, r5, hth⟩ (fun hHeld => ?_)
  refine wpAnyH_take (i := 0) (oi := ⟨some 10, _, _, _, _, _⟩) (v := ?_) rfl (by kernel_rfl) (by kernel_rfl) (by kernel_rfl) (fun _ _ _ h => h) (Or.inl ⟨by rfl, ?_⟩) (by assumption) ?_
  rotate_left 1
  · (intro W hSw; go_simp <;> with_reducible rfl)
  try simp only [Act.put, List.setIfInBounds_toArray, List.set_cons_zero, List.set_cons_succ]
  refine wpAnyH_take (i := 1) (oi := ⟨some 11, _, _, _, _, _⟩) (v := ?_) rfl (by kernel_rfl) (by kernel_rfl) (by kernel_rfl) (fun _ _ _ h => h) (Or.inl ⟨by rfl, ?_⟩) (by assumption) ?_
  rotate_left 1
  · (intro W hSw; go_simp <;> with_reducible rfl)
  try simp only [Act.put, List.setIfInBounds_toArray, List.set_cons_zero, List.set_cons_succ]
  refine wpAnyH_take (i := 2) (oi := ⟨some 12, _, _, _, _, _⟩) (v := ?_) rfl (by kernel_rfl) (by kernel_rfl) (by kernel_rfl) (fun _ _ _ h => h) (Or.inl ⟨by rfl, ?_⟩) (by assumption) ?_
  rotate_left 1
  · (intro W hSw; go_simp <;> with_reducible rfl)
  try simp only [Act.put, List.setIfInBounds_toArray, List.set_cons_zero, List.set_cons_succ]
  refine wpAnyH_take (i := 3) (oi := ⟨some 13, _, _, _, _, _⟩) (v := ?_) rfl (by kernel_rfl) (by kernel_rfl) (by kernel_rfl) (fun _ _ _ h => h) (Or.inl ⟨by rfl, ?_⟩) (by assumption) ?_
  rotate_left 1
  · (intro W hSw; have hSw0 := hSw.1; clear hSw; go_simp <;> with_reducible rfl)
  try simp only [Act.put, List.setIfInBounds_toArray, List.set_cons_zero, List.set_cons_succ]
  refine wpAnyH_take (i := 4) (oi := ⟨some 14, _, _, _, _, _⟩) (v := ?_) rfl (by kernel_rfl) (by kernel_rfl) (by kernel_rfl) (fun _ _ _ h => h) (Or.inl ⟨by rfl, ?_⟩) (by assumption) ?_
  rotate_left 1
  · (intro W hSw; go_simp <;> with_reducible rfl)
  try simp only [Act.put, List.setIfInBounds_toArray, List.set_cons_zero, List.set_cons_succ]
  refine wpAnyH_take (i := 5) (oi := ⟨some 15, _, _, _, _, _⟩) (v := ?_) rfl (by kernel_rfl) (by kernel_rfl) (by kernel_rfl) (fun _ _ _ h => h) (Or.inl ⟨by rfl, ?_⟩) (by assumption) ?_
  rotate_left 1
  · (intro W hSw; go_simp <;> with_reducible rfl)
  try simp only [Act.put, List.setIfInBounds_toArray, List.set_cons_zero, List.set_cons_succ]
  refine wpAnyH_take (i := 6) (oi := ⟨some 16, _, _, _, _, _⟩) (v := .agg to.cs.toArray) rfl (by kernel_rfl) (by kernel_rfl) (by kernel_rfl) (fun _ _ _ h => h) (yieldsIf_load_mid (by rfl) 45 (.tmp 5) rfl z5 0 rfl to.cs _ (fun W hW => hW.2.1) Try.underlying45 rfl (load45 to)) (by assumption) ?_
  try simp only [Act.put, List.setIfInBounds_toArray, List.set_cons_zero, List.set_cons_succ]
  refine wpAnyH_take (i := 7) (oi := ⟨some 17, _, _, _, _, _⟩) (v := ?_) rfl (by kernel_rfl) (by kernel_rfl) (by kernel_rfl) (fun _ _ _ h => h) (Or.inl ⟨by rfl, ?_⟩) (by assumption) ?_
  rotate_left 1
  · (intro W hSw; go_simp <;> with_reducible rfl)
  try simp only [Act.put, List.setIfInBounds_toArray, List.set_cons_zero, List.set_cons_succ]
  refine wpAnyH_ready (rs := [8]) (by kernel_rfl) (by simp) ?_
  refine AllReadyH.cons rfl (fun K hK => ?_) AllReadyH.nil
  rw [if_pos (by rfl)]
  refine wp_store_mid 45 (.tmp 17) (.tmp 16) rfl g (j * 10) to.cs.toArray rfl rfl hHeld.2.2 size45 (by simp [Cel.cs, Value.oneCell']) ?_
  refine hK.out _ _ ?_ (fun hHeld1 => ?_)
  · refine ⟨(World.cell?_setCells_out g _ _ _ _ (fun e => absurd e hps)).trans hHeld.1, World.rangeAt_setCells_apart hHeld.2.1 _ _ _ (.inl (by omega)), World.there_setCells hHeld.2.2 _ _ _⟩
  clear hK K
  refine wpAnyH_done (by kernel_rfl) ?_ _
  refine NoPanic.normal ?_
  clear hHeld hHeld1
  have h3d : Stk w3.drew ps (some ⟨g, 0, none⟩) cc n Ar cr m C R := ⟨h3.box, h3.oc, h3.or⟩
  obtain ⟨w4, ew4⟩ : ∃ W, W = w3.drew.setCells g (j * 10) to.cs.toArray.toList := ⟨_, rfl⟩
  have k34 : Kept (fun k => k = g) w3.drew w4 := by rw [ew4]; exact kept_cells _ _ _ _
  have oc4 : w4.ownsRow 0 45 10 (.slice (some ⟨g, 0, none⟩) n cc) n (flatC (C.set j to)) := by rw [ew4]; exact own_set h3d.oc rfl (by rw [h3.len]; exact hj)
  have or4 : w4.ownsRow 0 3 1 (.slice Ar m cr) m (ints R.reverse) := own_kept h3d.or k34 (fun g' hg' e => by subst e; exact own_off h3.or hcur (by decide) hg')
  have box4 : Blk w4 ps 80 #[.slice (some ⟨g, 0, none⟩) n cc, .slice Ar m cr] := h3d.box.kept k34 hps
  have h4 : Stk w4 ps (some ⟨g, 0, none⟩) cc n Ar cr m (C.set j to) R := ⟨box4, oc4, or4⟩
  have b54 : Blk w4 z5 45 to.cs.toArray := Blk.kept (w := w3.drew) b53 k34 (by omega)
  have b64 : Blk w4 z6 45 c.cs.toArray := Blk.kept (w := w3.drew) b6 k34 (by omega)
  have kw : Kept (stkS ps (some ⟨g, 0, none⟩) Ar) w w4 := by
    rw [hz5] at hbw
    refine ((kept_below (stkS ps (some ⟨g, 0, none⟩) Ar) hbw.drew).next k34 (fun k e => .inl ?_))
    subst e
    exact .inr (.inl rfl)
  rw [← ew4]
  clear hz5 h3d k34 oc4 or4 box4 ew4 hth hcur b53 b6 h3 hbw hg c0 r5
  have c5 : w4.cell? ⟨z5, 0, none⟩ = some (.int .i64 to.s) := b54.cell 0
  have c6 : w4.cell? ⟨z6, 0, none⟩ = some (.int .i64 c.s) := b64.cell 0
  have hl4 := h4.lenR
  have hor := own_cap h4.or
  have hR0 := hR
  clear hR
  by_cases s0 : c.s = 0
  · have t0 : (c.s == 0) = true := by simpa using s0
    by_cases s1 : to.s = 0
    · have t1 : (to.s == 0) = true := by simpa using s1
      have e2 : R2 = R := by rw [eR2]; unfold row1; rw [if_neg (by simp [s1]), if_neg (by simp [s0])]
      subst e2
      clear eR2
      go_wp2
      go_end0
      exact ⟨rfl, _, _, _, h4, kw, fun _ h => .inl h⟩
    · have t1 : (to.s == 0) = false := by simpa using s1
      have e2 : R2 = R.tail := by rw [eR2]; unfold row1; rw [if_pos ⟨s0, s1⟩]
      subst e2
      clear eR2
      obtain ⟨q, eq⟩ : ∃ q, m = q + 1 := ⟨m - 1, by
        have := List.length_pos_iff.2 (hR0 s0 s1)
        omega⟩
      subst eq
      obtain ⟨gr, eAr, ⟨cur2, hcur2⟩, _, _⟩ := own_at int_len h4.or (i := 0) (x := (R.reverse)[0]'(by rw [List.length_reverse, hl4]; omega)) (List.getElem?_eq_getElem _) (by omega)
      subst eAr
      have c1 : w4.drew.cell? ⟨ps, 1, none⟩ = some (.slice (some ⟨gr, 0, none⟩) (q + 1) cr) := h4.box.cell 1
      have z1 : w4.drew.frozen? ⟨ps, 1, none⟩ = false := h4.box.free 1
      have hsl := cut_row (some ⟨gr, 0, none⟩) (q + 1) cr q (by omega)
      have hq : ((q + 1 : Nat) : Int) - 1 = (q : Int) := by omega
      have hq0 : (0 : Int) ≤ (q : Int) := by omega
      have hq1 : (q : Int) ≤ 6 := by omega
      go_wp2_with fail
      go_region
      go_wp2
      go_end0
      obtain ⟨H1, H2⟩ := set_pop h4 hl4
      exact ⟨rfl, _, cr, q, ⟨H1.box, H1.oc, H1.or⟩, kw.next (S' := fun g => g = ps) ⟨H2.os, H2.tape, H2.output, H2.size, H2.block⟩ (fun g hg => .inl (.inl hg)), fun _ h => .inl h⟩
  · have t0 : (c.s == 0) = false := by simpa using s0
    by_cases s1 : to.s = 0
    · have t1 : (to.s == 0) = true := by simpa using s1
      have e2 : R2 = k :: R := by rw [eR2]; unfold row1; rw [if_neg (by simp [s0]), if_pos ⟨s0, s1⟩]
      subst e2
      clear eR2
      obtain ⟨i0, hi, hz0, hz1, hz2⟩ := info_parts info3
      have c1 : w4.cell? ⟨ps, 1, none⟩ = some (.slice Ar m cr) := h4.box.cell 1
      have or5 : (w4.alloc (.cells #[.int .i64 k] 3)).ownsRow 0 3 1 (.slice Ar m cr) m (ints R.reverse) := h4.or.alloc _
      have HK := Lib.hid (push_box (k := k) h4)
      go_wp2_with (refine wpList_append_lies _ rfl _ _ 29 rfl 0 3 i0 (.int .i64 0) 1 8 Try.underlying29 hi hz0 hz1 hz2 rfl (by decide) (.slice Ar m cr) m (ints R.reverse) rfl or5 ⟨w4.heap.size, 0, none⟩ 1 1 [.int .i64 k] rfl rfl (World.news_of_block (cs := #[.int .i64 k]) (t := 3) (fr := (0, 0)) (heap_alloc_new w4 _)) (by simp [Value.oneCell']) (by decide) (by unfold maxLen; omega) (by omega) (Nat.zero_le _) (w4.heap.size + 1) (by simp) ?_; intro gg cp w5 hown hgrow hat hlt; have hbx := HK.out w5 hgrow; have d0 := hbx.cell 1; have d1 := hbx.free 1)
      go_end0
      obtain ⟨H1, H2, H3⟩ := set_push h4 k hgrow hown hat
      exact ⟨rfl, _, cp, m + 1, H1, kw.next H2 (fun g hg => .inl (hg.elim .inl (fun h => .inr (.inr h)))), fun g hg => (H3 g hg).elim .inl (fun h => .inr (Nat.le_trans kw.size h))⟩
    · have t1 : (to.s == 0) = false := by simpa using s1
      have e2 : R2 = R := by rw [eR2]; unfold row1; rw [if_neg (by simp [s0]), if_neg (by simp [s1])]
      subst e2
      clear eR2
      go_wp2
      go_end0
      exact ⟨rfl, _, _, _, h4, kw, fun _ h => .inl h⟩
end
end Go.Proofs.Ytdilmapcjmdabaa
