/- Any calls answer as a list would: the walk. Conditions: none. -/
import Derived.Test.YtclnkgoaenlhhaaAlive
namespace Go.Proofs.Ytclnkgoaenlhhaa
open Go.RowKit Go.Conc Go.ChangeShapes Go.WideShapes

/-- A call: of which kind, with which entry. -/
structure Opn where
  k : Int
  m : Ent
instance : Inhabited Opn := ⟨⟨0, noE⟩⟩
def Opn.cs (o : Opn) : List Value := .int .i64 o.k :: o.m.cs
theorem Opn.len (o : Opn) : o.cs.length = 9 := rfl
/-- The calls that came in. -/
def SeesO (w : World) (A : Option Addr) (n cap : Nat) (l : List Opn) : Prop := Sees w 9 A n cap (l.flatMap Opn.cs)
theorem SeesO.length {w : World} {A : Option Addr} {n cap : Nat} {l : List Opn} (h : SeesO w A n cap l) : l.length = n := by
  have := Sees.len h
  rw [flat_len Opn.len] at this
  omega
theorem SeesO.at_ {w : World} {A : Option Addr} {n cap : Nat} {l : List Opn} (h : SeesO w A n cap l) {k : Nat} (hk : k < n) : ∃ g o, A = some ⟨g, o, none⟩ ∧ w.rangeAt g (o + k * 9) (l.getD k default).cs := by
  have hl := h.length
  have hx : l[k]? = some (l.getD k default) := by simp [List.getD, List.getElem?_eq_getElem (show k < l.length by omega)]
  exact sees_at Opn.len h hx (by omega)
theorem SeesO.below {w w' : World} {A : Option Addr} {n cap : Nat} {l : List Opn} (h : SeesO w A n cap l) (hb : Below w.heap.size w w') : SeesO w' A n cap l := Sees.below h hb
theorem range_cut {w : World} {g o : Nat} {a : Value} {vs : List Value} (h : w.rangeAt g o (a :: vs)) : w.rangeAt g (o + 1) vs := fun j v hv => by
  rw [show o + 1 + j = o + (j + 1) by omega]
  exact h (j + 1) v (by simpa using hv)
theorem range_front {w : World} {g o : Nat} {vs ws : List Value} (h : w.rangeAt g o (vs ++ ws)) : w.rangeAt g o vs := fun j v hv =>
  h j v (by rw [List.getElem?_append_left (List.getElem?_eq_some_iff.1 hv).1]; exact hv)

/-- A buffer and the list that tells it, both made behind w. -/
structure Tells (w wr : World) (p c room : Nat) (v : Value) (xs : List Ent) : Prop where
  buf : Buf wr p c room xs
  own : ∃ A cp, v = .slice A xs.length cp ∧ Own wr w.heap.size A xs.length cp xs
  below : Below w.heap.size w wr
  far : w.heap.size ≤ c

set_option maxRecDepth 100000 in
set_option maxHeartbeats 8000000 in
theorem runs_walk (r : Int) (O : Option Addr) (n cap : Nat) (l : List Opn) (gen : Int) (w : World) (ho : SeesO w O n cap l) :
    Calls Try.prog 3 #[.int .i64 r, .slice O n cap, .int .i64 gen] w fun e w' => e = .returned (.bool true) ∧ Below w.heap.size w w' := by
  have hn63 : (n : Int) ≤ 9223372036854775807 := by have := Sees.room ho; have := Sees.most ho; unfold maxLen at this; omega
  go_enter Try.func3, Try.ntmps3
  go_wp2_with (first
    | (go_at_call 6; refine (alive_any _).mono ?_; rintro e w1 ⟨rfl, hb1⟩)
    | (go_at_call 7; refine (new_any r _).mono ?_; rintro e w2 ⟨p, c, rfl, hp2, hpp, hcc, hb2⟩)
    | (go_at_call 8; refine (near_any r _).mono ?_; rintro e w' ⟨rfl, rfl⟩))
  have HT : Tells w w2 p c (near r) (.slice none 0 0) [] := ⟨hp2, ⟨none, 0, rfl, Own.nil _ _⟩, hb1.trans (hb2.mono hb1.size), Nat.le_trans hb1.size hcc⟩
  clear hp2 hpp hcc hb2 hb1
  generalize near r = room at *
  go_loopw [8, 9] (fun v i wr => ∃ (k : Nat) (xs : List Ent), i = .int .i64 k ∧ k ≤ n ∧ k ≤ 60 ∧ Tells w wr p c room v xs) (fun _ i _ => 60 - (intOf i).toNat)
  case atStart => exact ⟨0, [], rfl, Nat.zero_le _, Nat.zero_le _, HT⟩
  case round =>
    obtain ⟨k, xs, rfl, hkn, hk60, HTr⟩ := hrel
    clear HT
    obtain ⟨A, cp, rfl, hown⟩ := HTr.own
    have hB := HTr.below.size
    have hcr : ∀ j, some c = some j → w.heap.size ≤ j := fun j hj => by injection hj with hj; rw [← hj]; exact HTr.far
    by_cases hk1 : k < n
    · by_cases hk2 : k < 60
      · have hk3 : (k : Int) < 60 := by omega
        have hkI : (k : Int) < (n : Int) := by omega
        have hk0 : (0 : Int) ≤ (k : Int) := by omega
        have hn0 : (0 : Int) < (n : Int) := by omega
        have hn1 : 0 < n := by omega
        obtain ⟨b, off, rfl, hr⟩ := SeesO.at_ ho hk1
        obtain ⟨b', off', eb, hr0⟩ := SeesO.at_ ho (show 0 < n by omega)
        injection eb with eb
        injection eb with e1 e2
        subst e1 e2
        rw [Nat.zero_mul, Nat.add_zero] at hr0
        have hbw : b < w.heap.size := Sees.lt ho b ⟨by omega, rfl⟩
        generalize l.getD k default = op at hr
        generalize l.getD 0 default = op0 at hr0
        obtain ⟨kd, m⟩ := op
        obtain ⟨kd0, m0⟩ := op0
        have hrW : ∀ W, Below w.heap.size w W → W.rangeAt b (off + k * 9) (Opn.cs ⟨kd, m⟩) := fun W hW j v hv => (hW.cell (p := ⟨b, off + k * 9 + j, none⟩) hbw).trans (hr j v hv)
        have hrW0 : ∀ W, Below w.heap.size w W → W.rangeAt b off (Opn.cs ⟨kd0, m0⟩) := fun W hW j v hv => (hW.cell (p := ⟨b, off + j, none⟩) hbw).trans (hr0 j v hv)
        have pm : ∀ W, Below w.heap.size w W → W.rangeAt b (off + k * 9 + 1) m.x.cs := fun W hW => range_front (ws := [.int .i64 m.v.n, .int .i64 m.v.c, .int .i64 m.v.g, .int .i64 m.g, .int .i64 m.p]) (range_cut (hrW W hW))
        have pm0 : ∀ W, Below w.heap.size w W → W.rangeAt b (off + 1) m0.x.cs := fun W hW => range_front (ws := [.int .i64 m0.v.n, .int .i64 m0.v.c, .int .i64 m0.v.g, .int .i64 m0.g, .int .i64 m0.p]) (range_cut (hrW0 W hW))
        have tS : ∀ W, Below w.heap.size w W → W.cell? ⟨b, off + k * 9 + 7, none⟩ = some (.int .i64 m.g) ∧ W.cell? ⟨b, off + k * 9 + 1 + 6, none⟩ = some (.int .i64 m.g) := fun W hW => ⟨hrW W hW 7 _ rfl, hrW W hW 7 _ rfl⟩
        have hrc := hrW wr HTr.below
        have c0 : wr.cell? ⟨b, off + k * 9, none⟩ = some (.int .i64 kd) := hrc 0 _ rfl
        have c1 : wr.cell? ⟨b, off + k * 9 + 1, none⟩ = some (.int .i64 m.x.k) := hrc 1 _ rfl
        have c2 : wr.cell? ⟨b, off + k * 9 + 2, none⟩ = some (.int .i64 m.x.i) := hrc 2 _ rfl
        have c3 : wr.cell? ⟨b, off + k * 9 + 3, none⟩ = some (.int .i64 m.x.j) := hrc 3 _ rfl
        have c4 : wr.cell? ⟨b, off + k * 9 + 4, none⟩ = some (.int .i64 m.v.n) := hrc 4 _ rfl
        have c5 : wr.cell? ⟨b, off + k * 9 + 5, none⟩ = some (.int .i64 m.v.c) := hrc 5 _ rfl
        have c6 : wr.cell? ⟨b, off + k * 9 + 6, none⟩ = some (.int .i64 m.v.g) := hrc 6 _ rfl
        have c7 : wr.cell? ⟨b, off + k * 9 + 7, none⟩ = some (.int .i64 m.g) := hrc 7 _ rfl
        have c8 : wr.cell? ⟨b, off + k * 9 + 8, none⟩ = some (.int .i64 m.p) := hrc 8 _ rfl
        clear hr hr0 hrc
        have hrn := run_any p c room A cp w.heap.size xs kd m wr HTr.buf hown hB
        go_wp2_with fail
        refine hrn.mono ?_
        rintro e w3 ⟨A3, cp3, rfl, H3⟩
        clear c0 c1 c2 c3 c4 c5 c6 c7 c8 hrn
        generalize stepN room xs kd m = ys at H3 ⊢
        have h3 := H3.buf
        have ho3 := H3.own
        have hB3 : Below w.heap.size w w3 := HTr.below.trans (H3.aside.below hB HTr.far (fun g hg => (hown.lt hg).1))
        have hfar := HTr.far
        clear HTr hown H3
        go_wp2_with fail
        have k0 : Below w.heap.size w w3.drew := hB3.drew
        have h4 : Buf w3.drew p c room ys := h3.below (Below.refl _ _).drew
        have ho4 : Own w3.drew w.heap.size A3 ys.length cp3 ys := ho3.below (Below.refl _ _).drew
        have ht1 := told_any p c room A3 cp3 w.heap.size ys m.x m.g w3.drew h4 ho4
        refine wp_region_noPanic ?_
        refine wp_region_held_drew (S := (fun W => Below w.heap.size w W)) (by kernel_rfl) k0 (fun hHeld => ?_)
        refine wpAnyH_take (i := 0) (oi := ⟨some 40, _, _, _, _, _⟩) (v := ?_) rfl (by kernel_rfl) (by kernel_rfl) (by kernel_rfl) (fun _ _ _ h => h) (Or.inl ⟨by rfl, ?_⟩) (by assumption) ?_
        rotate_left 1
        · (intro W hSw; go_simp <;> with_reducible rfl)
        try simp only [Act.put, List.setIfInBounds_toArray, List.set_cons_zero, List.set_cons_succ]
        refine wpAnyH_take (i := 1) (oi := ⟨some 41, _, _, _, _, _⟩) (v := ?_) rfl (by kernel_rfl) (by kernel_rfl) (by kernel_rfl) (fun _ _ _ h => h) (Or.inl ⟨by rfl, ?_⟩) (by assumption) ?_
        rotate_left 1
        · (intro W hSw; go_simp <;> with_reducible rfl)
        try simp only [Act.put, List.setIfInBounds_toArray, List.set_cons_zero, List.set_cons_succ]
        refine wpAnyH_take (i := 2) (oi := ⟨some 42, _, _, _, _, _⟩) (v := ?_) rfl (by kernel_rfl) (by kernel_rfl) (by kernel_rfl) (fun _ _ _ h => h) (Or.inl ⟨by rfl, ?_⟩) (by assumption) ?_
        rotate_left 1
        · (intro W hSw; go_simp <;> with_reducible rfl)
        try simp only [Act.put, List.setIfInBounds_toArray, List.set_cons_zero, List.set_cons_succ]
        refine wpAnyH_take (i := 3) (oi := ⟨some 43, _, _, _, _, _⟩) (v := ?_) rfl (by kernel_rfl) (by kernel_rfl) (by kernel_rfl) (fun _ _ _ h => h) (Or.inl ⟨by rfl, ?_⟩) (by assumption) ?_
        rotate_left 1
        · (intro W hSw; go_simp <;> with_reducible rfl)
        try simp only [Act.put, List.setIfInBounds_toArray, List.set_cons_zero, List.set_cons_succ]
        refine wpAnyH_take (i := 4) (oi := ⟨some 44, _, _, _, _, _⟩) (v := ?_) rfl (by kernel_rfl) (by kernel_rfl) (by kernel_rfl) (fun _ _ _ h => h) (Or.inl ⟨by rfl, ?_⟩) (by assumption) ?_
        rotate_left 1
        · (intro W hSw; go_simp <;> with_reducible rfl)
        try simp only [Act.put, List.setIfInBounds_toArray, List.set_cons_zero, List.set_cons_succ]
        refine wpAnyH_take (i := 5) (oi := ⟨some 45, _, _, _, _, _⟩) (v := ?_) rfl (by kernel_rfl) (by kernel_rfl) (by kernel_rfl) (fun _ _ _ h => h) (Or.inl ⟨by rfl, ?_⟩) (by assumption) ?_
        rotate_left 1
        · (intro W hSw; go_simp <;> with_reducible rfl)
        try simp only [Act.put, List.setIfInBounds_toArray, List.set_cons_zero, List.set_cons_succ]
        refine wpAnyH_take (i := 6) (oi := ⟨some 46, _, _, _, _, _⟩) (v := ?_) rfl (by kernel_rfl) (by kernel_rfl) (by kernel_rfl) (fun _ _ _ h => h) (Or.inl ⟨by rfl, ?_⟩) (by assumption) ?_
        rotate_left 1
        · (intro W hSw; go_simp <;> with_reducible rfl)
        try simp only [Act.put, List.setIfInBounds_toArray, List.set_cons_zero, List.set_cons_succ]
        refine wpAnyH_take (i := 7) (oi := ⟨some 47, _, _, _, _, _⟩) (v := ?_) rfl (by kernel_rfl) (by kernel_rfl) (by kernel_rfl) (fun _ _ _ h => h) (Or.inl ⟨by rfl, ?_⟩) (by assumption) ?_
        rotate_left 1
        · (intro W hSw; go_simp <;> with_reducible rfl)
        try simp only [Act.put, List.setIfInBounds_toArray, List.set_cons_zero, List.set_cons_succ]
        refine wpAnyH_take (i := 8) (oi := ⟨some 48, _, _, _, _, _⟩) (v := ?_) rfl (by kernel_rfl) (by kernel_rfl) (by kernel_rfl) (fun _ _ _ h => h) (Or.inl ⟨by rfl, ?_⟩) (by assumption) ?_
        rotate_left 1
        · (intro W hSw; go_simp <;> with_reducible rfl)
        try simp only [Act.put, List.setIfInBounds_toArray, List.set_cons_zero, List.set_cons_succ]
        refine wpAnyH_take (i := 9) (oi := ⟨some 49, _, _, _, _, _⟩) (v := ?_) rfl (by kernel_rfl) (by kernel_rfl) (by kernel_rfl) (fun _ _ _ h => h) (Or.inl ⟨by rfl, ?_⟩) (by assumption) ?_
        rotate_left 1
        · (intro W hSw; go_simp <;> with_reducible rfl)
        try simp only [Act.put, List.setIfInBounds_toArray, List.set_cons_zero, List.set_cons_succ]
        refine wpAnyH_take (i := 10) (oi := ⟨some 50, _, _, _, _, _⟩) (v := ?_) rfl (by kernel_rfl) (by kernel_rfl) (by kernel_rfl) (fun _ _ _ h => h) (Or.inl ⟨by rfl, ?_⟩) (by assumption) ?_
        rotate_left 1
        · (intro W hSw; go_simp <;> with_reducible rfl)
        try simp only [Act.put, List.setIfInBounds_toArray, List.set_cons_zero, List.set_cons_succ]
        refine wpAnyH_take (i := 11) (oi := ⟨some 51, _, _, _, _, _⟩) (v := .agg (List.toArray ([.int .i64 m.x.k, .int .i64 m.x.i, .int .i64 m.x.j]))) rfl (by kernel_rfl) (by kernel_rfl) (by kernel_rfl) (fun _ _ _ h => h) (yieldsIf_load_mid (by rfl) 31 (.tmp 50) rfl b (off + k * 9 + 1) rfl ([.int .i64 m.x.k, .int .i64 m.x.i, .int .i64 m.x.j]) _ (fun W hW => pm W hW) Try.underlying31 rfl (load31 m.x)) (by assumption) ?_
        try simp only [Act.put, List.setIfInBounds_toArray, List.set_cons_zero, List.set_cons_succ]
        refine wpAnyH_take (i := 12) (oi := ⟨some 52, _, _, _, _, _⟩) (v := ?_) rfl (by kernel_rfl) (by kernel_rfl) (by kernel_rfl) (fun _ _ _ h => h) (Or.inl ⟨by rfl, ?_⟩) (by assumption) ?_
        rotate_left 1
        · (intro W hSw; go_simp <;> with_reducible rfl)
        try simp only [Act.put, List.setIfInBounds_toArray, List.set_cons_zero, List.set_cons_succ]
        refine wpAnyH_take (i := 13) (oi := ⟨some 53, _, _, _, _, _⟩) (v := ?_) rfl (by kernel_rfl) (by kernel_rfl) (by kernel_rfl) (fun _ _ _ h => h) (Or.inl ⟨by rfl, ?_⟩) (by assumption) ?_
        rotate_left 1
        · (intro W hSw; go_simp <;> with_reducible rfl)
        try simp only [Act.put, List.setIfInBounds_toArray, List.set_cons_zero, List.set_cons_succ]
        refine wpAnyH_take (i := 14) (oi := ⟨some 54, _, _, _, _, _⟩) (v := ?_) rfl (by kernel_rfl) (by kernel_rfl) (by kernel_rfl) (fun _ _ _ h => h) (Or.inl ⟨by rfl, ?_⟩) (by assumption) ?_
        rotate_left 1
        · (intro W hSw; go_simp <;> with_reducible rfl)
        try simp only [Act.put, List.setIfInBounds_toArray, List.set_cons_zero, List.set_cons_succ]
        refine wpAnyH_take (i := 15) (oi := ⟨some 55, _, _, _, _, _⟩) (v := ?_) rfl (by kernel_rfl) (by kernel_rfl) (by kernel_rfl) (fun _ _ _ h => h) (Or.inl ⟨by rfl, ?_⟩) (by assumption) ?_
        rotate_left 1
        · (intro W hSw; go_simp <;> with_reducible rfl)
        try simp only [Act.put, List.setIfInBounds_toArray, List.set_cons_zero, List.set_cons_succ]
        refine wpAnyH_take (i := 16) (oi := ⟨some 56, _, _, _, _, _⟩) (v := ?_) rfl (by kernel_rfl) (by kernel_rfl) (by kernel_rfl) (fun _ _ _ h => h) (Or.inl ⟨by rfl, ?_⟩) (by assumption) ?_
        rotate_left 1
        · (intro W hSw; go_simp <;> with_reducible rfl)
        try simp only [Act.put, List.setIfInBounds_toArray, List.set_cons_zero, List.set_cons_succ]
        refine wpAnyH_take (i := 17) (oi := ⟨some 57, _, _, _, _, _⟩) (v := ?_) rfl (by kernel_rfl) (by kernel_rfl) (by kernel_rfl) (fun _ _ _ h => h) (Or.inl ⟨by rfl, ?_⟩) (by assumption) ?_
        rotate_left 1
        · (intro W hSw; obtain ⟨f0, f1⟩ := tS W hSw; go_simp <;> with_reducible rfl)
        try simp only [Act.put, List.setIfInBounds_toArray, List.set_cons_zero, List.set_cons_succ]
        refine wpAnyH_ready (rs := [18]) (by kernel_rfl) (by simp) ?_
        refine AllReadyH.cons rfl (fun K hK => ?_) AllReadyH.nil
        go_simp
        refine (ht1).mono ?_
        rintro e W5 ⟨rfl, h5, hg5⟩
        have hKeep5 : Below w.heap.size w W5 := k0.grown hg5 (by have := k0.size; omega) hcr
        have hKeep := hKeep5
        have ho5 := ho4.kept hg5 (ho4.chan h4.holds)
        refine hK.out _ _ ?_ (fun hHeld1 => ?_)
        · exact hKeep
        clear hHeld hK K hKeep
        try simp only [Act.put, List.setIfInBounds_toArray, List.set_cons_zero, List.set_cons_succ]
        refine wpAnyH_take (i := 19) (oi := ⟨some 59, _, _, _, _, _⟩) (v := ?_) rfl (by kernel_rfl) (by kernel_rfl) (by kernel_rfl) (fun _ _ _ h => h) (Or.inl ⟨by rfl, ?_⟩) (by assumption) ?_
        rotate_left 1
        · (intro W hSw; go_simp <;> with_reducible rfl)
        try simp only [Act.put, List.setIfInBounds_toArray, List.set_cons_zero, List.set_cons_succ]
        refine wpAnyH_take (i := 20) (oi := ⟨some 60, _, _, _, _, _⟩) (v := ?_) rfl (by kernel_rfl) (by kernel_rfl) (by kernel_rfl) (fun _ _ _ h => h) (Or.inl ⟨by rfl, ?_⟩) (by assumption) ?_
        rotate_left 1
        · (intro W hSw; go_simp <;> with_reducible rfl)
        try simp only [Act.put, List.setIfInBounds_toArray, List.set_cons_zero, List.set_cons_succ]
        refine wpAnyH_take (i := 21) (oi := ⟨some 61, _, _, _, _, _⟩) (v := ?_) rfl (by kernel_rfl) (by kernel_rfl) (by kernel_rfl) (fun _ _ _ h => h) (Or.inl ⟨by rfl, ?_⟩) (by assumption) ?_
        rotate_left 1
        · (intro W hSw; go_simp <;> with_reducible rfl)
        try simp only [Act.put, List.setIfInBounds_toArray, List.set_cons_zero, List.set_cons_succ]
        refine wpAnyH_take (i := 22) (oi := ⟨some 62, _, _, _, _, _⟩) (v := ?_) rfl (by kernel_rfl) (by kernel_rfl) (by kernel_rfl) (fun _ _ _ h => h) (Or.inl ⟨by rfl, ?_⟩) (by assumption) ?_
        rotate_left 1
        · (intro W hSw; go_simp <;> with_reducible rfl)
        try simp only [Act.put, List.setIfInBounds_toArray, List.set_cons_zero, List.set_cons_succ]
        refine wpAnyH_take (i := 23) (oi := ⟨some 63, _, _, _, _, _⟩) (v := ?_) rfl (by kernel_rfl) (by kernel_rfl) (by kernel_rfl) (fun _ _ _ h => h) (Or.inl ⟨by rfl, ?_⟩) (by assumption) ?_
        rotate_left 1
        · (intro W hSw; go_simp <;> with_reducible rfl)
        try simp only [Act.put, List.setIfInBounds_toArray, List.set_cons_zero, List.set_cons_succ]
        refine wpAnyH_take (i := 24) (oi := ⟨some 64, _, _, _, _, _⟩) (v := ?_) rfl (by kernel_rfl) (by kernel_rfl) (by kernel_rfl) (fun _ _ _ h => h) (Or.inl ⟨by rfl, ?_⟩) (by assumption) ?_
        rotate_left 1
        · (intro W hSw; go_simp <;> with_reducible rfl)
        try simp only [Act.put, List.setIfInBounds_toArray, List.set_cons_zero, List.set_cons_succ]
        refine wpAnyH_take (i := 25) (oi := ⟨some 65, _, _, _, _, _⟩) (v := ?_) rfl (by kernel_rfl) (by kernel_rfl) (by kernel_rfl) (fun _ _ _ h => h) (Or.inl ⟨by rfl, ?_⟩) (by assumption) ?_
        rotate_left 1
        · (intro W hSw; go_simp <;> with_reducible rfl)
        try simp only [Act.put, List.setIfInBounds_toArray, List.set_cons_zero, List.set_cons_succ]
        refine wpAnyH_take (i := 26) (oi := ⟨some 66, _, _, _, _, _⟩) (v := ?_) rfl (by kernel_rfl) (by kernel_rfl) (by kernel_rfl) (fun _ _ _ h => h) (Or.inl ⟨by rfl, ?_⟩) (by assumption) ?_
        rotate_left 1
        · (intro W hSw; go_simp <;> with_reducible rfl)
        try simp only [Act.put, List.setIfInBounds_toArray, List.set_cons_zero, List.set_cons_succ]
        refine wpAnyH_take (i := 27) (oi := ⟨some 67, _, _, _, _, _⟩) (v := ?_) rfl (by kernel_rfl) (by kernel_rfl) (by kernel_rfl) (fun _ _ _ h => h) (Or.inl ⟨by rfl, ?_⟩) (by assumption) ?_
        rotate_left 1
        · (intro W hSw; go_simp <;> with_reducible rfl)
        try simp only [Act.put, List.setIfInBounds_toArray, List.set_cons_zero, List.set_cons_succ]
        refine wpAnyH_take (i := 28) (oi := ⟨some 68, _, _, _, _, _⟩) (v := ?_) rfl (by kernel_rfl) (by kernel_rfl) (by kernel_rfl) (fun _ _ _ h => h) (Or.inl ⟨by rfl, ?_⟩) (by assumption) ?_
        rotate_left 1
        · (intro W hSw; go_simp <;> with_reducible rfl)
        try simp only [Act.put, List.setIfInBounds_toArray, List.set_cons_zero, List.set_cons_succ]
        refine wpAnyH_take (i := 29) (oi := ⟨some 69, _, _, _, _, _⟩) (v := .agg (List.toArray ([.int .i64 m0.x.k, .int .i64 m0.x.i, .int .i64 m0.x.j]))) rfl (by kernel_rfl) (by kernel_rfl) (by kernel_rfl) (fun _ _ _ h => h) (yieldsIf_load_mid (by rfl) 31 (.tmp 68) rfl b (off + 1) rfl ([.int .i64 m0.x.k, .int .i64 m0.x.i, .int .i64 m0.x.j]) _ (fun W hW => pm0 W hW) Try.underlying31 rfl (load31 m0.x)) (by assumption) ?_
        try simp only [Act.put, List.setIfInBounds_toArray, List.set_cons_zero, List.set_cons_succ]
        refine wpAnyH_take (i := 30) (oi := ⟨some 70, _, _, _, _, _⟩) (v := ?_) rfl (by kernel_rfl) (by kernel_rfl) (by kernel_rfl) (fun _ _ _ h => h) (Or.inl ⟨by rfl, ?_⟩) (by assumption) ?_
        rotate_left 1
        · (intro W hSw; go_simp <;> with_reducible rfl)
        try simp only [Act.put, List.setIfInBounds_toArray, List.set_cons_zero, List.set_cons_succ]
        refine wpAnyH_ready (rs := [31]) (by kernel_rfl) (by simp) ?_
        refine AllReadyH.cons rfl (fun K hK => ?_) AllReadyH.nil
        go_simp
        refine (told_any p c room A3 cp3 w.heap.size ys m0.x gen W5 h5 ho5).mono ?_
        rintro e W6 ⟨rfl, h6, hg6⟩
        have hKeep6 : Below w.heap.size w W6 := hKeep5.grown hg6 (by have := hKeep5.size; omega) hcr
        have hKeep := hKeep6
        have ho6 := ho5.kept hg6 (ho5.chan h5.holds)
        refine hK.out _ _ ?_ (fun hHeld2 => ?_)
        · exact hKeep
        clear hHeld1 hK K
        try simp only [Act.put, List.setIfInBounds_toArray, List.set_cons_zero, List.set_cons_succ]
        refine wpAnyH_take (i := 32) (oi := ⟨some 72, _, _, _, _, _⟩) (v := ?_) rfl (by kernel_rfl) (by kernel_rfl) (by kernel_rfl) (fun _ _ _ h => h) (Or.inl ⟨by rfl, ?_⟩) (by assumption) ?_
        rotate_left 1
        · (intro W hSw; go_simp <;> with_reducible rfl)
        try simp only [Act.put, List.setIfInBounds_toArray, List.set_cons_zero, List.set_cons_succ]
        refine wpAnyH_take (i := 33) (oi := ⟨some 73, _, _, _, _, _⟩) (v := ?_) rfl (by kernel_rfl) (by kernel_rfl) (by kernel_rfl) (fun _ _ _ h => h) (Or.inl ⟨by rfl, ?_⟩) (by assumption) ?_
        rotate_left 1
        · (intro W hSw; go_simp <;> with_reducible rfl)
        try simp only [Act.put, List.setIfInBounds_toArray, List.set_cons_zero, List.set_cons_succ]
        refine wpAnyH_done (by kernel_rfl) ?_ _
        refine NoPanic.normal ?_
        have HT6 : Tells w W6 p c room (.slice A3 ys.length cp3) ys := ⟨h6, ⟨A3, cp3, rfl, ho6⟩, hKeep6, hfar⟩
        clear h3 ho3 hB3 k0 h4 ho4 ht1 h5 hg5 ho5 h6 hg6 ho6 hKeep5 hKeep6 tS pm pm0 hrW hrW0
        go_wp2
        go_roundw
        case rel => exact ⟨k + 1, ys, by go_num, by omega, by omega, HT6⟩
        case measure => simp [intOf]; omega
      · obtain rfl : k = 60 := by omega
        have ht := told_any p c room A cp w.heap.size xs ⟨0, 0, 0⟩ gen wr HTr.buf hown
        go_wp2_with fail
        refine ht.mono ?_
        rintro e w4 ⟨rfl, h4, hg4⟩
        go_wp2
        go_ret
        exact ⟨rfl, HTr.below.grown hg4 hB hcr⟩
    · obtain rfl : k = n := by omega
      have ht := told_any p c room A cp w.heap.size xs ⟨0, 0, 0⟩ gen wr HTr.buf hown
      go_wp2_with fail
      refine ht.mono ?_
      rintro e w4 ⟨rfl, h4, hg4⟩
      go_wp2
      go_ret
      exact ⟨rfl, HTr.below.grown hg4 hB hcr⟩
end Go.Proofs.Ytclnkgoaenlhhaa
