/- States held against each other, whatever they hold. Conditions: none. -/
import Derived.Test.YtfmkmmmaoiepmaaSame
import Derived.Test.YtfmkmmmaoiepmaaRef
namespace Go.Proofs.Ytfmkmmmaoiepmaa
set_option linter.unusedSimpArgs false
set_option linter.unusedVariables false
open Go.RowKit Go.ChangeShapes Go.WideShapes

theorem sc_iff (a b : Sc) : a.con = b.con ↔ a.th.map Tc.con = b.th.map Tc.con ∧ a.bu = b.bu ∧ a.ro = b.ro ∧ a.sl = b.sl ∧ a.ce = b.ce ∧ a.fr = b.fr ∧ a.ep = b.ep ∧ a.ma = b.ma ∧ a.co = b.co := by
  simp only [Sc.con, Prod.mk.injEq]
instance (a b : Sc) : Decidable (a.con = b.con) := decidable_of_iff _ (sc_iff a b).symm
def Sc.like (a b : Sc) : Bool := decide (a.con = b.con)
theorem rest_iff {a b : Sc} (h1 : a.th.map Tc.con = b.th.map Tc.con) (h2 : a.bu = b.bu) : a.con = b.con ↔ a.ro = b.ro ∧ a.sl = b.sl ∧ a.ce = b.ce ∧ a.fr = b.fr ∧ a.ep = b.ep ∧ a.ma = b.ma ∧ a.co = b.co := by
  rw [sc_iff]
  exact ⟨fun h => h.2.2, fun h => ⟨h1, h2, h⟩⟩
theorem kept_range {w w' : World} {g o : Nat} {vs : List Value} (h : w.rangeAt g o vs) (hk : Kept (fun _ => False) w w') : w'.rangeAt g o vs := range_on h (hk.under _ (Nat.le_refl _) (fun _ h => h.elim))
theorem kept_cell' {w w' : World} {g o : Nat} {v : Value} (h : w.cell? ⟨g, o, none⟩ = some v) (hk : Kept (fun _ => False) w w') : w'.cell? ⟨g, o, none⟩ = some v := ((hk.under _ (Nat.le_refl _) (fun _ h => h.elim)).cell (World.block_lt_of_cell? _ _ h)).trans h
theorem map_take {α β : Type} {f : α → β} {l m : List α} {k : Nat} {x y : α} (hl : l.take (k + 1) = l.take k ++ [x]) (hm : m.take (k + 1) = m.take k ++ [y]) (h : (l.take k).map f = (m.take k).map f) (e : f x = f y) : (l.take (k + 1)).map f = (m.take (k + 1)).map f := by
  rw [hl, hm, List.map_append, List.map_append, h, List.map_singleton, List.map_singleton, e]
theorem map_end {α β : Type} {f : α → β} {l m : List α} {k n : Nat} (h1 : l.length = n) (h2 : m.length = n) (hk : ¬ k < n) (h : (l.take k).map f = (m.take k).map f) : l.map f = m.map f := by
  rwa [take_all h1 hk, take_all h2 hk] at h
theorem map_get {α β : Type} {f : α → β} {l m : List α} (d : α) (k : Nat) (hk : k < l.length) (hm : k < m.length) (h : l.map f = m.map f) : f (l.getD k d) = f (m.getD k d) := by
  have := congrArg (fun q => q[k]?) h
  simpa [List.getD, List.getElem?_eq_getElem hk, List.getElem?_eq_getElem hm] using this
set_option maxRecDepth 100000 in
set_option maxHeartbeats 4000000 in
theorem state_eq (s s2 : St) (c c2 : Sc) (bl bl2 : List Bu) (w : World) (hr : Stat w s c bl) (hr2 : Stat w s2 c2 bl2) : Calls Try.prog 20 #[.agg s.cs.toArray, .agg s2.cs.toArray] w fun e w' => e = .returned (.bool (c.like c2)) ∧ Below w.heap.size w w' := by
  have L1 := Lib.hid hr.th.len
  have L2 := Lib.hid hr2.th.len
  have M1 := Lib.hid hr.bu.len
  have M2 := Lib.hid hr2.bu.len
  have HR := Lib.hid hr
  have HR2 := Lib.hid hr2
  have mx1 := Sees.most hr.th.sees
  have mx2 := Sees.most hr2.th.sees
  have mx3 := Sees.most hr.bu.sees
  have mx4 := Sees.most hr2.bu.sees
  have rm1 := Sees.room hr.th.sees
  have rm2 := Sees.room hr2.th.sees
  have rm3 := Sees.room hr.bu.sees
  have rm4 := Sees.room hr2.bu.sees
  unfold maxLen at mx1 mx2 mx3 mx4
  obtain ⟨p1, f1⟩ : ∃ p, w.heap.size = p := ⟨_, rfl⟩
  obtain ⟨W1, ea1⟩ : ∃ W, w.alloc (.cells s.cs.toArray 29) = W := ⟨_, rfl⟩
  have ka1 : Below w.heap.size w W1 := by rw [← ea1]; exact (Below.refl _ w).alloc (Nat.le_refl _) _
  have b1 : Blk W1 p1 29 s.cs.toArray := by rw [← ea1]; exact blk_new w _ 29 _ f1
  have kk : Below w.heap.size w W1 := ka1
  have hp1 : w.heap.size ≤ p1 := Nat.le_of_eq f1
  clear ka1
  obtain ⟨p2, f2⟩ : ∃ p, W1.heap.size = p := ⟨_, rfl⟩
  obtain ⟨W2, ea2⟩ : ∃ W, W1.alloc (.cells s2.cs.toArray 29) = W := ⟨_, rfl⟩
  have ka2 : Below W1.heap.size W1 W2 := by rw [← ea2]; exact (Below.refl _ W1).alloc (Nat.le_refl _) _
  have b2 : Blk W2 p2 29 s2.cs.toArray := by rw [← ea2]; exact blk_new W1 _ 29 _ f2
  have q1_2 : p1 < p2 := by rw [← f2]; exact b1.lt
  replace b1 := b1.on ka2
  have kk0 := kk
  replace kk := kk.trans (ka2.mono kk.size)
  have hp2 : w.heap.size ≤ p2 := by rw [← f2]; exact kk0.size
  clear ka2 kk0
  have c2_1_0 : W2.cell? ⟨p1, 0, none⟩ = some (.slice s.th.A s.th.n s.th.cap) := b1.cell 0
  have c2_2_0 : W2.cell? ⟨p2, 0, none⟩ = some (.slice s2.th.A s2.th.n s2.th.cap) := b2.cell 0
  have c2_1_1 : W2.cell? ⟨p1, 1, none⟩ = some (.slice s.bu.A s.bu.n s.bu.cap) := b1.cell 1
  have c2_2_1 : W2.cell? ⟨p2, 1, none⟩ = some (.slice s2.bu.A s2.bu.n s2.bu.cap) := b2.cell 1
  by_cases hn : s.th.n = s2.th.n
  rotate_left 1
  · have HD := Lib.hid (show c.like c2 = false from decide_eq_false fun e => hn (by rw [← L1.out, ← L2.out]; simpa using congrArg List.length ((sc_iff c c2).1 e).1))
    have t1 : ((s.th.n : Int) != (s2.th.n : Int)) = true := by simp; omega
    clear hn
    go_enter Try.func20, Try.ntmps20
    go_wp2_with fail
    go_ret
    first | exact ⟨by rw [HD.out]; try rfl, kk⟩ | (rw [f1] at kk; exact ⟨by rw [HD.out]; try rfl, kk⟩)
  have t1 : ((s.th.n : Int) != (s2.th.n : Int)) = false := by simp; omega
  by_cases hm : s.bu.n = s2.bu.n
  rotate_left 1
  · have HD := Lib.hid (show c.like c2 = false from decide_eq_false fun e => hm (by rw [← M1.out, ← M2.out]; have h := ((sc_iff c c2).1 e).2.1; rw [HR.out.eb, HR2.out.eb] at h; simpa using congrArg List.length h))
    have t2 : ((s.bu.n : Int) != (s2.bu.n : Int)) = true := by simp; omega
    clear hn hm
    go_enter Try.func20, Try.ntmps20
    go_wp2_with fail
    go_ret
    first | exact ⟨by rw [HD.out]; try rfl, kk⟩ | (rw [f1] at kk; exact ⟨by rw [HD.out]; try rfl, kk⟩)
  have t2 : ((s.bu.n : Int) != (s2.bu.n : Int)) = false := by simp; omega
  have HN := Lib.hid hn
  have HM := Lib.hid hm
  clear hn hm
  go_enter Try.func20, Try.ntmps20
  go_wp2
  clear t1 t2 c2_1_0 c2_2_0 c2_1_1 c2_2_1
  go_loopw [5] (fun i wr => ∃ k : Nat, k ≤ s.th.n ∧ i = .int .i64 k ∧ (c.th.take k).map Tc.con = (c2.th.take k).map Tc.con ∧ Blk wr p1 29 s.cs.toArray ∧ Blk wr p2 29 s2.cs.toArray ∧ Below w.heap.size w wr) (fun i _ => s.th.n - (intOf i).toNat)
  case atStart => exact ⟨0, Nat.zero_le _, rfl, rfl, b1, b2, by first | exact kk | (rw [f1]; exact kk) | (rw [f1] at kk; exact kk)⟩
  case round =>
    clear b1 b2 kk
    obtain ⟨k, hk, rfl, hp, b1, b2, kk⟩ := hrel
    have HP := Lib.hid hp
    clear hp
    have hr := HR.out.on kk
    have hr2 := HR2.out.on kk
    by_cases hlt : k < s.th.n
    · have hlt2 : k < s2.th.n := by have := HN.out; omega
      have hkI : (k : Int) < (s.th.n : Int) := by omega
      have hkJ : (k : Int) < (s2.th.n : Int) := by omega
      have hk0 : (0 : Int) ≤ (k : Int) := by omega
      have ca : wr.cell? ⟨p1, 0, none⟩ = some (.slice s.th.A s.th.n s.th.cap) := b1.cell 0
      go_wp2_with fail
      clear ca
      obtain ⟨wd, ed⟩ : ∃ W, wr.drew = W := ⟨_, rfl⟩
      have hd : Below wr.heap.size wr wd := by rw [← ed]; exact (Below.refl _ _).drew
      replace b1 := b1.on hd
      replace b2 := b2.on hd
      replace kk := kk.trans (hd.mono kk.size)
      replace hr := hr.on hd
      replace hr2 := hr2.on hd
      clear hd
      have kS : Kept (fun g => False) wd wd := Kept.refl _ _
      obtain ⟨g, o, eA, c0⟩ := hr.th.get hlt
      obtain ⟨g', o', eB, d0⟩ := hr2.th.get hlt2
      have EA := Lib.hid eA
      have EB := Lib.hid eB
      clear eA eB
      have HT := Lib.hid (take_get c.th noTc (show k < c.th.length by rw [L1.out]; exact hlt))
      have HU := Lib.hid (take_get c2.th noTc (show k < c2.th.length by rw [L2.out]; exact hlt2))
      have hx := getD_mem (show k < c.th.length by rw [L1.out]; exact hlt) noTc
      have hy := getD_mem (show k < c2.th.length by rw [L2.out]; exact hlt2) noTc
      have HE := Lib.hid (map_get (f := Tc.con) noTc k (show k < c.th.length by rw [L1.out]; exact hlt) (show k < c2.th.length by rw [L2.out]; exact hlt2))
      generalize c.th.getD k noTc = x at c0 HT HE hx
      generalize c2.th.getD k noTc = y at d0 HU HE hy
      have tS : ∀ W, Kept (fun g => False) wd W → W.cell? ⟨p1, 0, none⟩ = some (.slice (some ⟨g, o, none⟩) s.th.n s.th.cap) ∧ W.cell? ⟨p2, 0, none⟩ = some (.slice (some ⟨g', o', none⟩) s2.th.n s2.th.cap) := fun W hW => ⟨by rw [← EA.out]; exact (b1.kept hW (fun h => h)).cell 0, by rw [← EB.out]; exact (b2.kept hW (fun h => h)).cell 0⟩
      by_cases e : Tc.con x = Tc.con y
      · have d1 : Calls Try.prog 34 #[.agg x.x.cs.toArray, .agg y.x.cs.toArray] wd fun e w' => e = .returned (.bool true) ∧ Below wd.heap.size wd w' := by
          have := thread_eq x y wd (hr.th.reads x hx) (hr2.th.reads y hy)
          rwa [decide_eq_true e] at this
        refine wp_region_noPanic ?_
        refine wp_region_held_drew (S := (fun W => Kept (fun g => False) wd W)) (by kernel_rfl) (by rw [ed]; exact kS) (fun hHeld => ?_)
        rw [ed] at hHeld ⊢
        refine wpAnyH_take (i := 0) (oi := ⟨some 30, _, _, _, _, _⟩) (v := ?_) rfl (by kernel_rfl) (by kernel_rfl) (by kernel_rfl) (fun _ _ _ h => h) (Or.inl ⟨by rfl, ?_⟩) (by assumption) ?_
        rotate_left 1
        · (intro W hSw; go_simp <;> with_reducible rfl)
        try simp only [Act.put, List.setIfInBounds_toArray, List.set_cons_zero, List.set_cons_succ]
        refine wpAnyH_take (i := 1) (oi := ⟨some 31, _, _, _, _, _⟩) (v := ?_) rfl (by kernel_rfl) (by kernel_rfl) (by kernel_rfl) (fun _ _ _ h => h) (Or.inl ⟨by rfl, ?_⟩) (by assumption) ?_
        rotate_left 1
        · (intro W hSw; obtain ⟨q0, q1⟩ := tS W hSw; go_simp <;> with_reducible rfl)
        try simp only [Act.put, List.setIfInBounds_toArray, List.set_cons_zero, List.set_cons_succ]
        refine wpAnyH_take (i := 2) (oi := ⟨some 32, _, _, _, _, _⟩) (v := ?_) rfl (by kernel_rfl) (by kernel_rfl) (by kernel_rfl) (fun _ _ _ h => h) (Or.inl ⟨by rfl, ?_⟩) (by assumption) ?_
        rotate_left 1
        · (intro W hSw; go_simp <;> with_reducible rfl)
        try simp only [Act.put, List.setIfInBounds_toArray, List.set_cons_zero, List.set_cons_succ]
        refine wpAnyH_take (i := 3) (oi := ⟨some 33, _, _, _, _, _⟩) (v := ?_) rfl (by kernel_rfl) (by kernel_rfl) (by kernel_rfl) (fun _ _ _ h => h) (Or.inl ⟨by rfl, ?_⟩) (by assumption) ?_
        rotate_left 1
        · (intro W hSw; go_simp <;> with_reducible rfl)
        try simp only [Act.put, List.setIfInBounds_toArray, List.set_cons_zero, List.set_cons_succ]
        refine wpAnyH_take (i := 4) (oi := ⟨some 34, _, _, _, _, _⟩) (v := .agg (List.toArray (x.x.cs))) rfl (by kernel_rfl) (by kernel_rfl) (by kernel_rfl) (fun _ _ _ h => h) (yieldsIf_load_mid (by rfl) 41 (.tmp 33) rfl g (o + k * 22) rfl (x.x.cs) _ (fun W hW => kept_range c0 hW) Try.underlying41 rfl size41) (by assumption) ?_
        try simp only [Act.put, List.setIfInBounds_toArray, List.set_cons_zero, List.set_cons_succ]
        refine wpAnyH_take (i := 5) (oi := ⟨some 35, _, _, _, _, _⟩) (v := ?_) rfl (by kernel_rfl) (by kernel_rfl) (by kernel_rfl) (fun _ _ _ h => h) (Or.inl ⟨by rfl, ?_⟩) (by assumption) ?_
        rotate_left 1
        · (intro W hSw; go_simp <;> with_reducible rfl)
        try simp only [Act.put, List.setIfInBounds_toArray, List.set_cons_zero, List.set_cons_succ]
        refine wpAnyH_take (i := 6) (oi := ⟨some 36, _, _, _, _, _⟩) (v := ?_) rfl (by kernel_rfl) (by kernel_rfl) (by kernel_rfl) (fun _ _ _ h => h) (Or.inl ⟨by rfl, ?_⟩) (by assumption) ?_
        rotate_left 1
        · (intro W hSw; obtain ⟨q0, q1⟩ := tS W hSw; go_simp <;> with_reducible rfl)
        try simp only [Act.put, List.setIfInBounds_toArray, List.set_cons_zero, List.set_cons_succ]
        refine wpAnyH_take (i := 7) (oi := ⟨some 37, _, _, _, _, _⟩) (v := ?_) rfl (by kernel_rfl) (by kernel_rfl) (by kernel_rfl) (fun _ _ _ h => h) (Or.inl ⟨by rfl, ?_⟩) (by assumption) ?_
        rotate_left 1
        · (intro W hSw; go_simp <;> with_reducible rfl)
        try simp only [Act.put, List.setIfInBounds_toArray, List.set_cons_zero, List.set_cons_succ]
        refine wpAnyH_take (i := 8) (oi := ⟨some 38, _, _, _, _, _⟩) (v := ?_) rfl (by kernel_rfl) (by kernel_rfl) (by kernel_rfl) (fun _ _ _ h => h) (Or.inl ⟨by rfl, ?_⟩) (by assumption) ?_
        rotate_left 1
        · (intro W hSw; go_simp <;> with_reducible rfl)
        try simp only [Act.put, List.setIfInBounds_toArray, List.set_cons_zero, List.set_cons_succ]
        refine wpAnyH_take (i := 9) (oi := ⟨some 39, _, _, _, _, _⟩) (v := .agg (List.toArray (y.x.cs))) rfl (by kernel_rfl) (by kernel_rfl) (by kernel_rfl) (fun _ _ _ h => h) (yieldsIf_load_mid (by rfl) 41 (.tmp 38) rfl g' (o' + k * 22) rfl (y.x.cs) _ (fun W hW => kept_range d0 hW) Try.underlying41 rfl size41) (by assumption) ?_
        try simp only [Act.put, List.setIfInBounds_toArray, List.set_cons_zero, List.set_cons_succ]
        refine wpAnyH_ready (rs := [10]) (by kernel_rfl) (by simp) ?_
        refine AllReadyH.cons (o := ⟨some 40, _, _, _, _, _⟩) rfl (fun K hK => ?_) AllReadyH.nil
        go_simp
        refine (d1).mono ?_
        rintro e w1 ⟨rfl, hb1⟩
        have b1_1 := b1.on hb1
        have b2_1 := b2.on hb1
        have kk_1 := kk.trans (hb1.mono kk.size)
        have S1 : (fun W => Kept (fun g => False) wd W) w1 := Kept.next kS (kept_below (fun _ => False) hb1) (fun _ h => h.elim)
        refine hK.out _ _ S1 (fun h1 => ?_)
        clear hHeld hK K
        try simp only [Act.put, List.setIfInBounds_toArray, List.set_cons_zero, List.set_cons_succ]
        refine wpAnyH_take (i := 11) (oi := ⟨some 41, _, _, _, _, _⟩) (v := ?_) rfl (by kernel_rfl) (by kernel_rfl) (by kernel_rfl) (fun _ _ _ h => h) (Or.inl ⟨by rfl, ?_⟩) (by assumption) ?_
        rotate_left 1
        · (intro W hSw; go_simp <;> with_reducible rfl)
        try simp only [Act.put, List.setIfInBounds_toArray, List.set_cons_zero, List.set_cons_succ]
        refine wpAnyH_done (by kernel_rfl) ?_ _
        refine NoPanic.normal ?_
        go_wp2
        go_roundw
        case rel => exact ⟨k + 1, by omega, by go_num, map_take HT.out HU.out HP.out e, b1_1, b2_1, kk_1⟩
        case measure => simp [intOf]; omega
      · have d1 : Calls Try.prog 34 #[.agg x.x.cs.toArray, .agg y.x.cs.toArray] wd fun e w' => e = .returned (.bool false) ∧ Below wd.heap.size wd w' := by
          have := thread_eq x y wd (hr.th.reads x hx) (hr2.th.reads y hy)
          rwa [decide_eq_false e] at this
        have HD := Lib.hid (show c.like c2 = false from decide_eq_false fun q => e (HE.out (((sc_iff c c2).1 q).1)))
        refine wp_region_noPanic ?_
        refine wp_region_held_drew (S := (fun W => Kept (fun g => False) wd W)) (by kernel_rfl) (by rw [ed]; exact kS) (fun hHeld => ?_)
        rw [ed] at hHeld ⊢
        refine wpAnyH_take (i := 0) (oi := ⟨some 30, _, _, _, _, _⟩) (v := ?_) rfl (by kernel_rfl) (by kernel_rfl) (by kernel_rfl) (fun _ _ _ h => h) (Or.inl ⟨by rfl, ?_⟩) (by assumption) ?_
        rotate_left 1
        · (intro W hSw; go_simp <;> with_reducible rfl)
        try simp only [Act.put, List.setIfInBounds_toArray, List.set_cons_zero, List.set_cons_succ]
        refine wpAnyH_take (i := 1) (oi := ⟨some 31, _, _, _, _, _⟩) (v := ?_) rfl (by kernel_rfl) (by kernel_rfl) (by kernel_rfl) (fun _ _ _ h => h) (Or.inl ⟨by rfl, ?_⟩) (by assumption) ?_
        rotate_left 1
        · (intro W hSw; obtain ⟨q0, q1⟩ := tS W hSw; go_simp <;> with_reducible rfl)
        try simp only [Act.put, List.setIfInBounds_toArray, List.set_cons_zero, List.set_cons_succ]
        refine wpAnyH_take (i := 2) (oi := ⟨some 32, _, _, _, _, _⟩) (v := ?_) rfl (by kernel_rfl) (by kernel_rfl) (by kernel_rfl) (fun _ _ _ h => h) (Or.inl ⟨by rfl, ?_⟩) (by assumption) ?_
        rotate_left 1
        · (intro W hSw; go_simp <;> with_reducible rfl)
        try simp only [Act.put, List.setIfInBounds_toArray, List.set_cons_zero, List.set_cons_succ]
        refine wpAnyH_take (i := 3) (oi := ⟨some 33, _, _, _, _, _⟩) (v := ?_) rfl (by kernel_rfl) (by kernel_rfl) (by kernel_rfl) (fun _ _ _ h => h) (Or.inl ⟨by rfl, ?_⟩) (by assumption) ?_
        rotate_left 1
        · (intro W hSw; go_simp <;> with_reducible rfl)
        try simp only [Act.put, List.setIfInBounds_toArray, List.set_cons_zero, List.set_cons_succ]
        refine wpAnyH_take (i := 4) (oi := ⟨some 34, _, _, _, _, _⟩) (v := .agg (List.toArray (x.x.cs))) rfl (by kernel_rfl) (by kernel_rfl) (by kernel_rfl) (fun _ _ _ h => h) (yieldsIf_load_mid (by rfl) 41 (.tmp 33) rfl g (o + k * 22) rfl (x.x.cs) _ (fun W hW => kept_range c0 hW) Try.underlying41 rfl size41) (by assumption) ?_
        try simp only [Act.put, List.setIfInBounds_toArray, List.set_cons_zero, List.set_cons_succ]
        refine wpAnyH_take (i := 5) (oi := ⟨some 35, _, _, _, _, _⟩) (v := ?_) rfl (by kernel_rfl) (by kernel_rfl) (by kernel_rfl) (fun _ _ _ h => h) (Or.inl ⟨by rfl, ?_⟩) (by assumption) ?_
        rotate_left 1
        · (intro W hSw; go_simp <;> with_reducible rfl)
        try simp only [Act.put, List.setIfInBounds_toArray, List.set_cons_zero, List.set_cons_succ]
        refine wpAnyH_take (i := 6) (oi := ⟨some 36, _, _, _, _, _⟩) (v := ?_) rfl (by kernel_rfl) (by kernel_rfl) (by kernel_rfl) (fun _ _ _ h => h) (Or.inl ⟨by rfl, ?_⟩) (by assumption) ?_
        rotate_left 1
        · (intro W hSw; obtain ⟨q0, q1⟩ := tS W hSw; go_simp <;> with_reducible rfl)
        try simp only [Act.put, List.setIfInBounds_toArray, List.set_cons_zero, List.set_cons_succ]
        refine wpAnyH_take (i := 7) (oi := ⟨some 37, _, _, _, _, _⟩) (v := ?_) rfl (by kernel_rfl) (by kernel_rfl) (by kernel_rfl) (fun _ _ _ h => h) (Or.inl ⟨by rfl, ?_⟩) (by assumption) ?_
        rotate_left 1
        · (intro W hSw; go_simp <;> with_reducible rfl)
        try simp only [Act.put, List.setIfInBounds_toArray, List.set_cons_zero, List.set_cons_succ]
        refine wpAnyH_take (i := 8) (oi := ⟨some 38, _, _, _, _, _⟩) (v := ?_) rfl (by kernel_rfl) (by kernel_rfl) (by kernel_rfl) (fun _ _ _ h => h) (Or.inl ⟨by rfl, ?_⟩) (by assumption) ?_
        rotate_left 1
        · (intro W hSw; go_simp <;> with_reducible rfl)
        try simp only [Act.put, List.setIfInBounds_toArray, List.set_cons_zero, List.set_cons_succ]
        refine wpAnyH_take (i := 9) (oi := ⟨some 39, _, _, _, _, _⟩) (v := .agg (List.toArray (y.x.cs))) rfl (by kernel_rfl) (by kernel_rfl) (by kernel_rfl) (fun _ _ _ h => h) (yieldsIf_load_mid (by rfl) 41 (.tmp 38) rfl g' (o' + k * 22) rfl (y.x.cs) _ (fun W hW => kept_range d0 hW) Try.underlying41 rfl size41) (by assumption) ?_
        try simp only [Act.put, List.setIfInBounds_toArray, List.set_cons_zero, List.set_cons_succ]
        refine wpAnyH_ready (rs := [10]) (by kernel_rfl) (by simp) ?_
        refine AllReadyH.cons (o := ⟨some 40, _, _, _, _, _⟩) rfl (fun K hK => ?_) AllReadyH.nil
        go_simp
        refine (d1).mono ?_
        rintro e w1 ⟨rfl, hb1⟩
        have b1_1 := b1.on hb1
        have b2_1 := b2.on hb1
        have kk_1 := kk.trans (hb1.mono kk.size)
        have S1 : (fun W => Kept (fun g => False) wd W) w1 := Kept.next kS (kept_below (fun _ => False) hb1) (fun _ h => h.elim)
        refine hK.out _ _ S1 (fun h1 => ?_)
        clear hHeld hK K
        try simp only [Act.put, List.setIfInBounds_toArray, List.set_cons_zero, List.set_cons_succ]
        refine wpAnyH_take (i := 11) (oi := ⟨some 41, _, _, _, _, _⟩) (v := ?_) rfl (by kernel_rfl) (by kernel_rfl) (by kernel_rfl) (fun _ _ _ h => h) (Or.inl ⟨by rfl, ?_⟩) (by assumption) ?_
        rotate_left 1
        · (intro W hSw; go_simp <;> with_reducible rfl)
        try simp only [Act.put, List.setIfInBounds_toArray, List.set_cons_zero, List.set_cons_succ]
        refine wpAnyH_done (by kernel_rfl) ?_ _
        refine NoPanic.normal ?_
        go_wp2
        go_ret
        have kz := kk_1
        first | exact ⟨by rw [HD.out]; try rfl, kz⟩ | (rw [f1] at kz; exact ⟨by rw [HD.out]; try rfl, kz⟩)
    · have E5 := Lib.hid (map_end L1.out (by rw [HN.out]; exact L2.out) hlt HP.out)
      have hkI : ¬ (k : Int) < (s.th.n : Int) := by omega
      have ca : wr.cell? ⟨p1, 0, none⟩ = some (.slice s.th.A s.th.n s.th.cap) := b1.cell 0
      go_wp2
      clear ca hr hr2
      go_loopw [6] (fun i wr => ∃ k : Nat, k ≤ s.bu.n ∧ i = .int .i64 k ∧ (bl.take k).map Prod.snd = (bl2.take k).map Prod.snd ∧ Blk wr p1 29 s.cs.toArray ∧ Blk wr p2 29 s2.cs.toArray ∧ Below w.heap.size w wr) (fun i _ => s.bu.n - (intOf i).toNat)
      case atStart => exact ⟨0, Nat.zero_le _, rfl, rfl, b1, b2, by first | exact kk | (rw [f1]; exact kk) | (rw [f1] at kk; exact kk)⟩
      case round =>
        clear b1 b2 kk
        obtain ⟨k, hk, rfl, hp, b1, b2, kk⟩ := hrel
        have HP := Lib.hid hp
        clear hp
        have hr := HR.out.on kk
        have hr2 := HR2.out.on kk
        by_cases hlt : k < s.bu.n
        · have hlt2 : k < s2.bu.n := by have := HM.out; omega
          have hkI : (k : Int) < (s.bu.n : Int) := by omega
          have hkJ : (k : Int) < (s2.bu.n : Int) := by omega
          have hk0 : (0 : Int) ≤ (k : Int) := by omega
          have ca : wr.cell? ⟨p1, 1, none⟩ = some (.slice s.bu.A s.bu.n s.bu.cap) := b1.cell 1
          go_wp2_with fail
          clear ca
          obtain ⟨wd, ed⟩ : ∃ W, wr.drew = W := ⟨_, rfl⟩
          have hd : Below wr.heap.size wr wd := by rw [← ed]; exact (Below.refl _ _).drew
          replace b1 := b1.on hd
          replace b2 := b2.on hd
          replace kk := kk.trans (hd.mono kk.size)
          replace hr := hr.on hd
          replace hr2 := hr2.on hd
          clear hd
          have kS : Kept (fun g => False) wd wd := Kept.refl _ _
          obtain ⟨g, o, eA, c0⟩ := hr.bu.get hlt
          obtain ⟨g', o', eB, d0⟩ := hr2.bu.get hlt2
          have EA := Lib.hid eA
          have EB := Lib.hid eB
          clear eA eB
          have HT := Lib.hid (take_get bl noBu (show k < bl.length by rw [M1.out]; exact hlt))
          have HU := Lib.hid (take_get bl2 noBu (show k < bl2.length by rw [M2.out]; exact hlt2))
          have hx := getD_mem (show k < bl.length by rw [M1.out]; exact hlt) noBu
          have hy := getD_mem (show k < bl2.length by rw [M2.out]; exact hlt2) noBu
          have HE := Lib.hid (map_get (f := Prod.snd) noBu k (show k < bl.length by rw [M1.out]; exact hlt) (show k < bl2.length by rw [M2.out]; exact hlt2))
          generalize bl.getD k noBu = x at c0 HT HE hx
          generalize bl2.getD k noBu = y at d0 HU HE hy
          have tS : ∀ W, Kept (fun g => False) wd W → W.cell? ⟨p1, 1, none⟩ = some (.slice (some ⟨g, o, none⟩) s.bu.n s.bu.cap) ∧ W.cell? ⟨p2, 1, none⟩ = some (.slice (some ⟨g', o', none⟩) s2.bu.n s2.bu.cap) ∧ W.cell? ⟨g, o + k, none⟩ = some (.slice x.1.A x.1.n x.1.cap) ∧ W.cell? ⟨g', o' + k, none⟩ = some (.slice y.1.A y.1.n y.1.cap) := fun W hW => ⟨by rw [← EA.out]; exact (b1.kept hW (fun h => h)).cell 1, by rw [← EB.out]; exact (b2.kept hW (fun h => h)).cell 1, kept_cell' c0 hW, kept_cell' d0 hW⟩
          by_cases e : Prod.snd x = Prod.snd y
          · have d1 : Calls Try.prog 35 #[.slice x.1.A x.1.n x.1.cap, .slice y.1.A y.1.n y.1.cap] wd fun e w' => e = .returned (.bool true) ∧ Below wd.heap.size wd w' := by
              have := ents_eq x.1.A y.1.A x.1.n y.1.n x.1.cap y.1.cap x.2 y.2 wd (hr.bu.reads x hx) (hr2.bu.reads y hy)
              rwa [decide_eq_true e] at this
            refine wp_region_noPanic ?_
            refine wp_region_held_drew (S := (fun W => Kept (fun g => False) wd W)) (by kernel_rfl) (by rw [ed]; exact kS) (fun hHeld => ?_)
            rw [ed] at hHeld ⊢
            refine wpAnyH_take (i := 0) (oi := ⟨some 49, _, _, _, _, _⟩) (v := ?_) rfl (by kernel_rfl) (by kernel_rfl) (by kernel_rfl) (fun _ _ _ h => h) (Or.inl ⟨by rfl, ?_⟩) (by assumption) ?_
            rotate_left 1
            · (intro W hSw; go_simp <;> with_reducible rfl)
            try simp only [Act.put, List.setIfInBounds_toArray, List.set_cons_zero, List.set_cons_succ]
            refine wpAnyH_take (i := 1) (oi := ⟨some 50, _, _, _, _, _⟩) (v := ?_) rfl (by kernel_rfl) (by kernel_rfl) (by kernel_rfl) (fun _ _ _ h => h) (Or.inl ⟨by rfl, ?_⟩) (by assumption) ?_
            rotate_left 1
            · (intro W hSw; obtain ⟨q0, q1, q2, q3⟩ := tS W hSw; go_simp <;> with_reducible rfl)
            try simp only [Act.put, List.setIfInBounds_toArray, List.set_cons_zero, List.set_cons_succ]
            refine wpAnyH_take (i := 2) (oi := ⟨some 51, _, _, _, _, _⟩) (v := ?_) rfl (by kernel_rfl) (by kernel_rfl) (by kernel_rfl) (fun _ _ _ h => h) (Or.inl ⟨by rfl, ?_⟩) (by assumption) ?_
            rotate_left 1
            · (intro W hSw; go_simp <;> with_reducible rfl)
            try simp only [Act.put, List.setIfInBounds_toArray, List.set_cons_zero, List.set_cons_succ]
            refine wpAnyH_take (i := 3) (oi := ⟨some 52, _, _, _, _, _⟩) (v := ?_) rfl (by kernel_rfl) (by kernel_rfl) (by kernel_rfl) (fun _ _ _ h => h) (Or.inl ⟨by rfl, ?_⟩) (by assumption) ?_
            rotate_left 1
            · (intro W hSw; go_simp <;> with_reducible rfl)
            try simp only [Act.put, List.setIfInBounds_toArray, List.set_cons_zero, List.set_cons_succ]
            refine wpAnyH_take (i := 4) (oi := ⟨some 53, _, _, _, _, _⟩) (v := ?_) rfl (by kernel_rfl) (by kernel_rfl) (by kernel_rfl) (fun _ _ _ h => h) (Or.inl ⟨by rfl, ?_⟩) (by assumption) ?_
            rotate_left 1
            · (intro W hSw; obtain ⟨q0, q1, q2, q3⟩ := tS W hSw; go_simp <;> with_reducible rfl)
            try simp only [Act.put, List.setIfInBounds_toArray, List.set_cons_zero, List.set_cons_succ]
            refine wpAnyH_take (i := 5) (oi := ⟨some 54, _, _, _, _, _⟩) (v := ?_) rfl (by kernel_rfl) (by kernel_rfl) (by kernel_rfl) (fun _ _ _ h => h) (Or.inl ⟨by rfl, ?_⟩) (by assumption) ?_
            rotate_left 1
            · (intro W hSw; go_simp <;> with_reducible rfl)
            try simp only [Act.put, List.setIfInBounds_toArray, List.set_cons_zero, List.set_cons_succ]
            refine wpAnyH_take (i := 6) (oi := ⟨some 55, _, _, _, _, _⟩) (v := ?_) rfl (by kernel_rfl) (by kernel_rfl) (by kernel_rfl) (fun _ _ _ h => h) (Or.inl ⟨by rfl, ?_⟩) (by assumption) ?_
            rotate_left 1
            · (intro W hSw; obtain ⟨q0, q1, q2, q3⟩ := tS W hSw; go_simp <;> with_reducible rfl)
            try simp only [Act.put, List.setIfInBounds_toArray, List.set_cons_zero, List.set_cons_succ]
            refine wpAnyH_take (i := 7) (oi := ⟨some 56, _, _, _, _, _⟩) (v := ?_) rfl (by kernel_rfl) (by kernel_rfl) (by kernel_rfl) (fun _ _ _ h => h) (Or.inl ⟨by rfl, ?_⟩) (by assumption) ?_
            rotate_left 1
            · (intro W hSw; go_simp <;> with_reducible rfl)
            try simp only [Act.put, List.setIfInBounds_toArray, List.set_cons_zero, List.set_cons_succ]
            refine wpAnyH_take (i := 8) (oi := ⟨some 57, _, _, _, _, _⟩) (v := ?_) rfl (by kernel_rfl) (by kernel_rfl) (by kernel_rfl) (fun _ _ _ h => h) (Or.inl ⟨by rfl, ?_⟩) (by assumption) ?_
            rotate_left 1
            · (intro W hSw; go_simp <;> with_reducible rfl)
            try simp only [Act.put, List.setIfInBounds_toArray, List.set_cons_zero, List.set_cons_succ]
            refine wpAnyH_take (i := 9) (oi := ⟨some 58, _, _, _, _, _⟩) (v := ?_) rfl (by kernel_rfl) (by kernel_rfl) (by kernel_rfl) (fun _ _ _ h => h) (Or.inl ⟨by rfl, ?_⟩) (by assumption) ?_
            rotate_left 1
            · (intro W hSw; obtain ⟨q0, q1, q2, q3⟩ := tS W hSw; go_simp <;> with_reducible rfl)
            try simp only [Act.put, List.setIfInBounds_toArray, List.set_cons_zero, List.set_cons_succ]
            refine wpAnyH_ready (rs := [10]) (by kernel_rfl) (by simp) ?_
            refine AllReadyH.cons (o := ⟨some 59, _, _, _, _, _⟩) rfl (fun K hK => ?_) AllReadyH.nil
            go_simp
            refine (d1).mono ?_
            rintro e w1 ⟨rfl, hb1⟩
            have b1_1 := b1.on hb1
            have b2_1 := b2.on hb1
            have kk_1 := kk.trans (hb1.mono kk.size)
            have S1 : (fun W => Kept (fun g => False) wd W) w1 := Kept.next kS (kept_below (fun _ => False) hb1) (fun _ h => h.elim)
            refine hK.out _ _ S1 (fun h1 => ?_)
            clear hHeld hK K
            try simp only [Act.put, List.setIfInBounds_toArray, List.set_cons_zero, List.set_cons_succ]
            refine wpAnyH_take (i := 11) (oi := ⟨some 60, _, _, _, _, _⟩) (v := ?_) rfl (by kernel_rfl) (by kernel_rfl) (by kernel_rfl) (fun _ _ _ h => h) (Or.inl ⟨by rfl, ?_⟩) (by assumption) ?_
            rotate_left 1
            · (intro W hSw; go_simp <;> with_reducible rfl)
            try simp only [Act.put, List.setIfInBounds_toArray, List.set_cons_zero, List.set_cons_succ]
            refine wpAnyH_done (by kernel_rfl) ?_ _
            refine NoPanic.normal ?_
            go_wp2
            go_roundw
            case rel => exact ⟨k + 1, by omega, by go_num, map_take HT.out HU.out HP.out e, b1_1, b2_1, kk_1⟩
            case measure => simp [intOf]; omega
          · have d1 : Calls Try.prog 35 #[.slice x.1.A x.1.n x.1.cap, .slice y.1.A y.1.n y.1.cap] wd fun e w' => e = .returned (.bool false) ∧ Below wd.heap.size wd w' := by
              have := ents_eq x.1.A y.1.A x.1.n y.1.n x.1.cap y.1.cap x.2 y.2 wd (hr.bu.reads x hx) (hr2.bu.reads y hy)
              rwa [decide_eq_false e] at this
            have HD := Lib.hid (show c.like c2 = false from decide_eq_false fun q => e (HE.out (by rw [← HR.out.eb, ← HR2.out.eb]; exact ((sc_iff c c2).1 q).2.1)))
            refine wp_region_noPanic ?_
            refine wp_region_held_drew (S := (fun W => Kept (fun g => False) wd W)) (by kernel_rfl) (by rw [ed]; exact kS) (fun hHeld => ?_)
            rw [ed] at hHeld ⊢
            refine wpAnyH_take (i := 0) (oi := ⟨some 49, _, _, _, _, _⟩) (v := ?_) rfl (by kernel_rfl) (by kernel_rfl) (by kernel_rfl) (fun _ _ _ h => h) (Or.inl ⟨by rfl, ?_⟩) (by assumption) ?_
            rotate_left 1
            · (intro W hSw; go_simp <;> with_reducible rfl)
            try simp only [Act.put, List.setIfInBounds_toArray, List.set_cons_zero, List.set_cons_succ]
            refine wpAnyH_take (i := 1) (oi := ⟨some 50, _, _, _, _, _⟩) (v := ?_) rfl (by kernel_rfl) (by kernel_rfl) (by kernel_rfl) (fun _ _ _ h => h) (Or.inl ⟨by rfl, ?_⟩) (by assumption) ?_
            rotate_left 1
            · (intro W hSw; obtain ⟨q0, q1, q2, q3⟩ := tS W hSw; go_simp <;> with_reducible rfl)
            try simp only [Act.put, List.setIfInBounds_toArray, List.set_cons_zero, List.set_cons_succ]
            refine wpAnyH_take (i := 2) (oi := ⟨some 51, _, _, _, _, _⟩) (v := ?_) rfl (by kernel_rfl) (by kernel_rfl) (by kernel_rfl) (fun _ _ _ h => h) (Or.inl ⟨by rfl, ?_⟩) (by assumption) ?_
            rotate_left 1
            · (intro W hSw; go_simp <;> with_reducible rfl)
            try simp only [Act.put, List.setIfInBounds_toArray, List.set_cons_zero, List.set_cons_succ]
            refine wpAnyH_take (i := 3) (oi := ⟨some 52, _, _, _, _, _⟩) (v := ?_) rfl (by kernel_rfl) (by kernel_rfl) (by kernel_rfl) (fun _ _ _ h => h) (Or.inl ⟨by rfl, ?_⟩) (by assumption) ?_
            rotate_left 1
            · (intro W hSw; go_simp <;> with_reducible rfl)
            try simp only [Act.put, List.setIfInBounds_toArray, List.set_cons_zero, List.set_cons_succ]
            refine wpAnyH_take (i := 4) (oi := ⟨some 53, _, _, _, _, _⟩) (v := ?_) rfl (by kernel_rfl) (by kernel_rfl) (by kernel_rfl) (fun _ _ _ h => h) (Or.inl ⟨by rfl, ?_⟩) (by assumption) ?_
            rotate_left 1
            · (intro W hSw; obtain ⟨q0, q1, q2, q3⟩ := tS W hSw; go_simp <;> with_reducible rfl)
            try simp only [Act.put, List.setIfInBounds_toArray, List.set_cons_zero, List.set_cons_succ]
            refine wpAnyH_take (i := 5) (oi := ⟨some 54, _, _, _, _, _⟩) (v := ?_) rfl (by kernel_rfl) (by kernel_rfl) (by kernel_rfl) (fun _ _ _ h => h) (Or.inl ⟨by rfl, ?_⟩) (by assumption) ?_
            rotate_left 1
            · (intro W hSw; go_simp <;> with_reducible rfl)
            try simp only [Act.put, List.setIfInBounds_toArray, List.set_cons_zero, List.set_cons_succ]
            refine wpAnyH_take (i := 6) (oi := ⟨some 55, _, _, _, _, _⟩) (v := ?_) rfl (by kernel_rfl) (by kernel_rfl) (by kernel_rfl) (fun _ _ _ h => h) (Or.inl ⟨by rfl, ?_⟩) (by assumption) ?_
            rotate_left 1
            · (intro W hSw; obtain ⟨q0, q1, q2, q3⟩ := tS W hSw; go_simp <;> with_reducible rfl)
            try simp only [Act.put, List.setIfInBounds_toArray, List.set_cons_zero, List.set_cons_succ]
            refine wpAnyH_take (i := 7) (oi := ⟨some 56, _, _, _, _, _⟩) (v := ?_) rfl (by kernel_rfl) (by kernel_rfl) (by kernel_rfl) (fun _ _ _ h => h) (Or.inl ⟨by rfl, ?_⟩) (by assumption) ?_
            rotate_left 1
            · (intro W hSw; go_simp <;> with_reducible rfl)
            try simp only [Act.put, List.setIfInBounds_toArray, List.set_cons_zero, List.set_cons_succ]
            refine wpAnyH_take (i := 8) (oi := ⟨some 57, _, _, _, _, _⟩) (v := ?_) rfl (by kernel_rfl) (by kernel_rfl) (by kernel_rfl) (fun _ _ _ h => h) (Or.inl ⟨by rfl, ?_⟩) (by assumption) ?_
            rotate_left 1
            · (intro W hSw; go_simp <;> with_reducible rfl)
            try simp only [Act.put, List.setIfInBounds_toArray, List.set_cons_zero, List.set_cons_succ]
            refine wpAnyH_take (i := 9) (oi := ⟨some 58, _, _, _, _, _⟩) (v := ?_) rfl (by kernel_rfl) (by kernel_rfl) (by kernel_rfl) (fun _ _ _ h => h) (Or.inl ⟨by rfl, ?_⟩) (by assumption) ?_
            rotate_left 1
            · (intro W hSw; obtain ⟨q0, q1, q2, q3⟩ := tS W hSw; go_simp <;> with_reducible rfl)
            try simp only [Act.put, List.setIfInBounds_toArray, List.set_cons_zero, List.set_cons_succ]
            refine wpAnyH_ready (rs := [10]) (by kernel_rfl) (by simp) ?_
            refine AllReadyH.cons (o := ⟨some 59, _, _, _, _, _⟩) rfl (fun K hK => ?_) AllReadyH.nil
            go_simp
            refine (d1).mono ?_
            rintro e w1 ⟨rfl, hb1⟩
            have b1_1 := b1.on hb1
            have b2_1 := b2.on hb1
            have kk_1 := kk.trans (hb1.mono kk.size)
            have S1 : (fun W => Kept (fun g => False) wd W) w1 := Kept.next kS (kept_below (fun _ => False) hb1) (fun _ h => h.elim)
            refine hK.out _ _ S1 (fun h1 => ?_)
            clear hHeld hK K
            try simp only [Act.put, List.setIfInBounds_toArray, List.set_cons_zero, List.set_cons_succ]
            refine wpAnyH_take (i := 11) (oi := ⟨some 60, _, _, _, _, _⟩) (v := ?_) rfl (by kernel_rfl) (by kernel_rfl) (by kernel_rfl) (fun _ _ _ h => h) (Or.inl ⟨by rfl, ?_⟩) (by assumption) ?_
            rotate_left 1
            · (intro W hSw; go_simp <;> with_reducible rfl)
            try simp only [Act.put, List.setIfInBounds_toArray, List.set_cons_zero, List.set_cons_succ]
            refine wpAnyH_done (by kernel_rfl) ?_ _
            refine NoPanic.normal ?_
            go_wp2
            go_ret
            have kz := kk_1
            first | exact ⟨by rw [HD.out]; try rfl, kz⟩ | (rw [f1] at kz; exact ⟨by rw [HD.out]; try rfl, kz⟩)
        · have E6 := Lib.hid (map_end M1.out (by rw [HM.out]; exact M2.out) hlt HP.out)
          have hkI : ¬ (k : Int) < (s.bu.n : Int) := by omega
          have ca : wr.cell? ⟨p1, 1, none⟩ = some (.slice s.bu.A s.bu.n s.bu.cap) := b1.cell 1
          have E0 := Lib.hid (show c.bu = c2.bu by rw [HR.out.eb, HR2.out.eb]; exact E6.out)
          have hi := Lib.hid (rest_iff E5.out E0.out)
          have h := hr
          have h2 := hr2
          have kw : Below wr.heap.size wr wr := Below.refl _ _
          by_cases c_ro : c.ro = c2.ro
          · by_cases c_sl : c.sl = c2.sl
            · by_cases c_ce : c.ce = c2.ce
              · by_cases c_fr : c.fr = c2.fr
                · by_cases c_ep : c.ep = c2.ep
                  · by_cases c_ma : c.ma = c2.ma
                    · by_cases c_co : c.co = c2.co
                      · have HD := Lib.hid (show c.like c2 = true from decide_eq_true (hi.out.2 ⟨c_ro, c_sl, c_ce, c_fr, c_ep, c_ma, c_co⟩))
                        have t_ep : (s.ep == s2.ep) = true := by rw [h.sh.ep, h2.sh.ep]; simpa using c_ep
                        have c80_1_2 : wr.cell? ⟨p1, 2, none⟩ = some (.slice s.ro.A s.ro.n s.ro.cap) := b1.cell 2
                        have c80_2_2 : wr.cell? ⟨p2, 2, none⟩ = some (.slice s2.ro.A s2.ro.n s2.ro.cap) := b2.cell 2
                        have dd := words_eq s.ro.A s2.ro.A s.ro.n s2.ro.n s.ro.cap s2.ro.cap c.ro c2.ro wr (h.sh.on kw).ro (h2.sh.on kw).ro
                        rw [decide_eq_true c_ro] at dd
                        go_wp2_with fail
                        refine dd.mono ?_
                        rintro e W81 ⟨rfl, k1⟩
                        clear c80_1_2 c80_2_2
                        replace b1 := b1.on k1
                        replace b2 := b2.on k1
                        replace kk := kk.trans (k1.mono kk.size)
                        replace kw := kw.trans (k1.mono kw.size)
                        clear k1 dd
                        have c81_1_3 : W81.cell? ⟨p1, 3, none⟩ = some (.slice s.sl.A s.sl.n s.sl.cap) := b1.cell 3
                        have c81_2_3 : W81.cell? ⟨p2, 3, none⟩ = some (.slice s2.sl.A s2.sl.n s2.sl.cap) := b2.cell 3
                        have dd := words_eq s.sl.A s2.sl.A s.sl.n s2.sl.n s.sl.cap s2.sl.cap c.sl c2.sl W81 (h.sh.on kw).sl (h2.sh.on kw).sl
                        rw [decide_eq_true c_sl] at dd
                        go_wp2_with fail
                        refine dd.mono ?_
                        rintro e W82 ⟨rfl, k1⟩
                        clear c81_1_3 c81_2_3
                        replace b1 := b1.on k1
                        replace b2 := b2.on k1
                        replace kk := kk.trans (k1.mono kk.size)
                        replace kw := kw.trans (k1.mono kw.size)
                        clear k1 dd
                        have c82_1_4 : W82.cell? ⟨p1, 4, none⟩ = some (.slice s.ce.A s.ce.n s.ce.cap) := b1.cell 4
                        have c82_2_4 : W82.cell? ⟨p2, 4, none⟩ = some (.slice s2.ce.A s2.ce.n s2.ce.cap) := b2.cell 4
                        have dd := cells_eq s.ce.A s2.ce.A s.ce.n s2.ce.n s.ce.cap s2.ce.cap c.ce c2.ce W82 (h.sh.on kw).ce (h2.sh.on kw).ce
                        rw [decide_eq_true c_ce] at dd
                        go_wp2_with fail
                        refine dd.mono ?_
                        rintro e W83 ⟨rfl, k1⟩
                        clear c82_1_4 c82_2_4
                        replace b1 := b1.on k1
                        replace b2 := b2.on k1
                        replace kk := kk.trans (k1.mono kk.size)
                        replace kw := kw.trans (k1.mono kw.size)
                        clear k1 dd
                        have c83_1_5 : W83.cell? ⟨p1, 5, none⟩ = some (.slice s.fr.A s.fr.n s.fr.cap) := b1.cell 5
                        have c83_2_5 : W83.cell? ⟨p2, 5, none⟩ = some (.slice s2.fr.A s2.fr.n s2.fr.cap) := b2.cell 5
                        have dd := ints_eq s.fr.A s2.fr.A s.fr.n s2.fr.n s.fr.cap s2.fr.cap c.fr c2.fr W83 (h.sh.on kw).fr (h2.sh.on kw).fr
                        rw [decide_eq_true c_fr] at dd
                        go_wp2_with fail
                        refine dd.mono ?_
                        rintro e W84 ⟨rfl, k1⟩
                        clear c83_1_5 c83_2_5
                        replace b1 := b1.on k1
                        replace b2 := b2.on k1
                        replace kk := kk.trans (k1.mono kk.size)
                        replace kw := kw.trans (k1.mono kw.size)
                        clear k1 dd
                        have c84_1_6 : W84.cell? ⟨p1, 6, none⟩ = some (.int .i64 s.ep) := b1.cell 6
                        have c84_2_6 : W84.cell? ⟨p2, 6, none⟩ = some (.int .i64 s2.ep) := b2.cell 6
                        have c84_1_7 : W84.cell? ⟨p1, 7, none⟩ = some (.slice s.ma.A s.ma.n s.ma.cap) := b1.cell 7
                        have c84_2_7 : W84.cell? ⟨p2, 7, none⟩ = some (.slice s2.ma.A s2.ma.n s2.ma.cap) := b2.cell 7
                        have dd := nums_eq s.ma.A s2.ma.A s.ma.n s2.ma.n s.ma.cap s2.ma.cap c.ma c2.ma W84 (h.sh.on kw).ma (h2.sh.on kw).ma
                        rw [decide_eq_true c_ma] at dd
                        go_wp2_with fail
                        refine dd.mono ?_
                        rintro e W85 ⟨rfl, k1⟩
                        clear c84_1_6 c84_2_6 c84_1_7 c84_2_7
                        replace b1 := b1.on k1
                        replace b2 := b2.on k1
                        replace kk := kk.trans (k1.mono kk.size)
                        replace kw := kw.trans (k1.mono kw.size)
                        clear k1 dd
                        have c85_1_8 : W85.cell? ⟨p1, 8, none⟩ = some (.slice s.co.A s.co.n s.co.cap) := b1.cell 8
                        have c85_2_8 : W85.cell? ⟨p2, 8, none⟩ = some (.slice s2.co.A s2.co.n s2.co.cap) := b2.cell 8
                        have dd := nums_eq s.co.A s2.co.A s.co.n s2.co.n s.co.cap s2.co.cap c.co c2.co W85 (h.sh.on kw).co (h2.sh.on kw).co
                        rw [decide_eq_true c_co] at dd
                        go_wp2_with fail
                        refine dd.mono ?_
                        rintro e W86 ⟨rfl, k1⟩
                        clear c85_1_8 c85_2_8
                        replace b1 := b1.on k1
                        replace b2 := b2.on k1
                        replace kk := kk.trans (k1.mono kk.size)
                        replace kw := kw.trans (k1.mono kw.size)
                        clear k1 dd
                        go_wp2_with fail
                        go_ret
                        first | exact ⟨by rw [HD.out]; try rfl, kk⟩ | (rw [f1] at kk; exact ⟨by rw [HD.out]; try rfl, kk⟩)
                      · have HD := Lib.hid (show c.like c2 = false from decide_eq_false fun e => c_co ((hi.out.1 e).2.2.2.2.2.2))
                        have t_ep : (s.ep == s2.ep) = true := by rw [h.sh.ep, h2.sh.ep]; simpa using c_ep
                        have c80_1_2 : wr.cell? ⟨p1, 2, none⟩ = some (.slice s.ro.A s.ro.n s.ro.cap) := b1.cell 2
                        have c80_2_2 : wr.cell? ⟨p2, 2, none⟩ = some (.slice s2.ro.A s2.ro.n s2.ro.cap) := b2.cell 2
                        have dd := words_eq s.ro.A s2.ro.A s.ro.n s2.ro.n s.ro.cap s2.ro.cap c.ro c2.ro wr (h.sh.on kw).ro (h2.sh.on kw).ro
                        rw [decide_eq_true c_ro] at dd
                        go_wp2_with fail
                        refine dd.mono ?_
                        rintro e W81 ⟨rfl, k1⟩
                        clear c80_1_2 c80_2_2
                        replace b1 := b1.on k1
                        replace b2 := b2.on k1
                        replace kk := kk.trans (k1.mono kk.size)
                        replace kw := kw.trans (k1.mono kw.size)
                        clear k1 dd
                        have c81_1_3 : W81.cell? ⟨p1, 3, none⟩ = some (.slice s.sl.A s.sl.n s.sl.cap) := b1.cell 3
                        have c81_2_3 : W81.cell? ⟨p2, 3, none⟩ = some (.slice s2.sl.A s2.sl.n s2.sl.cap) := b2.cell 3
                        have dd := words_eq s.sl.A s2.sl.A s.sl.n s2.sl.n s.sl.cap s2.sl.cap c.sl c2.sl W81 (h.sh.on kw).sl (h2.sh.on kw).sl
                        rw [decide_eq_true c_sl] at dd
                        go_wp2_with fail
                        refine dd.mono ?_
                        rintro e W82 ⟨rfl, k1⟩
                        clear c81_1_3 c81_2_3
                        replace b1 := b1.on k1
                        replace b2 := b2.on k1
                        replace kk := kk.trans (k1.mono kk.size)
                        replace kw := kw.trans (k1.mono kw.size)
                        clear k1 dd
                        have c82_1_4 : W82.cell? ⟨p1, 4, none⟩ = some (.slice s.ce.A s.ce.n s.ce.cap) := b1.cell 4
                        have c82_2_4 : W82.cell? ⟨p2, 4, none⟩ = some (.slice s2.ce.A s2.ce.n s2.ce.cap) := b2.cell 4
                        have dd := cells_eq s.ce.A s2.ce.A s.ce.n s2.ce.n s.ce.cap s2.ce.cap c.ce c2.ce W82 (h.sh.on kw).ce (h2.sh.on kw).ce
                        rw [decide_eq_true c_ce] at dd
                        go_wp2_with fail
                        refine dd.mono ?_
                        rintro e W83 ⟨rfl, k1⟩
                        clear c82_1_4 c82_2_4
                        replace b1 := b1.on k1
                        replace b2 := b2.on k1
                        replace kk := kk.trans (k1.mono kk.size)
                        replace kw := kw.trans (k1.mono kw.size)
                        clear k1 dd
                        have c83_1_5 : W83.cell? ⟨p1, 5, none⟩ = some (.slice s.fr.A s.fr.n s.fr.cap) := b1.cell 5
                        have c83_2_5 : W83.cell? ⟨p2, 5, none⟩ = some (.slice s2.fr.A s2.fr.n s2.fr.cap) := b2.cell 5
                        have dd := ints_eq s.fr.A s2.fr.A s.fr.n s2.fr.n s.fr.cap s2.fr.cap c.fr c2.fr W83 (h.sh.on kw).fr (h2.sh.on kw).fr
                        rw [decide_eq_true c_fr] at dd
                        go_wp2_with fail
                        refine dd.mono ?_
                        rintro e W84 ⟨rfl, k1⟩
                        clear c83_1_5 c83_2_5
                        replace b1 := b1.on k1
                        replace b2 := b2.on k1
                        replace kk := kk.trans (k1.mono kk.size)
                        replace kw := kw.trans (k1.mono kw.size)
                        clear k1 dd
                        have c84_1_6 : W84.cell? ⟨p1, 6, none⟩ = some (.int .i64 s.ep) := b1.cell 6
                        have c84_2_6 : W84.cell? ⟨p2, 6, none⟩ = some (.int .i64 s2.ep) := b2.cell 6
                        have c84_1_7 : W84.cell? ⟨p1, 7, none⟩ = some (.slice s.ma.A s.ma.n s.ma.cap) := b1.cell 7
                        have c84_2_7 : W84.cell? ⟨p2, 7, none⟩ = some (.slice s2.ma.A s2.ma.n s2.ma.cap) := b2.cell 7
                        have dd := nums_eq s.ma.A s2.ma.A s.ma.n s2.ma.n s.ma.cap s2.ma.cap c.ma c2.ma W84 (h.sh.on kw).ma (h2.sh.on kw).ma
                        rw [decide_eq_true c_ma] at dd
                        go_wp2_with fail
                        refine dd.mono ?_
                        rintro e W85 ⟨rfl, k1⟩
                        clear c84_1_6 c84_2_6 c84_1_7 c84_2_7
                        replace b1 := b1.on k1
                        replace b2 := b2.on k1
                        replace kk := kk.trans (k1.mono kk.size)
                        replace kw := kw.trans (k1.mono kw.size)
                        clear k1 dd
                        have c85_1_8 : W85.cell? ⟨p1, 8, none⟩ = some (.slice s.co.A s.co.n s.co.cap) := b1.cell 8
                        have c85_2_8 : W85.cell? ⟨p2, 8, none⟩ = some (.slice s2.co.A s2.co.n s2.co.cap) := b2.cell 8
                        have dd := nums_eq s.co.A s2.co.A s.co.n s2.co.n s.co.cap s2.co.cap c.co c2.co W85 (h.sh.on kw).co (h2.sh.on kw).co
                        rw [decide_eq_false c_co] at dd
                        go_wp2_with fail
                        refine dd.mono ?_
                        rintro e W86 ⟨rfl, k1⟩
                        clear c85_1_8 c85_2_8
                        replace b1 := b1.on k1
                        replace b2 := b2.on k1
                        replace kk := kk.trans (k1.mono kk.size)
                        replace kw := kw.trans (k1.mono kw.size)
                        clear k1 dd
                        go_wp2_with fail
                        go_ret
                        first | exact ⟨by rw [HD.out]; try rfl, kk⟩ | (rw [f1] at kk; exact ⟨by rw [HD.out]; try rfl, kk⟩)
                    · have HD := Lib.hid (show c.like c2 = false from decide_eq_false fun e => c_ma ((hi.out.1 e).2.2.2.2.2.1))
                      have t_ep : (s.ep == s2.ep) = true := by rw [h.sh.ep, h2.sh.ep]; simpa using c_ep
                      have c80_1_2 : wr.cell? ⟨p1, 2, none⟩ = some (.slice s.ro.A s.ro.n s.ro.cap) := b1.cell 2
                      have c80_2_2 : wr.cell? ⟨p2, 2, none⟩ = some (.slice s2.ro.A s2.ro.n s2.ro.cap) := b2.cell 2
                      have dd := words_eq s.ro.A s2.ro.A s.ro.n s2.ro.n s.ro.cap s2.ro.cap c.ro c2.ro wr (h.sh.on kw).ro (h2.sh.on kw).ro
                      rw [decide_eq_true c_ro] at dd
                      go_wp2_with fail
                      refine dd.mono ?_
                      rintro e W81 ⟨rfl, k1⟩
                      clear c80_1_2 c80_2_2
                      replace b1 := b1.on k1
                      replace b2 := b2.on k1
                      replace kk := kk.trans (k1.mono kk.size)
                      replace kw := kw.trans (k1.mono kw.size)
                      clear k1 dd
                      have c81_1_3 : W81.cell? ⟨p1, 3, none⟩ = some (.slice s.sl.A s.sl.n s.sl.cap) := b1.cell 3
                      have c81_2_3 : W81.cell? ⟨p2, 3, none⟩ = some (.slice s2.sl.A s2.sl.n s2.sl.cap) := b2.cell 3
                      have dd := words_eq s.sl.A s2.sl.A s.sl.n s2.sl.n s.sl.cap s2.sl.cap c.sl c2.sl W81 (h.sh.on kw).sl (h2.sh.on kw).sl
                      rw [decide_eq_true c_sl] at dd
                      go_wp2_with fail
                      refine dd.mono ?_
                      rintro e W82 ⟨rfl, k1⟩
                      clear c81_1_3 c81_2_3
                      replace b1 := b1.on k1
                      replace b2 := b2.on k1
                      replace kk := kk.trans (k1.mono kk.size)
                      replace kw := kw.trans (k1.mono kw.size)
                      clear k1 dd
                      have c82_1_4 : W82.cell? ⟨p1, 4, none⟩ = some (.slice s.ce.A s.ce.n s.ce.cap) := b1.cell 4
                      have c82_2_4 : W82.cell? ⟨p2, 4, none⟩ = some (.slice s2.ce.A s2.ce.n s2.ce.cap) := b2.cell 4
                      have dd := cells_eq s.ce.A s2.ce.A s.ce.n s2.ce.n s.ce.cap s2.ce.cap c.ce c2.ce W82 (h.sh.on kw).ce (h2.sh.on kw).ce
                      rw [decide_eq_true c_ce] at dd
                      go_wp2_with fail
                      refine dd.mono ?_
                      rintro e W83 ⟨rfl, k1⟩
                      clear c82_1_4 c82_2_4
                      replace b1 := b1.on k1
                      replace b2 := b2.on k1
                      replace kk := kk.trans (k1.mono kk.size)
                      replace kw := kw.trans (k1.mono kw.size)
                      clear k1 dd
                      have c83_1_5 : W83.cell? ⟨p1, 5, none⟩ = some (.slice s.fr.A s.fr.n s.fr.cap) := b1.cell 5
                      have c83_2_5 : W83.cell? ⟨p2, 5, none⟩ = some (.slice s2.fr.A s2.fr.n s2.fr.cap) := b2.cell 5
                      have dd := ints_eq s.fr.A s2.fr.A s.fr.n s2.fr.n s.fr.cap s2.fr.cap c.fr c2.fr W83 (h.sh.on kw).fr (h2.sh.on kw).fr
                      rw [decide_eq_true c_fr] at dd
                      go_wp2_with fail
                      refine dd.mono ?_
                      rintro e W84 ⟨rfl, k1⟩
                      clear c83_1_5 c83_2_5
                      replace b1 := b1.on k1
                      replace b2 := b2.on k1
                      replace kk := kk.trans (k1.mono kk.size)
                      replace kw := kw.trans (k1.mono kw.size)
                      clear k1 dd
                      have c84_1_6 : W84.cell? ⟨p1, 6, none⟩ = some (.int .i64 s.ep) := b1.cell 6
                      have c84_2_6 : W84.cell? ⟨p2, 6, none⟩ = some (.int .i64 s2.ep) := b2.cell 6
                      have c84_1_7 : W84.cell? ⟨p1, 7, none⟩ = some (.slice s.ma.A s.ma.n s.ma.cap) := b1.cell 7
                      have c84_2_7 : W84.cell? ⟨p2, 7, none⟩ = some (.slice s2.ma.A s2.ma.n s2.ma.cap) := b2.cell 7
                      have dd := nums_eq s.ma.A s2.ma.A s.ma.n s2.ma.n s.ma.cap s2.ma.cap c.ma c2.ma W84 (h.sh.on kw).ma (h2.sh.on kw).ma
                      rw [decide_eq_false c_ma] at dd
                      go_wp2_with fail
                      refine dd.mono ?_
                      rintro e W85 ⟨rfl, k1⟩
                      clear c84_1_6 c84_2_6 c84_1_7 c84_2_7
                      replace b1 := b1.on k1
                      replace b2 := b2.on k1
                      replace kk := kk.trans (k1.mono kk.size)
                      replace kw := kw.trans (k1.mono kw.size)
                      clear k1 dd
                      go_wp2_with fail
                      go_ret
                      first | exact ⟨by rw [HD.out]; try rfl, kk⟩ | (rw [f1] at kk; exact ⟨by rw [HD.out]; try rfl, kk⟩)
                  · have HD := Lib.hid (show c.like c2 = false from decide_eq_false fun e => c_ep ((hi.out.1 e).2.2.2.2.1))
                    have t_ep : (s.ep == s2.ep) = false := by rw [h.sh.ep, h2.sh.ep]; simpa using c_ep
                    have c80_1_2 : wr.cell? ⟨p1, 2, none⟩ = some (.slice s.ro.A s.ro.n s.ro.cap) := b1.cell 2
                    have c80_2_2 : wr.cell? ⟨p2, 2, none⟩ = some (.slice s2.ro.A s2.ro.n s2.ro.cap) := b2.cell 2
                    have dd := words_eq s.ro.A s2.ro.A s.ro.n s2.ro.n s.ro.cap s2.ro.cap c.ro c2.ro wr (h.sh.on kw).ro (h2.sh.on kw).ro
                    rw [decide_eq_true c_ro] at dd
                    go_wp2_with fail
                    refine dd.mono ?_
                    rintro e W81 ⟨rfl, k1⟩
                    clear c80_1_2 c80_2_2
                    replace b1 := b1.on k1
                    replace b2 := b2.on k1
                    replace kk := kk.trans (k1.mono kk.size)
                    replace kw := kw.trans (k1.mono kw.size)
                    clear k1 dd
                    have c81_1_3 : W81.cell? ⟨p1, 3, none⟩ = some (.slice s.sl.A s.sl.n s.sl.cap) := b1.cell 3
                    have c81_2_3 : W81.cell? ⟨p2, 3, none⟩ = some (.slice s2.sl.A s2.sl.n s2.sl.cap) := b2.cell 3
                    have dd := words_eq s.sl.A s2.sl.A s.sl.n s2.sl.n s.sl.cap s2.sl.cap c.sl c2.sl W81 (h.sh.on kw).sl (h2.sh.on kw).sl
                    rw [decide_eq_true c_sl] at dd
                    go_wp2_with fail
                    refine dd.mono ?_
                    rintro e W82 ⟨rfl, k1⟩
                    clear c81_1_3 c81_2_3
                    replace b1 := b1.on k1
                    replace b2 := b2.on k1
                    replace kk := kk.trans (k1.mono kk.size)
                    replace kw := kw.trans (k1.mono kw.size)
                    clear k1 dd
                    have c82_1_4 : W82.cell? ⟨p1, 4, none⟩ = some (.slice s.ce.A s.ce.n s.ce.cap) := b1.cell 4
                    have c82_2_4 : W82.cell? ⟨p2, 4, none⟩ = some (.slice s2.ce.A s2.ce.n s2.ce.cap) := b2.cell 4
                    have dd := cells_eq s.ce.A s2.ce.A s.ce.n s2.ce.n s.ce.cap s2.ce.cap c.ce c2.ce W82 (h.sh.on kw).ce (h2.sh.on kw).ce
                    rw [decide_eq_true c_ce] at dd
                    go_wp2_with fail
                    refine dd.mono ?_
                    rintro e W83 ⟨rfl, k1⟩
                    clear c82_1_4 c82_2_4
                    replace b1 := b1.on k1
                    replace b2 := b2.on k1
                    replace kk := kk.trans (k1.mono kk.size)
                    replace kw := kw.trans (k1.mono kw.size)
                    clear k1 dd
                    have c83_1_5 : W83.cell? ⟨p1, 5, none⟩ = some (.slice s.fr.A s.fr.n s.fr.cap) := b1.cell 5
                    have c83_2_5 : W83.cell? ⟨p2, 5, none⟩ = some (.slice s2.fr.A s2.fr.n s2.fr.cap) := b2.cell 5
                    have dd := ints_eq s.fr.A s2.fr.A s.fr.n s2.fr.n s.fr.cap s2.fr.cap c.fr c2.fr W83 (h.sh.on kw).fr (h2.sh.on kw).fr
                    rw [decide_eq_true c_fr] at dd
                    go_wp2_with fail
                    refine dd.mono ?_
                    rintro e W84 ⟨rfl, k1⟩
                    clear c83_1_5 c83_2_5
                    replace b1 := b1.on k1
                    replace b2 := b2.on k1
                    replace kk := kk.trans (k1.mono kk.size)
                    replace kw := kw.trans (k1.mono kw.size)
                    clear k1 dd
                    have c84_1_6 : W84.cell? ⟨p1, 6, none⟩ = some (.int .i64 s.ep) := b1.cell 6
                    have c84_2_6 : W84.cell? ⟨p2, 6, none⟩ = some (.int .i64 s2.ep) := b2.cell 6
                    go_wp2_with fail
                    go_ret
                    first | exact ⟨by rw [HD.out]; try rfl, kk⟩ | (rw [f1] at kk; exact ⟨by rw [HD.out]; try rfl, kk⟩)
                · have HD := Lib.hid (show c.like c2 = false from decide_eq_false fun e => c_fr ((hi.out.1 e).2.2.2.1))
                  have c80_1_2 : wr.cell? ⟨p1, 2, none⟩ = some (.slice s.ro.A s.ro.n s.ro.cap) := b1.cell 2
                  have c80_2_2 : wr.cell? ⟨p2, 2, none⟩ = some (.slice s2.ro.A s2.ro.n s2.ro.cap) := b2.cell 2
                  have dd := words_eq s.ro.A s2.ro.A s.ro.n s2.ro.n s.ro.cap s2.ro.cap c.ro c2.ro wr (h.sh.on kw).ro (h2.sh.on kw).ro
                  rw [decide_eq_true c_ro] at dd
                  go_wp2_with fail
                  refine dd.mono ?_
                  rintro e W81 ⟨rfl, k1⟩
                  clear c80_1_2 c80_2_2
                  replace b1 := b1.on k1
                  replace b2 := b2.on k1
                  replace kk := kk.trans (k1.mono kk.size)
                  replace kw := kw.trans (k1.mono kw.size)
                  clear k1 dd
                  have c81_1_3 : W81.cell? ⟨p1, 3, none⟩ = some (.slice s.sl.A s.sl.n s.sl.cap) := b1.cell 3
                  have c81_2_3 : W81.cell? ⟨p2, 3, none⟩ = some (.slice s2.sl.A s2.sl.n s2.sl.cap) := b2.cell 3
                  have dd := words_eq s.sl.A s2.sl.A s.sl.n s2.sl.n s.sl.cap s2.sl.cap c.sl c2.sl W81 (h.sh.on kw).sl (h2.sh.on kw).sl
                  rw [decide_eq_true c_sl] at dd
                  go_wp2_with fail
                  refine dd.mono ?_
                  rintro e W82 ⟨rfl, k1⟩
                  clear c81_1_3 c81_2_3
                  replace b1 := b1.on k1
                  replace b2 := b2.on k1
                  replace kk := kk.trans (k1.mono kk.size)
                  replace kw := kw.trans (k1.mono kw.size)
                  clear k1 dd
                  have c82_1_4 : W82.cell? ⟨p1, 4, none⟩ = some (.slice s.ce.A s.ce.n s.ce.cap) := b1.cell 4
                  have c82_2_4 : W82.cell? ⟨p2, 4, none⟩ = some (.slice s2.ce.A s2.ce.n s2.ce.cap) := b2.cell 4
                  have dd := cells_eq s.ce.A s2.ce.A s.ce.n s2.ce.n s.ce.cap s2.ce.cap c.ce c2.ce W82 (h.sh.on kw).ce (h2.sh.on kw).ce
                  rw [decide_eq_true c_ce] at dd
                  go_wp2_with fail
                  refine dd.mono ?_
                  rintro e W83 ⟨rfl, k1⟩
                  clear c82_1_4 c82_2_4
                  replace b1 := b1.on k1
                  replace b2 := b2.on k1
                  replace kk := kk.trans (k1.mono kk.size)
                  replace kw := kw.trans (k1.mono kw.size)
                  clear k1 dd
                  have c83_1_5 : W83.cell? ⟨p1, 5, none⟩ = some (.slice s.fr.A s.fr.n s.fr.cap) := b1.cell 5
                  have c83_2_5 : W83.cell? ⟨p2, 5, none⟩ = some (.slice s2.fr.A s2.fr.n s2.fr.cap) := b2.cell 5
                  have dd := ints_eq s.fr.A s2.fr.A s.fr.n s2.fr.n s.fr.cap s2.fr.cap c.fr c2.fr W83 (h.sh.on kw).fr (h2.sh.on kw).fr
                  rw [decide_eq_false c_fr] at dd
                  go_wp2_with fail
                  refine dd.mono ?_
                  rintro e W84 ⟨rfl, k1⟩
                  clear c83_1_5 c83_2_5
                  replace b1 := b1.on k1
                  replace b2 := b2.on k1
                  replace kk := kk.trans (k1.mono kk.size)
                  replace kw := kw.trans (k1.mono kw.size)
                  clear k1 dd
                  go_wp2_with fail
                  go_ret
                  first | exact ⟨by rw [HD.out]; try rfl, kk⟩ | (rw [f1] at kk; exact ⟨by rw [HD.out]; try rfl, kk⟩)
              · have HD := Lib.hid (show c.like c2 = false from decide_eq_false fun e => c_ce ((hi.out.1 e).2.2.1))
                have c80_1_2 : wr.cell? ⟨p1, 2, none⟩ = some (.slice s.ro.A s.ro.n s.ro.cap) := b1.cell 2
                have c80_2_2 : wr.cell? ⟨p2, 2, none⟩ = some (.slice s2.ro.A s2.ro.n s2.ro.cap) := b2.cell 2
                have dd := words_eq s.ro.A s2.ro.A s.ro.n s2.ro.n s.ro.cap s2.ro.cap c.ro c2.ro wr (h.sh.on kw).ro (h2.sh.on kw).ro
                rw [decide_eq_true c_ro] at dd
                go_wp2_with fail
                refine dd.mono ?_
                rintro e W81 ⟨rfl, k1⟩
                clear c80_1_2 c80_2_2
                replace b1 := b1.on k1
                replace b2 := b2.on k1
                replace kk := kk.trans (k1.mono kk.size)
                replace kw := kw.trans (k1.mono kw.size)
                clear k1 dd
                have c81_1_3 : W81.cell? ⟨p1, 3, none⟩ = some (.slice s.sl.A s.sl.n s.sl.cap) := b1.cell 3
                have c81_2_3 : W81.cell? ⟨p2, 3, none⟩ = some (.slice s2.sl.A s2.sl.n s2.sl.cap) := b2.cell 3
                have dd := words_eq s.sl.A s2.sl.A s.sl.n s2.sl.n s.sl.cap s2.sl.cap c.sl c2.sl W81 (h.sh.on kw).sl (h2.sh.on kw).sl
                rw [decide_eq_true c_sl] at dd
                go_wp2_with fail
                refine dd.mono ?_
                rintro e W82 ⟨rfl, k1⟩
                clear c81_1_3 c81_2_3
                replace b1 := b1.on k1
                replace b2 := b2.on k1
                replace kk := kk.trans (k1.mono kk.size)
                replace kw := kw.trans (k1.mono kw.size)
                clear k1 dd
                have c82_1_4 : W82.cell? ⟨p1, 4, none⟩ = some (.slice s.ce.A s.ce.n s.ce.cap) := b1.cell 4
                have c82_2_4 : W82.cell? ⟨p2, 4, none⟩ = some (.slice s2.ce.A s2.ce.n s2.ce.cap) := b2.cell 4
                have dd := cells_eq s.ce.A s2.ce.A s.ce.n s2.ce.n s.ce.cap s2.ce.cap c.ce c2.ce W82 (h.sh.on kw).ce (h2.sh.on kw).ce
                rw [decide_eq_false c_ce] at dd
                go_wp2_with fail
                refine dd.mono ?_
                rintro e W83 ⟨rfl, k1⟩
                clear c82_1_4 c82_2_4
                replace b1 := b1.on k1
                replace b2 := b2.on k1
                replace kk := kk.trans (k1.mono kk.size)
                replace kw := kw.trans (k1.mono kw.size)
                clear k1 dd
                go_wp2_with fail
                go_ret
                first | exact ⟨by rw [HD.out]; try rfl, kk⟩ | (rw [f1] at kk; exact ⟨by rw [HD.out]; try rfl, kk⟩)
            · have HD := Lib.hid (show c.like c2 = false from decide_eq_false fun e => c_sl ((hi.out.1 e).2.1))
              have c80_1_2 : wr.cell? ⟨p1, 2, none⟩ = some (.slice s.ro.A s.ro.n s.ro.cap) := b1.cell 2
              have c80_2_2 : wr.cell? ⟨p2, 2, none⟩ = some (.slice s2.ro.A s2.ro.n s2.ro.cap) := b2.cell 2
              have dd := words_eq s.ro.A s2.ro.A s.ro.n s2.ro.n s.ro.cap s2.ro.cap c.ro c2.ro wr (h.sh.on kw).ro (h2.sh.on kw).ro
              rw [decide_eq_true c_ro] at dd
              go_wp2_with fail
              refine dd.mono ?_
              rintro e W81 ⟨rfl, k1⟩
              clear c80_1_2 c80_2_2
              replace b1 := b1.on k1
              replace b2 := b2.on k1
              replace kk := kk.trans (k1.mono kk.size)
              replace kw := kw.trans (k1.mono kw.size)
              clear k1 dd
              have c81_1_3 : W81.cell? ⟨p1, 3, none⟩ = some (.slice s.sl.A s.sl.n s.sl.cap) := b1.cell 3
              have c81_2_3 : W81.cell? ⟨p2, 3, none⟩ = some (.slice s2.sl.A s2.sl.n s2.sl.cap) := b2.cell 3
              have dd := words_eq s.sl.A s2.sl.A s.sl.n s2.sl.n s.sl.cap s2.sl.cap c.sl c2.sl W81 (h.sh.on kw).sl (h2.sh.on kw).sl
              rw [decide_eq_false c_sl] at dd
              go_wp2_with fail
              refine dd.mono ?_
              rintro e W82 ⟨rfl, k1⟩
              clear c81_1_3 c81_2_3
              replace b1 := b1.on k1
              replace b2 := b2.on k1
              replace kk := kk.trans (k1.mono kk.size)
              replace kw := kw.trans (k1.mono kw.size)
              clear k1 dd
              go_wp2_with fail
              go_ret
              first | exact ⟨by rw [HD.out]; try rfl, kk⟩ | (rw [f1] at kk; exact ⟨by rw [HD.out]; try rfl, kk⟩)
          · have HD := Lib.hid (show c.like c2 = false from decide_eq_false fun e => c_ro ((hi.out.1 e).1))
            have c80_1_2 : wr.cell? ⟨p1, 2, none⟩ = some (.slice s.ro.A s.ro.n s.ro.cap) := b1.cell 2
            have c80_2_2 : wr.cell? ⟨p2, 2, none⟩ = some (.slice s2.ro.A s2.ro.n s2.ro.cap) := b2.cell 2
            have dd := words_eq s.ro.A s2.ro.A s.ro.n s2.ro.n s.ro.cap s2.ro.cap c.ro c2.ro wr (h.sh.on kw).ro (h2.sh.on kw).ro
            rw [decide_eq_false c_ro] at dd
            go_wp2_with fail
            refine dd.mono ?_
            rintro e W81 ⟨rfl, k1⟩
            clear c80_1_2 c80_2_2
            replace b1 := b1.on k1
            replace b2 := b2.on k1
            replace kk := kk.trans (k1.mono kk.size)
            replace kw := kw.trans (k1.mono kw.size)
            clear k1 dd
            go_wp2_with fail
            go_ret
            first | exact ⟨by rw [HD.out]; try rfl, kk⟩ | (rw [f1] at kk; exact ⟨by rw [HD.out]; try rfl, kk⟩)
end Go.Proofs.Ytfmkmmmaoiepmaa
