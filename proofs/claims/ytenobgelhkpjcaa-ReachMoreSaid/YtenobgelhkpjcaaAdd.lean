/- The reference's Add. Conditions: at most 1000 keys. -/
import Derived.Test.YtenobgelhkpjcaaAdd0
namespace Go.Proofs.Ytenobgelhkpjcaa
open Go.ChangeShapes Go.WideShapes Go.RowKit
/-- The boxed key, and the keys that came. -/
structure AddAt (W : World) (z : Nat) (k : Ky) (A : Option Addr) (n c : Nat) (l : List Ky) : Prop where
  box : Blk W z 41 k.cs.toArray
  sees : Sees W 3 A n c (flatK l)
  old : ∀ g, holds A n g → g ≤ z
section
variable {w w' : World} {z n c : Nat} {k : Ky} {A : Option Addr} {l : List Ky}
theorem kept_from {B : Nat} (h : Below B w w') : Kept (fun g => B ≤ g) w w' := ⟨h.os, h.tape, h.output, h.size, fun k hk hn => h.block k (by omega)⟩
theorem AddAt.next (h : AddAt w z k A n c l) (hb : Below (z + 1) w w') : AddAt w' z k A n c l :=
  have hk := kept_from hb
  ⟨h.box.kept hk (by omega), h.sees.kept hk (fun g hg e => by have := h.old g hg; omega), h.old⟩
theorem AddAt.on (h : AddAt w z k A n c l) (hb : Below w.heap.size w w') : AddAt w' z k A n c l := h.next (hb.mono (by have := h.box.lt; omega))
theorem AddAt.most (h : AddAt w z k A n c l) : z + 1 ≤ w.heap.size := h.box.lt
/-- Behind an append. -/
theorem grown_from {B m cp : Nat} {A' : Option Addr} {O : List Ky} (hB : B ≤ w.heap.size) (o : Obj) (ho : w.ownsRow B 41 3 (.slice A' m cp) m (flatK O)) (hg : (w.alloc o).grownBy w' (Value.slice A' m cp).ownBlock) : Below B w w' := by
  have h1 : Below B w (w.alloc o) := (Below.refl B w).alloc hB o
  exact h1.trans ((kept_grown hg).under _ (Nat.le_trans hB h1.size) (fun g e => own_new ho g ((own_lies _ _ _ _).1 e)))
theorem own_snoc {B m : Nat} {v : Value} {O : List Ky} (x : Ky) (h : w.ownsRow B 41 3 v m (flatK O ++ [.int .i64 x.k, .int .i64 x.t, .int .i64 x.p])) : w.ownsRow B 41 3 v m (flatK (O ++ [x])) := by
  rw [show flatK (O ++ [x]) = flatK O ++ x.cs by simp [flatK]]
  exact h
/-- What a round of Add keeps. -/
def Round (w0 : World) (z : Nat) (k : Ky) (A : Option Addr) (n c : Nat) (l : List Ky) (i : Nat) (v u : Value) (wr : World) : Prop :=
  ∃ (A' : Option Addr) (cp : Nat) (O : List Ky) (put : Bool), v = .slice A' O.length cp ∧ u = .bool put ∧ AddAt wr z k A n c l ∧ wr.ownsRow (z + 1) 41 3 (.slice A' O.length cp) O.length (flatK O) ∧ Adds k l i O put ∧ (O.length ≤ i + 1 ∧ (put = false → O.length ≤ i)) ∧ Below (z + 1) w0 wr
set_option maxRecDepth 100000 in
set_option maxHeartbeats 8000000 in
theorem add_any (h : Sees w 3 A n c (flatK l)) (k : Ky) (hn : n ≤ 900) : Calls Try.prog 24 #[.slice A n c, .agg k.cs.toArray] w fun e w' => ∃ A' cp, e = .returned (.slice A' (addK k l).length cp) ∧ Sees w' 3 A' (addK k l).length cp (flatK (addK k l)) ∧ Below w.heap.size w w' ∧ ∀ g, lies A' g → w.heap.size ≤ g := by
  obtain ⟨i0, hi, hz0, hz1, hz2⟩ := info_parts info41
  have hl : l.length = n := by
    have := h.len
    unfold flatK at this
    rw [flat_len Ky.len] at this
    omega
  obtain ⟨z, ez⟩ : ∃ z, z = w.heap.size := ⟨_, rfl⟩
  obtain ⟨W0, eW0⟩ : ∃ W, W = w.alloc (.cells k.cs.toArray 41) := ⟨_, rfl⟩
  have hb0 : Below w.heap.size w W0 := by rw [eW0]; exact (Below.refl _ w).alloc (Nat.le_refl _) _
  have hA0 : AddAt W0 z k A n c l := by
    refine ⟨by rw [eW0, ez]; exact heap_alloc_new w _, h.below hb0, fun g hg => ?_⟩
    have := h.lt g hg
    omega
  go_enter Try.func24, Try.ntmps24
  go_wp2_with fail
  rw [← eW0, ← ez]
  clear eW0
  rw [← ez] at hb0
  have EZ := Lib.hid ez
  have HL := Lib.hid hl
  clear ez hl
  go_loopw [5, 6, 7] (fun v u i wr => ∃ j : Nat, i = .int .i64 j ∧ j ≤ n ∧ Round W0 z k A n c l j v u wr) (fun _ _ i _ => n - (intOf i).toNat)
  case atStart => exact ⟨0, rfl, Nat.zero_le _, none, 0, [], false, rfl, rfl, hA0, World.ownsRow_nil _ _ _ _, by unfold Adds; simp, ⟨by simp, by simp⟩, Below.refl _ _⟩
  case round =>
    obtain ⟨j, rfl, hj, A', cp, O, put, rfl, rfl, hA, hO, hD, hM, hBB⟩ := hrel
    by_cases hlt : j < n
    · obtain ⟨x, hx⟩ : ∃ x, l[j]? = some x := ⟨_, List.getElem?_eq_getElem (by have := HL.out; omega)⟩
      have t0 : decide ((j : Int) < (n : Int)) = true := decide_eq_true (by omega)
      have b1 : (0 : Int) ≤ (j : Int) := by omega
      have b2 : (j : Int) < (n : Int) := by omega
      have hwj : IntKind.i64.wrap ((j : Int) + 1) = ((j + 1 : Nat) : Int) := by rw [IntKind.wrap_i64]; omega
      obtain ⟨m, em⟩ : ∃ m, m = O.length := ⟨_, rfl⟩
      rw [← em] at hO hM ⊢
      have EM := Lib.hid em
      clear em hA0
      obtain ⟨g, o, eA, _⟩ := sees_at Ky.len hA.sees hx (by omega)
      have tS : ∀ V, AddAt V z k A n c l → V.rangeAt g (o + j * 3) x.cs := fun V hV => by
        obtain ⟨g', o', e', hr⟩ := sees_at Ky.len hV.sees hx (by omega)
        rw [eA] at e'
        injection e' with e'
        injection e' with e1 e2
        subst e1 e2
        exact hr
      subst eA
      have HX := Lib.hid hx
      have HD := Lib.hid hD
      have HM := Lib.hid hM
      have hm900 : m ≤ 901 := by have := hM.1; omega
      clear hD hx hM
      cases put with
      | true =>
        have hm0 : z + 1 ≤ wr.heap.size := hA.most
        have k0 : Below wr.heap.size wr wr.drew := (Below.refl _ wr).drew
        go_wp2_with fail
        refine wp_region_noPanic ?_
        refine wp_region_held_drew (S := (fun W => Below wr.heap.size wr W)) (by kernel_rfl) k0 (fun hHeld => ?_)
        refine wpAnyH_take (i := 0) (oi := ⟨some 14, _, _, _, _, _⟩) (v := ?_) rfl (by kernel_rfl) (by kernel_rfl) (by kernel_rfl) (fun _ _ _ h => h) (Or.inl ⟨by rfl, ?_⟩) (by assumption) ?_
        rotate_left 1
        · (intro W hSw; go_simp <;> with_reducible rfl)
        try simp only [Act.put, List.setIfInBounds_toArray, List.set_cons_zero, List.set_cons_succ]
        refine wpAnyH_take (i := 1) (oi := ⟨some 15, _, _, _, _, _⟩) (v := ?_) rfl (by kernel_rfl) (by kernel_rfl) (by kernel_rfl) (fun _ _ _ h => h) (Or.inl ⟨by rfl, ?_⟩) (by assumption) ?_
        rotate_left 1
        · (intro W hSw; go_simp <;> with_reducible rfl)
        try simp only [Act.put, List.setIfInBounds_toArray, List.set_cons_zero, List.set_cons_succ]
        refine wpAnyH_take (i := 2) (oi := ⟨some 16, _, _, _, _, _⟩) (v := ?_) rfl (by kernel_rfl) (by kernel_rfl) (by kernel_rfl) (fun _ _ _ h => h) (Or.inl ⟨by rfl, ?_⟩) (by assumption) ?_
        rotate_left 1
        · (intro W hSw; go_simp <;> with_reducible rfl)
        try simp only [Act.put, List.setIfInBounds_toArray, List.set_cons_zero, List.set_cons_succ]
        refine wpAnyH_take (i := 3) (oi := ⟨some 17, _, _, _, _, _⟩) (v := undef) rfl (by kernel_rfl) (by kernel_rfl) (by kernel_rfl) (fun _ _ _ h => h) (Or.inr ⟨by rfl, rfl⟩) (by assumption) ?_
        try simp only [Act.put, List.setIfInBounds_toArray, List.set_cons_zero, List.set_cons_succ]
        refine wpAnyH_take (i := 4) (oi := ⟨some 18, _, _, _, _, _⟩) (v := undef) rfl (by kernel_rfl) (by kernel_rfl) (by kernel_rfl) (fun _ _ _ h => h) (Or.inr ⟨by rfl, rfl⟩) (by assumption) ?_
        try simp only [Act.put, List.setIfInBounds_toArray, List.set_cons_zero, List.set_cons_succ]
        refine wpAnyH_take (i := 5) (oi := ⟨some 19, _, _, _, _, _⟩) (v := undef) rfl (by kernel_rfl) (by kernel_rfl) (by kernel_rfl) (fun _ _ _ h => h) (Or.inr ⟨by rfl, rfl⟩) (by assumption) ?_
        try simp only [Act.put, List.setIfInBounds_toArray, List.set_cons_zero, List.set_cons_succ]
        refine wpAnyH_take (i := 6) (oi := ⟨some 20, _, _, _, _, _⟩) (v := undef) rfl (by kernel_rfl) (by kernel_rfl) (by kernel_rfl) (fun _ _ _ h => h) (Or.inr ⟨by rfl, rfl⟩) (by assumption) ?_
        try simp only [Act.put, List.setIfInBounds_toArray, List.set_cons_zero, List.set_cons_succ]
        refine wpAnyH_take (i := 7) (oi := ⟨some 21, _, _, _, _, _⟩) (v := undef) rfl (by kernel_rfl) (by kernel_rfl) (by kernel_rfl) (fun _ _ _ h => h) (Or.inr ⟨by rfl, rfl⟩) (by assumption) ?_
        try simp only [Act.put, List.setIfInBounds_toArray, List.set_cons_zero, List.set_cons_succ]
        refine wpAnyH_take (i := 8) (oi := ⟨some 22, _, _, _, _, _⟩) (v := undef) rfl (by kernel_rfl) (by kernel_rfl) (by kernel_rfl) (fun _ _ _ h => h) (Or.inr ⟨by rfl, rfl⟩) (by assumption) ?_
        try simp only [Act.put, List.setIfInBounds_toArray, List.set_cons_zero, List.set_cons_succ]
        refine wpAnyH_take (i := 9) (oi := ⟨some 23, _, _, _, _, _⟩) (v := ?_) rfl (by kernel_rfl) (by kernel_rfl) (by kernel_rfl) (fun _ _ _ h => h) (Or.inl ⟨by rfl, ?_⟩) (by assumption) ?_
        rotate_left 1
        · (intro W hSw; go_simp <;> with_reducible rfl)
        try simp only [Act.put, List.setIfInBounds_toArray, List.set_cons_zero, List.set_cons_succ]
        refine wpAnyH_done (by kernel_rfl) ?_ _
        refine NoPanic.normal ?_
        have hb2 := k0
        generalize wr.drew = w2 at hb2 ⊢
        clear k0
        replace hA := hA.on hb2
        replace hO := ownB_below hO hb2
        replace hBB := hBB.trans (hb2.mono (Nat.le_trans hm0 (Nat.le_refl _)))
        clear hb2
        have k1 : Below w2.heap.size w2 w2.drew := (Below.refl _ w2).drew
        go_wp2_with fail
        refine wp_region_noPanic ?_
        refine wp_region_held_drew (S := (fun W => Below w2.heap.size w2 W)) (by kernel_rfl) k1 (fun hHeld => ?_)
        refine wpAnyH_take (i := 0) (oi := ⟨some 28, _, _, _, _, _⟩) (v := ?_) rfl (by kernel_rfl) (by kernel_rfl) (by kernel_rfl) (fun _ _ _ h => h) (Or.inl ⟨by rfl, ?_⟩) (by assumption) ?_
        rotate_left 1
        · (intro W hSw; go_simp <;> with_reducible rfl)
        try simp only [Act.put, List.setIfInBounds_toArray, List.set_cons_zero, List.set_cons_succ]
        refine wpAnyH_take (i := 1) (oi := ⟨some 29, _, _, _, _, _⟩) (v := ?_) rfl (by kernel_rfl) (by kernel_rfl) (by kernel_rfl) (fun _ _ _ h => h) (Or.inl ⟨by rfl, ?_⟩) (by assumption) ?_
        rotate_left 1
        · (intro W hSw; go_simp <;> with_reducible rfl)
        try simp only [Act.put, List.setIfInBounds_toArray, List.set_cons_zero, List.set_cons_succ]
        refine wpAnyH_take (i := 2) (oi := ⟨some 30, _, _, _, _, _⟩) (v := undef) rfl (by kernel_rfl) (by kernel_rfl) (by kernel_rfl) (fun _ _ _ h => h) (Or.inr ⟨by rfl, rfl⟩) (by assumption) ?_
        try simp only [Act.put, List.setIfInBounds_toArray, List.set_cons_zero, List.set_cons_succ]
        refine wpAnyH_take (i := 3) (oi := ⟨some 31, _, _, _, _, _⟩) (v := undef) rfl (by kernel_rfl) (by kernel_rfl) (by kernel_rfl) (fun _ _ _ h => h) (Or.inr ⟨by rfl, rfl⟩) (by assumption) ?_
        try simp only [Act.put, List.setIfInBounds_toArray, List.set_cons_zero, List.set_cons_succ]
        refine wpAnyH_take (i := 4) (oi := ⟨some 32, _, _, _, _, _⟩) (v := undef) rfl (by kernel_rfl) (by kernel_rfl) (by kernel_rfl) (fun _ _ _ h => h) (Or.inr ⟨by rfl, rfl⟩) (by assumption) ?_
        try simp only [Act.put, List.setIfInBounds_toArray, List.set_cons_zero, List.set_cons_succ]
        refine wpAnyH_take (i := 5) (oi := ⟨some 33, _, _, _, _, _⟩) (v := undef) rfl (by kernel_rfl) (by kernel_rfl) (by kernel_rfl) (fun _ _ _ h => h) (Or.inr ⟨by rfl, rfl⟩) (by assumption) ?_
        try simp only [Act.put, List.setIfInBounds_toArray, List.set_cons_zero, List.set_cons_succ]
        refine wpAnyH_take (i := 6) (oi := ⟨some 34, _, _, _, _, _⟩) (v := undef) rfl (by kernel_rfl) (by kernel_rfl) (by kernel_rfl) (fun _ _ _ h => h) (Or.inr ⟨by rfl, rfl⟩) (by assumption) ?_
        try simp only [Act.put, List.setIfInBounds_toArray, List.set_cons_zero, List.set_cons_succ]
        refine wpAnyH_take (i := 7) (oi := ⟨some 35, _, _, _, _, _⟩) (v := undef) rfl (by kernel_rfl) (by kernel_rfl) (by kernel_rfl) (fun _ _ _ h => h) (Or.inr ⟨by rfl, rfl⟩) (by assumption) ?_
        try simp only [Act.put, List.setIfInBounds_toArray, List.set_cons_zero, List.set_cons_succ]
        refine wpAnyH_take (i := 8) (oi := ⟨some 36, _, _, _, _, _⟩) (v := ?_) rfl (by kernel_rfl) (by kernel_rfl) (by kernel_rfl) (fun _ _ _ h => h) (Or.inl ⟨by rfl, ?_⟩) (by assumption) ?_
        rotate_left 1
        · (intro W hSw; go_simp <;> with_reducible rfl)
        try simp only [Act.put, List.setIfInBounds_toArray, List.set_cons_zero, List.set_cons_succ]
        refine wpAnyH_take (i := 9) (oi := ⟨some 6, _, _, _, _, _⟩) (v := ?_) rfl (by kernel_rfl) (by kernel_rfl) (by kernel_rfl) (fun _ _ _ h => h) (Or.inl ⟨by rfl, ?_⟩) (by assumption) ?_
        rotate_left 1
        · (intro W hSw; go_simp <;> with_reducible rfl)
        try simp only [Act.put, List.setIfInBounds_toArray, List.set_cons_zero, List.set_cons_succ]
        refine wpAnyH_done (by kernel_rfl) ?_ _
        refine NoPanic.normal ?_
        generalize w2.drew = w3 at k1 ⊢
        replace hO := ownB_below hO k1
        have hm2 := hA.most
        replace hBB := hBB.trans (k1.mono hm2)
        replace hA := hA.on k1
        clear k1 hm2
        have hrx := tS _ hA
        have hm1 := hA.most
        have ho1 := hO.alloc (.cells #[.int .i64 x.k, .int .i64 x.t, .int .i64 x.p] 41)
        have hnw : Blk (w3.alloc (.cells #[.int .i64 x.k, .int .i64 x.t, .int .i64 x.p] 41)) w3.heap.size 41 #[.int .i64 x.k, .int .i64 x.t, .int .i64 x.p] := heap_alloc_new w3 _
        go_wp2_with (first
          | (refine wpList_load_mid rfl 41 (.tmp 40) rfl g (o + j * 3) rfl [.int .i64 x.k, .int .i64 x.t, .int .i64 x.p] _ hrx Try.underlying41 rfl (load41 x) ?_)
          | (at_builtin; refine wpList_append_lies _ rfl _ _ 32 rfl (z + 1) 41 i0 (.agg noK.cs.toArray) 3 24 Try.underlying32 hi hz0 hz1 hz2 rfl (by decide) (.slice A' m cp) m (flatK O) rfl ho1 ⟨w3.heap.size, 0, none⟩ 1 1 [.int .i64 x.k, .int .i64 x.t, .int .i64 x.p] rfl rfl (World.news_of_block (cs := #[.int .i64 x.k, .int .i64 x.t, .int .i64 x.p]) (t := 41) (fr := (0, 0)) hnw) x.one (by decide) (by unfold maxLen; omega) (by omega) (by simp; omega) (w3.heap.size + 1) (by simp) ?_; intro gg7 cq7 w7 hown hgrow hat hlt2))
        have hbn := grown_from hm1 (.cells #[.int .i64 x.k, .int .i64 x.t, .int .i64 x.p] 41) hO hgrow
        replace hA := hA.next hbn
        replace hBB := hBB.trans hbn
        replace hown := own_snoc x hown
        clear hO ho1 hnw hgrow hat hlt2 hbn hm1
        clear hrx tS
        go_wp2_with fail
        go_roundw
        case rel =>
          have e : m + 1 = (O ++ [x]).length := by rw [List.length_append, List.length_singleton, ← EM.out]
          refine ⟨j + 1, by simp, by omega, some ⟨gg7, 0, none⟩, cq7, O ++ [x], true, by rw [e], rfl, hA, by rw [← e]; exact hown, adds_put HD.out HX.out, ⟨by rw [← e]; have := HM.out.1; omega, fun h => by cases h⟩, hBB⟩
        case measure => simp [intOf]; omega
      | false =>
        by_cases hless : Less k x
        · have hm0 : z + 1 ≤ wr.heap.size := hA.most
          have k0 : Below wr.heap.size wr wr.drew := (Below.refl _ wr).drew
          have hle := fun W => less_any k x W
          rw [decide_eq_true hless] at hle
          have HLE := Lib.hid hless
          clear hless
          go_wp2_with fail
          refine wp_region_noPanic ?_
          refine wp_region_held_drew (S := (fun W => Below wr.heap.size wr W)) (by kernel_rfl) k0 (fun hHeld => ?_)
          refine wpAnyH_take (i := 0) (oi := ⟨some 14, _, _, _, _, _⟩) (v := ?_) rfl (by kernel_rfl) (by kernel_rfl) (by kernel_rfl) (fun _ _ _ h => h) (Or.inl ⟨by rfl, ?_⟩) (by assumption) ?_
          rotate_left 1
          · (intro W hSw; go_simp <;> with_reducible rfl)
          try simp only [Act.put, List.setIfInBounds_toArray, List.set_cons_zero, List.set_cons_succ]
          refine wpAnyH_take (i := 1) (oi := ⟨some 15, _, _, _, _, _⟩) (v := ?_) rfl (by kernel_rfl) (by kernel_rfl) (by kernel_rfl) (fun _ _ _ h => h) (Or.inl ⟨by rfl, ?_⟩) (by assumption) ?_
          rotate_left 1
          · (intro W hSw; go_simp <;> with_reducible rfl)
          try simp only [Act.put, List.setIfInBounds_toArray, List.set_cons_zero, List.set_cons_succ]
          refine wpAnyH_take (i := 2) (oi := ⟨some 16, _, _, _, _, _⟩) (v := ?_) rfl (by kernel_rfl) (by kernel_rfl) (by kernel_rfl) (fun _ _ _ h => h) (Or.inl ⟨by rfl, ?_⟩) (by assumption) ?_
          rotate_left 1
          · (intro W hSw; go_simp <;> with_reducible rfl)
          try simp only [Act.put, List.setIfInBounds_toArray, List.set_cons_zero, List.set_cons_succ]
          refine wpAnyH_take (i := 3) (oi := ⟨some 17, _, _, _, _, _⟩) (v := .agg (List.toArray (k.cs))) rfl (by kernel_rfl) (by kernel_rfl) (by kernel_rfl) (fun _ _ _ h => h) (yieldsIf_load_mid (by rfl) 41 (.tmp 3) rfl z (0) rfl (k.cs) _ (fun W hW => range_blk (hA.box.on hW)) Try.underlying41 rfl (load41 k)) (by assumption) ?_
          try simp only [Act.put, List.setIfInBounds_toArray, List.set_cons_zero, List.set_cons_succ]
          refine wpAnyH_take (i := 4) (oi := ⟨some 18, _, _, _, _, _⟩) (v := ?_) rfl (by kernel_rfl) (by kernel_rfl) (by kernel_rfl) (fun _ _ _ h => h) (Or.inl ⟨by rfl, ?_⟩) (by assumption) ?_
          rotate_left 1
          · (intro W hSw; go_simp <;> with_reducible rfl)
          try simp only [Act.put, List.setIfInBounds_toArray, List.set_cons_zero, List.set_cons_succ]
          refine wpAnyH_take (i := 5) (oi := ⟨some 19, _, _, _, _, _⟩) (v := ?_) rfl (by kernel_rfl) (by kernel_rfl) (by kernel_rfl) (fun _ _ _ h => h) (Or.inl ⟨by rfl, ?_⟩) (by assumption) ?_
          rotate_left 1
          · (intro W hSw; go_simp <;> with_reducible rfl)
          try simp only [Act.put, List.setIfInBounds_toArray, List.set_cons_zero, List.set_cons_succ]
          refine wpAnyH_take (i := 6) (oi := ⟨some 20, _, _, _, _, _⟩) (v := ?_) rfl (by kernel_rfl) (by kernel_rfl) (by kernel_rfl) (fun _ _ _ h => h) (Or.inl ⟨by rfl, ?_⟩) (by assumption) ?_
          rotate_left 1
          · (intro W hSw; go_simp <;> with_reducible rfl)
          try simp only [Act.put, List.setIfInBounds_toArray, List.set_cons_zero, List.set_cons_succ]
          refine wpAnyH_take (i := 7) (oi := ⟨some 21, _, _, _, _, _⟩) (v := .agg (List.toArray (x.cs))) rfl (by kernel_rfl) (by kernel_rfl) (by kernel_rfl) (fun _ _ _ h => h) (yieldsIf_load_mid (by rfl) 41 (.tmp 20) rfl g (o + j * 3) rfl (x.cs) _ (fun W hW => tS W (hA.on hW)) Try.underlying41 rfl (load41 x)) (by assumption) ?_
          try simp only [Act.put, List.setIfInBounds_toArray, List.set_cons_zero, List.set_cons_succ]
          refine wpAnyH_ready (rs := [8]) (by kernel_rfl) (by simp) ?_
          refine AllReadyH.cons rfl (fun K hK => ?_) AllReadyH.nil
          go_simp
          refine (hle _).mono ?_
          rintro e w2 ⟨rfl, hb2⟩
          replace hb2 := k0.trans (hb2.mono k0.size)
          have hKeep := hb2
          refine hK.out _ _ ?_ (fun hHeld1 => ?_)
          · exact hKeep
          clear hHeld hK K hKeep
          try simp only [Act.put, List.setIfInBounds_toArray, List.set_cons_zero, List.set_cons_succ]
          refine wpAnyH_take (i := 9) (oi := ⟨some 23, _, _, _, _, _⟩) (v := ?_) rfl (by kernel_rfl) (by kernel_rfl) (by kernel_rfl) (fun _ _ _ h => h) (Or.inl ⟨by rfl, ?_⟩) (by assumption) ?_
          rotate_left 1
          · (intro W hSw; go_simp <;> with_reducible rfl)
          try simp only [Act.put, List.setIfInBounds_toArray, List.set_cons_zero, List.set_cons_succ]
          refine wpAnyH_done (by kernel_rfl) ?_ _
          refine NoPanic.normal ?_
          clear hle
          replace hA := hA.on hb2
          replace hO := ownB_below hO hb2
          replace hBB := hBB.trans (hb2.mono (Nat.le_trans hm0 (Nat.le_refl _)))
          clear hb2
          have hBx := hA.box
          have hm1 := hA.most
          have ho1 := hO.alloc (.cells #[.int .i64 k.k, .int .i64 k.t, .int .i64 k.p] 41)
          have hnw : Blk (w2.alloc (.cells #[.int .i64 k.k, .int .i64 k.t, .int .i64 k.p] 41)) w2.heap.size 41 #[.int .i64 k.k, .int .i64 k.t, .int .i64 k.p] := heap_alloc_new w2 _
          go_wp2_with (first
            | (refine wpList_load_row rfl 41 (.tmp 3) rfl z rfl 41 #[.int .i64 k.k, .int .i64 k.t, .int .i64 k.p] (0, 0) _ hBx Try.underlying41 rfl size41 ?_)
            | (at_builtin; refine wpList_append_lies _ rfl _ _ 32 rfl (z + 1) 41 i0 (.agg noK.cs.toArray) 3 24 Try.underlying32 hi hz0 hz1 hz2 rfl (by decide) (.slice A' m cp) m (flatK O) rfl ho1 ⟨w2.heap.size, 0, none⟩ 1 1 [.int .i64 k.k, .int .i64 k.t, .int .i64 k.p] rfl rfl (World.news_of_block (cs := #[.int .i64 k.k, .int .i64 k.t, .int .i64 k.p]) (t := 41) (fr := (0, 0)) hnw) k.one (by decide) (by unfold maxLen; omega) (by omega) (by simp; omega) (w2.heap.size + 1) (by simp) ?_; intro gg5 cq5 w5 hown hgrow hat hlt2))
          have hbn := grown_from hm1 (.cells #[.int .i64 k.k, .int .i64 k.t, .int .i64 k.p] 41) hO hgrow
          replace hA := hA.next hbn
          replace hBB := hBB.trans hbn
          replace hown := own_snoc k hown
          clear hO ho1 hnw hgrow hat hlt2 hbn hm1
          clear hBx
          have k1 : Below w5.heap.size w5 w5.drew := (Below.refl _ w5).drew
          go_wp2_with fail
          refine wp_region_noPanic ?_
          refine wp_region_held_drew (S := (fun W => Below w5.heap.size w5 W)) (by kernel_rfl) k1 (fun hHeld => ?_)
          refine wpAnyH_take (i := 0) (oi := ⟨some 28, _, _, _, _, _⟩) (v := ?_) rfl (by kernel_rfl) (by kernel_rfl) (by kernel_rfl) (fun _ _ _ h => h) (Or.inl ⟨by rfl, ?_⟩) (by assumption) ?_
          rotate_left 1
          · (intro W hSw; go_simp <;> with_reducible rfl)
          try simp only [Act.put, List.setIfInBounds_toArray, List.set_cons_zero, List.set_cons_succ]
          refine wpAnyH_take (i := 1) (oi := ⟨some 29, _, _, _, _, _⟩) (v := ?_) rfl (by kernel_rfl) (by kernel_rfl) (by kernel_rfl) (fun _ _ _ h => h) (Or.inl ⟨by rfl, ?_⟩) (by assumption) ?_
          rotate_left 1
          · (intro W hSw; go_simp <;> with_reducible rfl)
          try simp only [Act.put, List.setIfInBounds_toArray, List.set_cons_zero, List.set_cons_succ]
          refine wpAnyH_take (i := 2) (oi := ⟨some 30, _, _, _, _, _⟩) (v := undef) rfl (by kernel_rfl) (by kernel_rfl) (by kernel_rfl) (fun _ _ _ h => h) (Or.inr ⟨by rfl, rfl⟩) (by assumption) ?_
          try simp only [Act.put, List.setIfInBounds_toArray, List.set_cons_zero, List.set_cons_succ]
          refine wpAnyH_take (i := 3) (oi := ⟨some 31, _, _, _, _, _⟩) (v := undef) rfl (by kernel_rfl) (by kernel_rfl) (by kernel_rfl) (fun _ _ _ h => h) (Or.inr ⟨by rfl, rfl⟩) (by assumption) ?_
          try simp only [Act.put, List.setIfInBounds_toArray, List.set_cons_zero, List.set_cons_succ]
          refine wpAnyH_take (i := 4) (oi := ⟨some 32, _, _, _, _, _⟩) (v := undef) rfl (by kernel_rfl) (by kernel_rfl) (by kernel_rfl) (fun _ _ _ h => h) (Or.inr ⟨by rfl, rfl⟩) (by assumption) ?_
          try simp only [Act.put, List.setIfInBounds_toArray, List.set_cons_zero, List.set_cons_succ]
          refine wpAnyH_take (i := 5) (oi := ⟨some 33, _, _, _, _, _⟩) (v := undef) rfl (by kernel_rfl) (by kernel_rfl) (by kernel_rfl) (fun _ _ _ h => h) (Or.inr ⟨by rfl, rfl⟩) (by assumption) ?_
          try simp only [Act.put, List.setIfInBounds_toArray, List.set_cons_zero, List.set_cons_succ]
          refine wpAnyH_take (i := 6) (oi := ⟨some 34, _, _, _, _, _⟩) (v := undef) rfl (by kernel_rfl) (by kernel_rfl) (by kernel_rfl) (fun _ _ _ h => h) (Or.inr ⟨by rfl, rfl⟩) (by assumption) ?_
          try simp only [Act.put, List.setIfInBounds_toArray, List.set_cons_zero, List.set_cons_succ]
          refine wpAnyH_take (i := 7) (oi := ⟨some 35, _, _, _, _, _⟩) (v := undef) rfl (by kernel_rfl) (by kernel_rfl) (by kernel_rfl) (fun _ _ _ h => h) (Or.inr ⟨by rfl, rfl⟩) (by assumption) ?_
          try simp only [Act.put, List.setIfInBounds_toArray, List.set_cons_zero, List.set_cons_succ]
          refine wpAnyH_take (i := 8) (oi := ⟨some 36, _, _, _, _, _⟩) (v := ?_) rfl (by kernel_rfl) (by kernel_rfl) (by kernel_rfl) (fun _ _ _ h => h) (Or.inl ⟨by rfl, ?_⟩) (by assumption) ?_
          rotate_left 1
          · (intro W hSw; go_simp <;> with_reducible rfl)
          try simp only [Act.put, List.setIfInBounds_toArray, List.set_cons_zero, List.set_cons_succ]
          refine wpAnyH_take (i := 9) (oi := ⟨some 6, _, _, _, _, _⟩) (v := ?_) rfl (by kernel_rfl) (by kernel_rfl) (by kernel_rfl) (fun _ _ _ h => h) (Or.inl ⟨by rfl, ?_⟩) (by assumption) ?_
          rotate_left 1
          · (intro W hSw; go_simp <;> with_reducible rfl)
          try simp only [Act.put, List.setIfInBounds_toArray, List.set_cons_zero, List.set_cons_succ]
          refine wpAnyH_done (by kernel_rfl) ?_ _
          refine NoPanic.normal ?_
          generalize w5.drew = w3 at k1 ⊢
          replace hown := ownB_below hown k1
          have hm2 := hA.most
          replace hBB := hBB.trans (k1.mono hm2)
          replace hA := hA.on k1
          clear k1 hm2
          obtain ⟨A5, eA5⟩ : ∃ A5 : Option Addr, A5 = some ⟨gg5, 0, none⟩ := ⟨_, rfl⟩
          rw [← eA5] at hown ⊢
          clear eA5
          obtain ⟨O5, eO5⟩ : ∃ O5, O5 = O ++ [k] := ⟨_, rfl⟩
          rw [← eO5] at hown
          have EO5 := Lib.hid eO5
          clear eO5
          obtain ⟨m5, em5⟩ : ∃ m5, m5 = m + 1 := ⟨_, rfl⟩
          rw [← em5] at hown ⊢
          have hM5 : m5 ≤ 902 := by omega
          have EM5 := Lib.hid em5
          clear em5
          have hO := hown
          clear hown
          have hrx := tS _ hA
          have hm1 := hA.most
          have ho1 := hO.alloc (.cells #[.int .i64 x.k, .int .i64 x.t, .int .i64 x.p] 41)
          have hnw : Blk (w3.alloc (.cells #[.int .i64 x.k, .int .i64 x.t, .int .i64 x.p] 41)) w3.heap.size 41 #[.int .i64 x.k, .int .i64 x.t, .int .i64 x.p] := heap_alloc_new w3 _
          go_wp2_with (first
            | (refine wpList_load_mid rfl 41 (.tmp 40) rfl g (o + j * 3) rfl [.int .i64 x.k, .int .i64 x.t, .int .i64 x.p] _ hrx Try.underlying41 rfl (load41 x) ?_)
            | (at_builtin; refine wpList_append_lies _ rfl _ _ 32 rfl (z + 1) 41 i0 (.agg noK.cs.toArray) 3 24 Try.underlying32 hi hz0 hz1 hz2 rfl (by decide) (.slice A5 m5 cq5) m5 (flatK O5) rfl ho1 ⟨w3.heap.size, 0, none⟩ 1 1 [.int .i64 x.k, .int .i64 x.t, .int .i64 x.p] rfl rfl (World.news_of_block (cs := #[.int .i64 x.k, .int .i64 x.t, .int .i64 x.p]) (t := 41) (fr := (0, 0)) hnw) x.one (by decide) (by unfold maxLen; omega) (by omega) (by simp; omega) (w3.heap.size + 1) (by simp) ?_; intro gg7 cq7 w7 hown hgrow hat hlt2))
          have hbn := grown_from hm1 (.cells #[.int .i64 x.k, .int .i64 x.t, .int .i64 x.p] 41) hO hgrow
          replace hA := hA.next hbn
          replace hBB := hBB.trans hbn
          replace hown := own_snoc x hown
          clear hO ho1 hnw hgrow hat hlt2 hbn hm1
          clear hrx tS
          go_wp2_with fail
          go_roundw
          case rel =>
            have e : m5 + 1 = (O ++ [k] ++ [x]).length := by rw [List.length_append, List.length_append, List.length_singleton, List.length_singleton, ← EM.out, EM5.out]
            refine ⟨j + 1, by simp, by omega, some ⟨gg7, 0, none⟩, cq7, O ++ [k] ++ [x], true, by rw [e], rfl, hA, by rw [← e, ← EO5.out]; exact hown, adds_less HD.out HX.out HLE.out, ⟨by rw [← e]; have := HM.out.2 (by simp); have := EM5.out; omega, fun h => by cases h⟩, hBB⟩
          case measure => simp [intOf]; omega
        · by_cases hsame : x = k
          · have heq := eq41 x k
            rw [decide_eq_true hsame] at heq
            have HSM := Lib.hid hsame
            clear hsame
            have hm0 : z + 1 ≤ wr.heap.size := hA.most
            have k0 : Below wr.heap.size wr wr.drew := (Below.refl _ wr).drew
            have hle := fun W => less_any k x W
            rw [decide_eq_false hless] at hle
            have HLE := Lib.hid hless
            clear hless
            go_wp2_with fail
            refine wp_region_noPanic ?_
            refine wp_region_held_drew (S := (fun W => Below wr.heap.size wr W)) (by kernel_rfl) k0 (fun hHeld => ?_)
            refine wpAnyH_take (i := 0) (oi := ⟨some 14, _, _, _, _, _⟩) (v := ?_) rfl (by kernel_rfl) (by kernel_rfl) (by kernel_rfl) (fun _ _ _ h => h) (Or.inl ⟨by rfl, ?_⟩) (by assumption) ?_
            rotate_left 1
            · (intro W hSw; go_simp <;> with_reducible rfl)
            try simp only [Act.put, List.setIfInBounds_toArray, List.set_cons_zero, List.set_cons_succ]
            refine wpAnyH_take (i := 1) (oi := ⟨some 15, _, _, _, _, _⟩) (v := ?_) rfl (by kernel_rfl) (by kernel_rfl) (by kernel_rfl) (fun _ _ _ h => h) (Or.inl ⟨by rfl, ?_⟩) (by assumption) ?_
            rotate_left 1
            · (intro W hSw; go_simp <;> with_reducible rfl)
            try simp only [Act.put, List.setIfInBounds_toArray, List.set_cons_zero, List.set_cons_succ]
            refine wpAnyH_take (i := 2) (oi := ⟨some 16, _, _, _, _, _⟩) (v := ?_) rfl (by kernel_rfl) (by kernel_rfl) (by kernel_rfl) (fun _ _ _ h => h) (Or.inl ⟨by rfl, ?_⟩) (by assumption) ?_
            rotate_left 1
            · (intro W hSw; go_simp <;> with_reducible rfl)
            try simp only [Act.put, List.setIfInBounds_toArray, List.set_cons_zero, List.set_cons_succ]
            refine wpAnyH_take (i := 3) (oi := ⟨some 17, _, _, _, _, _⟩) (v := .agg (List.toArray (k.cs))) rfl (by kernel_rfl) (by kernel_rfl) (by kernel_rfl) (fun _ _ _ h => h) (yieldsIf_load_mid (by rfl) 41 (.tmp 3) rfl z (0) rfl (k.cs) _ (fun W hW => range_blk (hA.box.on hW)) Try.underlying41 rfl (load41 k)) (by assumption) ?_
            try simp only [Act.put, List.setIfInBounds_toArray, List.set_cons_zero, List.set_cons_succ]
            refine wpAnyH_take (i := 4) (oi := ⟨some 18, _, _, _, _, _⟩) (v := ?_) rfl (by kernel_rfl) (by kernel_rfl) (by kernel_rfl) (fun _ _ _ h => h) (Or.inl ⟨by rfl, ?_⟩) (by assumption) ?_
            rotate_left 1
            · (intro W hSw; go_simp <;> with_reducible rfl)
            try simp only [Act.put, List.setIfInBounds_toArray, List.set_cons_zero, List.set_cons_succ]
            refine wpAnyH_take (i := 5) (oi := ⟨some 19, _, _, _, _, _⟩) (v := ?_) rfl (by kernel_rfl) (by kernel_rfl) (by kernel_rfl) (fun _ _ _ h => h) (Or.inl ⟨by rfl, ?_⟩) (by assumption) ?_
            rotate_left 1
            · (intro W hSw; go_simp <;> with_reducible rfl)
            try simp only [Act.put, List.setIfInBounds_toArray, List.set_cons_zero, List.set_cons_succ]
            refine wpAnyH_take (i := 6) (oi := ⟨some 20, _, _, _, _, _⟩) (v := ?_) rfl (by kernel_rfl) (by kernel_rfl) (by kernel_rfl) (fun _ _ _ h => h) (Or.inl ⟨by rfl, ?_⟩) (by assumption) ?_
            rotate_left 1
            · (intro W hSw; go_simp <;> with_reducible rfl)
            try simp only [Act.put, List.setIfInBounds_toArray, List.set_cons_zero, List.set_cons_succ]
            refine wpAnyH_take (i := 7) (oi := ⟨some 21, _, _, _, _, _⟩) (v := .agg (List.toArray (x.cs))) rfl (by kernel_rfl) (by kernel_rfl) (by kernel_rfl) (fun _ _ _ h => h) (yieldsIf_load_mid (by rfl) 41 (.tmp 20) rfl g (o + j * 3) rfl (x.cs) _ (fun W hW => tS W (hA.on hW)) Try.underlying41 rfl (load41 x)) (by assumption) ?_
            try simp only [Act.put, List.setIfInBounds_toArray, List.set_cons_zero, List.set_cons_succ]
            refine wpAnyH_ready (rs := [8]) (by kernel_rfl) (by simp) ?_
            refine AllReadyH.cons rfl (fun K hK => ?_) AllReadyH.nil
            go_simp
            refine (hle _).mono ?_
            rintro e w2 ⟨rfl, hb2⟩
            replace hb2 := k0.trans (hb2.mono k0.size)
            have hKeep := hb2
            refine hK.out _ _ ?_ (fun hHeld1 => ?_)
            · exact hKeep
            clear hHeld hK K hKeep
            try simp only [Act.put, List.setIfInBounds_toArray, List.set_cons_zero, List.set_cons_succ]
            refine wpAnyH_take (i := 9) (oi := ⟨some 23, _, _, _, _, _⟩) (v := ?_) rfl (by kernel_rfl) (by kernel_rfl) (by kernel_rfl) (fun _ _ _ h => h) (Or.inl ⟨by rfl, ?_⟩) (by assumption) ?_
            rotate_left 1
            · (intro W hSw; go_simp <;> with_reducible rfl)
            try simp only [Act.put, List.setIfInBounds_toArray, List.set_cons_zero, List.set_cons_succ]
            refine wpAnyH_done (by kernel_rfl) ?_ _
            refine NoPanic.normal ?_
            clear hle
            replace hA := hA.on hb2
            replace hO := ownB_below hO hb2
            replace hBB := hBB.trans (hb2.mono (Nat.le_trans hm0 (Nat.le_refl _)))
            clear hb2
            have k1 : Below w2.heap.size w2 w2.drew := (Below.refl _ w2).drew
            go_wp2_with fail
            refine wp_region_noPanic ?_
            refine wp_region_held_drew (S := (fun W => Below w2.heap.size w2 W)) (by kernel_rfl) k1 (fun hHeld => ?_)
            refine wpAnyH_take (i := 0) (oi := ⟨some 28, _, _, _, _, _⟩) (v := ?_) rfl (by kernel_rfl) (by kernel_rfl) (by kernel_rfl) (fun _ _ _ h => h) (Or.inl ⟨by rfl, ?_⟩) (by assumption) ?_
            rotate_left 1
            · (intro W hSw; go_simp <;> with_reducible rfl)
            try simp only [Act.put, List.setIfInBounds_toArray, List.set_cons_zero, List.set_cons_succ]
            refine wpAnyH_take (i := 1) (oi := ⟨some 29, _, _, _, _, _⟩) (v := ?_) rfl (by kernel_rfl) (by kernel_rfl) (by kernel_rfl) (fun _ _ _ h => h) (Or.inl ⟨by rfl, ?_⟩) (by assumption) ?_
            rotate_left 1
            · (intro W hSw; go_simp <;> with_reducible rfl)
            try simp only [Act.put, List.setIfInBounds_toArray, List.set_cons_zero, List.set_cons_succ]
            refine wpAnyH_take (i := 2) (oi := ⟨some 30, _, _, _, _, _⟩) (v := ?_) rfl (by kernel_rfl) (by kernel_rfl) (by kernel_rfl) (fun _ _ _ h => h) (Or.inl ⟨by rfl, ?_⟩) (by assumption) ?_
            rotate_left 1
            · (intro W hSw; go_simp <;> with_reducible rfl)
            try simp only [Act.put, List.setIfInBounds_toArray, List.set_cons_zero, List.set_cons_succ]
            refine wpAnyH_take (i := 3) (oi := ⟨some 31, _, _, _, _, _⟩) (v := ?_) rfl (by kernel_rfl) (by kernel_rfl) (by kernel_rfl) (fun _ _ _ h => h) (Or.inl ⟨by rfl, ?_⟩) (by assumption) ?_
            rotate_left 1
            · (intro W hSw; go_simp <;> with_reducible rfl)
            try simp only [Act.put, List.setIfInBounds_toArray, List.set_cons_zero, List.set_cons_succ]
            refine wpAnyH_take (i := 4) (oi := ⟨some 32, _, _, _, _, _⟩) (v := ?_) rfl (by kernel_rfl) (by kernel_rfl) (by kernel_rfl) (fun _ _ _ h => h) (Or.inl ⟨by rfl, ?_⟩) (by assumption) ?_
            rotate_left 1
            · (intro W hSw; go_simp <;> with_reducible rfl)
            try simp only [Act.put, List.setIfInBounds_toArray, List.set_cons_zero, List.set_cons_succ]
            refine wpAnyH_take (i := 5) (oi := ⟨some 33, _, _, _, _, _⟩) (v := .agg (List.toArray (x.cs))) rfl (by kernel_rfl) (by kernel_rfl) (by kernel_rfl) (fun _ _ _ h => h) (yieldsIf_load_mid (by rfl) 41 (.tmp 32) rfl g (o + j * 3) rfl (x.cs) _ (fun W hW => tS W (hA.on hW)) Try.underlying41 rfl (load41 x)) (by assumption) ?_
            try simp only [Act.put, List.setIfInBounds_toArray, List.set_cons_zero, List.set_cons_succ]
            refine wpAnyH_take (i := 6) (oi := ⟨some 34, _, _, _, _, _⟩) (v := .agg (List.toArray (k.cs))) rfl (by kernel_rfl) (by kernel_rfl) (by kernel_rfl) (fun _ _ _ h => h) (yieldsIf_load_mid (by rfl) 41 (.tmp 3) rfl z (0) rfl (k.cs) _ (fun W hW => range_blk (hA.box.on hW)) Try.underlying41 rfl (load41 k)) (by assumption) ?_
            try simp only [Act.put, List.setIfInBounds_toArray, List.set_cons_zero, List.set_cons_succ]
            refine wpAnyH_take (i := 7) (oi := ⟨some 35, _, _, _, _, _⟩) (v := ?_) rfl (by kernel_rfl) (by kernel_rfl) (by kernel_rfl) (fun _ _ _ h => h) (Or.inl ⟨by rfl, ?_⟩) (by assumption) ?_
            rotate_left 1
            · (intro W hSw; go_simp <;> with_reducible rfl)
            try simp only [Act.put, List.setIfInBounds_toArray, List.set_cons_zero, List.set_cons_succ]
            refine wpAnyH_take (i := 8) (oi := ⟨some 36, _, _, _, _, _⟩) (v := ?_) rfl (by kernel_rfl) (by kernel_rfl) (by kernel_rfl) (fun _ _ _ h => h) (Or.inl ⟨by rfl, ?_⟩) (by assumption) ?_
            rotate_left 1
            · (intro W hSw; go_simp <;> with_reducible rfl)
            try simp only [Act.put, List.setIfInBounds_toArray, List.set_cons_zero, List.set_cons_succ]
            refine wpAnyH_take (i := 9) (oi := ⟨some 6, _, _, _, _, _⟩) (v := ?_) rfl (by kernel_rfl) (by kernel_rfl) (by kernel_rfl) (fun _ _ _ h => h) (Or.inl ⟨by rfl, ?_⟩) (by assumption) ?_
            rotate_left 1
            · (intro W hSw; go_simp <;> with_reducible rfl)
            try simp only [Act.put, List.setIfInBounds_toArray, List.set_cons_zero, List.set_cons_succ]
            refine wpAnyH_done (by kernel_rfl) ?_ _
            refine NoPanic.normal ?_
            generalize w2.drew = w3 at k1 ⊢
            replace hO := ownB_below hO k1
            have hm2 := hA.most
            replace hBB := hBB.trans (k1.mono hm2)
            replace hA := hA.on k1
            clear k1 hm2
            have hrx := tS _ hA
            have hm1 := hA.most
            have ho1 := hO.alloc (.cells #[.int .i64 x.k, .int .i64 x.t, .int .i64 x.p] 41)
            have hnw : Blk (w3.alloc (.cells #[.int .i64 x.k, .int .i64 x.t, .int .i64 x.p] 41)) w3.heap.size 41 #[.int .i64 x.k, .int .i64 x.t, .int .i64 x.p] := heap_alloc_new w3 _
            go_wp2_with (first
              | (refine wpList_load_mid rfl 41 (.tmp 40) rfl g (o + j * 3) rfl [.int .i64 x.k, .int .i64 x.t, .int .i64 x.p] _ hrx Try.underlying41 rfl (load41 x) ?_)
              | (at_builtin; refine wpList_append_lies _ rfl _ _ 32 rfl (z + 1) 41 i0 (.agg noK.cs.toArray) 3 24 Try.underlying32 hi hz0 hz1 hz2 rfl (by decide) (.slice A' m cp) m (flatK O) rfl ho1 ⟨w3.heap.size, 0, none⟩ 1 1 [.int .i64 x.k, .int .i64 x.t, .int .i64 x.p] rfl rfl (World.news_of_block (cs := #[.int .i64 x.k, .int .i64 x.t, .int .i64 x.p]) (t := 41) (fr := (0, 0)) hnw) x.one (by decide) (by unfold maxLen; omega) (by omega) (by simp; omega) (w3.heap.size + 1) (by simp) ?_; intro gg7 cq7 w7 hown hgrow hat hlt2))
            have hbn := grown_from hm1 (.cells #[.int .i64 x.k, .int .i64 x.t, .int .i64 x.p] 41) hO hgrow
            replace hA := hA.next hbn
            replace hBB := hBB.trans hbn
            replace hown := own_snoc x hown
            clear hO ho1 hnw hgrow hat hlt2 hbn hm1
            clear hrx tS
            go_wp2_with fail
            go_roundw
            case rel =>
              have e : m + 1 = (O ++ [x]).length := by rw [List.length_append, List.length_singleton, ← EM.out]
              refine ⟨j + 1, by simp, by omega, some ⟨gg7, 0, none⟩, cq7, O ++ [x], true, by rw [e], rfl, hA, by rw [← e]; exact hown, adds_same HD.out HX.out HLE.out HSM.out, ⟨by rw [← e]; have := HM.out.2 (by simp); omega, fun _ => by rw [← e]; have := HM.out.2 (by simp); omega⟩, hBB⟩
            case measure => simp [intOf]; omega
          · have heq := eq41 x k
            rw [decide_eq_false hsame] at heq
            have HSM := Lib.hid hsame
            clear hsame
            have hm0 : z + 1 ≤ wr.heap.size := hA.most
            have k0 : Below wr.heap.size wr wr.drew := (Below.refl _ wr).drew
            have hle := fun W => less_any k x W
            rw [decide_eq_false hless] at hle
            have HLE := Lib.hid hless
            clear hless
            go_wp2_with fail
            refine wp_region_noPanic ?_
            refine wp_region_held_drew (S := (fun W => Below wr.heap.size wr W)) (by kernel_rfl) k0 (fun hHeld => ?_)
            refine wpAnyH_take (i := 0) (oi := ⟨some 14, _, _, _, _, _⟩) (v := ?_) rfl (by kernel_rfl) (by kernel_rfl) (by kernel_rfl) (fun _ _ _ h => h) (Or.inl ⟨by rfl, ?_⟩) (by assumption) ?_
            rotate_left 1
            · (intro W hSw; go_simp <;> with_reducible rfl)
            try simp only [Act.put, List.setIfInBounds_toArray, List.set_cons_zero, List.set_cons_succ]
            refine wpAnyH_take (i := 1) (oi := ⟨some 15, _, _, _, _, _⟩) (v := ?_) rfl (by kernel_rfl) (by kernel_rfl) (by kernel_rfl) (fun _ _ _ h => h) (Or.inl ⟨by rfl, ?_⟩) (by assumption) ?_
            rotate_left 1
            · (intro W hSw; go_simp <;> with_reducible rfl)
            try simp only [Act.put, List.setIfInBounds_toArray, List.set_cons_zero, List.set_cons_succ]
            refine wpAnyH_take (i := 2) (oi := ⟨some 16, _, _, _, _, _⟩) (v := ?_) rfl (by kernel_rfl) (by kernel_rfl) (by kernel_rfl) (fun _ _ _ h => h) (Or.inl ⟨by rfl, ?_⟩) (by assumption) ?_
            rotate_left 1
            · (intro W hSw; go_simp <;> with_reducible rfl)
            try simp only [Act.put, List.setIfInBounds_toArray, List.set_cons_zero, List.set_cons_succ]
            refine wpAnyH_take (i := 3) (oi := ⟨some 17, _, _, _, _, _⟩) (v := .agg (List.toArray (k.cs))) rfl (by kernel_rfl) (by kernel_rfl) (by kernel_rfl) (fun _ _ _ h => h) (yieldsIf_load_mid (by rfl) 41 (.tmp 3) rfl z (0) rfl (k.cs) _ (fun W hW => range_blk (hA.box.on hW)) Try.underlying41 rfl (load41 k)) (by assumption) ?_
            try simp only [Act.put, List.setIfInBounds_toArray, List.set_cons_zero, List.set_cons_succ]
            refine wpAnyH_take (i := 4) (oi := ⟨some 18, _, _, _, _, _⟩) (v := ?_) rfl (by kernel_rfl) (by kernel_rfl) (by kernel_rfl) (fun _ _ _ h => h) (Or.inl ⟨by rfl, ?_⟩) (by assumption) ?_
            rotate_left 1
            · (intro W hSw; go_simp <;> with_reducible rfl)
            try simp only [Act.put, List.setIfInBounds_toArray, List.set_cons_zero, List.set_cons_succ]
            refine wpAnyH_take (i := 5) (oi := ⟨some 19, _, _, _, _, _⟩) (v := ?_) rfl (by kernel_rfl) (by kernel_rfl) (by kernel_rfl) (fun _ _ _ h => h) (Or.inl ⟨by rfl, ?_⟩) (by assumption) ?_
            rotate_left 1
            · (intro W hSw; go_simp <;> with_reducible rfl)
            try simp only [Act.put, List.setIfInBounds_toArray, List.set_cons_zero, List.set_cons_succ]
            refine wpAnyH_take (i := 6) (oi := ⟨some 20, _, _, _, _, _⟩) (v := ?_) rfl (by kernel_rfl) (by kernel_rfl) (by kernel_rfl) (fun _ _ _ h => h) (Or.inl ⟨by rfl, ?_⟩) (by assumption) ?_
            rotate_left 1
            · (intro W hSw; go_simp <;> with_reducible rfl)
            try simp only [Act.put, List.setIfInBounds_toArray, List.set_cons_zero, List.set_cons_succ]
            refine wpAnyH_take (i := 7) (oi := ⟨some 21, _, _, _, _, _⟩) (v := .agg (List.toArray (x.cs))) rfl (by kernel_rfl) (by kernel_rfl) (by kernel_rfl) (fun _ _ _ h => h) (yieldsIf_load_mid (by rfl) 41 (.tmp 20) rfl g (o + j * 3) rfl (x.cs) _ (fun W hW => tS W (hA.on hW)) Try.underlying41 rfl (load41 x)) (by assumption) ?_
            try simp only [Act.put, List.setIfInBounds_toArray, List.set_cons_zero, List.set_cons_succ]
            refine wpAnyH_ready (rs := [8]) (by kernel_rfl) (by simp) ?_
            refine AllReadyH.cons rfl (fun K hK => ?_) AllReadyH.nil
            go_simp
            refine (hle _).mono ?_
            rintro e w2 ⟨rfl, hb2⟩
            replace hb2 := k0.trans (hb2.mono k0.size)
            have hKeep := hb2
            refine hK.out _ _ ?_ (fun hHeld1 => ?_)
            · exact hKeep
            clear hHeld hK K hKeep
            try simp only [Act.put, List.setIfInBounds_toArray, List.set_cons_zero, List.set_cons_succ]
            refine wpAnyH_take (i := 9) (oi := ⟨some 23, _, _, _, _, _⟩) (v := ?_) rfl (by kernel_rfl) (by kernel_rfl) (by kernel_rfl) (fun _ _ _ h => h) (Or.inl ⟨by rfl, ?_⟩) (by assumption) ?_
            rotate_left 1
            · (intro W hSw; go_simp <;> with_reducible rfl)
            try simp only [Act.put, List.setIfInBounds_toArray, List.set_cons_zero, List.set_cons_succ]
            refine wpAnyH_done (by kernel_rfl) ?_ _
            refine NoPanic.normal ?_
            clear hle
            replace hA := hA.on hb2
            replace hO := ownB_below hO hb2
            replace hBB := hBB.trans (hb2.mono (Nat.le_trans hm0 (Nat.le_refl _)))
            clear hb2
            have k1 : Below w2.heap.size w2 w2.drew := (Below.refl _ w2).drew
            go_wp2_with fail
            refine wp_region_noPanic ?_
            refine wp_region_held_drew (S := (fun W => Below w2.heap.size w2 W)) (by kernel_rfl) k1 (fun hHeld => ?_)
            refine wpAnyH_take (i := 0) (oi := ⟨some 28, _, _, _, _, _⟩) (v := ?_) rfl (by kernel_rfl) (by kernel_rfl) (by kernel_rfl) (fun _ _ _ h => h) (Or.inl ⟨by rfl, ?_⟩) (by assumption) ?_
            rotate_left 1
            · (intro W hSw; go_simp <;> with_reducible rfl)
            try simp only [Act.put, List.setIfInBounds_toArray, List.set_cons_zero, List.set_cons_succ]
            refine wpAnyH_take (i := 1) (oi := ⟨some 29, _, _, _, _, _⟩) (v := ?_) rfl (by kernel_rfl) (by kernel_rfl) (by kernel_rfl) (fun _ _ _ h => h) (Or.inl ⟨by rfl, ?_⟩) (by assumption) ?_
            rotate_left 1
            · (intro W hSw; go_simp <;> with_reducible rfl)
            try simp only [Act.put, List.setIfInBounds_toArray, List.set_cons_zero, List.set_cons_succ]
            refine wpAnyH_take (i := 2) (oi := ⟨some 30, _, _, _, _, _⟩) (v := ?_) rfl (by kernel_rfl) (by kernel_rfl) (by kernel_rfl) (fun _ _ _ h => h) (Or.inl ⟨by rfl, ?_⟩) (by assumption) ?_
            rotate_left 1
            · (intro W hSw; go_simp <;> with_reducible rfl)
            try simp only [Act.put, List.setIfInBounds_toArray, List.set_cons_zero, List.set_cons_succ]
            refine wpAnyH_take (i := 3) (oi := ⟨some 31, _, _, _, _, _⟩) (v := ?_) rfl (by kernel_rfl) (by kernel_rfl) (by kernel_rfl) (fun _ _ _ h => h) (Or.inl ⟨by rfl, ?_⟩) (by assumption) ?_
            rotate_left 1
            · (intro W hSw; go_simp <;> with_reducible rfl)
            try simp only [Act.put, List.setIfInBounds_toArray, List.set_cons_zero, List.set_cons_succ]
            refine wpAnyH_take (i := 4) (oi := ⟨some 32, _, _, _, _, _⟩) (v := ?_) rfl (by kernel_rfl) (by kernel_rfl) (by kernel_rfl) (fun _ _ _ h => h) (Or.inl ⟨by rfl, ?_⟩) (by assumption) ?_
            rotate_left 1
            · (intro W hSw; go_simp <;> with_reducible rfl)
            try simp only [Act.put, List.setIfInBounds_toArray, List.set_cons_zero, List.set_cons_succ]
            refine wpAnyH_take (i := 5) (oi := ⟨some 33, _, _, _, _, _⟩) (v := .agg (List.toArray (x.cs))) rfl (by kernel_rfl) (by kernel_rfl) (by kernel_rfl) (fun _ _ _ h => h) (yieldsIf_load_mid (by rfl) 41 (.tmp 32) rfl g (o + j * 3) rfl (x.cs) _ (fun W hW => tS W (hA.on hW)) Try.underlying41 rfl (load41 x)) (by assumption) ?_
            try simp only [Act.put, List.setIfInBounds_toArray, List.set_cons_zero, List.set_cons_succ]
            refine wpAnyH_take (i := 6) (oi := ⟨some 34, _, _, _, _, _⟩) (v := .agg (List.toArray (k.cs))) rfl (by kernel_rfl) (by kernel_rfl) (by kernel_rfl) (fun _ _ _ h => h) (yieldsIf_load_mid (by rfl) 41 (.tmp 3) rfl z (0) rfl (k.cs) _ (fun W hW => range_blk (hA.box.on hW)) Try.underlying41 rfl (load41 k)) (by assumption) ?_
            try simp only [Act.put, List.setIfInBounds_toArray, List.set_cons_zero, List.set_cons_succ]
            refine wpAnyH_take (i := 7) (oi := ⟨some 35, _, _, _, _, _⟩) (v := ?_) rfl (by kernel_rfl) (by kernel_rfl) (by kernel_rfl) (fun _ _ _ h => h) (Or.inl ⟨by rfl, ?_⟩) (by assumption) ?_
            rotate_left 1
            · (intro W hSw; go_simp <;> with_reducible rfl)
            try simp only [Act.put, List.setIfInBounds_toArray, List.set_cons_zero, List.set_cons_succ]
            refine wpAnyH_take (i := 8) (oi := ⟨some 36, _, _, _, _, _⟩) (v := ?_) rfl (by kernel_rfl) (by kernel_rfl) (by kernel_rfl) (fun _ _ _ h => h) (Or.inl ⟨by rfl, ?_⟩) (by assumption) ?_
            rotate_left 1
            · (intro W hSw; go_simp <;> with_reducible rfl)
            try simp only [Act.put, List.setIfInBounds_toArray, List.set_cons_zero, List.set_cons_succ]
            refine wpAnyH_take (i := 9) (oi := ⟨some 6, _, _, _, _, _⟩) (v := ?_) rfl (by kernel_rfl) (by kernel_rfl) (by kernel_rfl) (fun _ _ _ h => h) (Or.inl ⟨by rfl, ?_⟩) (by assumption) ?_
            rotate_left 1
            · (intro W hSw; go_simp <;> with_reducible rfl)
            try simp only [Act.put, List.setIfInBounds_toArray, List.set_cons_zero, List.set_cons_succ]
            refine wpAnyH_done (by kernel_rfl) ?_ _
            refine NoPanic.normal ?_
            generalize w2.drew = w3 at k1 ⊢
            replace hO := ownB_below hO k1
            have hm2 := hA.most
            replace hBB := hBB.trans (k1.mono hm2)
            replace hA := hA.on k1
            clear k1 hm2
            have hrx := tS _ hA
            have hm1 := hA.most
            have ho1 := hO.alloc (.cells #[.int .i64 x.k, .int .i64 x.t, .int .i64 x.p] 41)
            have hnw : Blk (w3.alloc (.cells #[.int .i64 x.k, .int .i64 x.t, .int .i64 x.p] 41)) w3.heap.size 41 #[.int .i64 x.k, .int .i64 x.t, .int .i64 x.p] := heap_alloc_new w3 _
            go_wp2_with (first
              | (refine wpList_load_mid rfl 41 (.tmp 40) rfl g (o + j * 3) rfl [.int .i64 x.k, .int .i64 x.t, .int .i64 x.p] _ hrx Try.underlying41 rfl (load41 x) ?_)
              | (at_builtin; refine wpList_append_lies _ rfl _ _ 32 rfl (z + 1) 41 i0 (.agg noK.cs.toArray) 3 24 Try.underlying32 hi hz0 hz1 hz2 rfl (by decide) (.slice A' m cp) m (flatK O) rfl ho1 ⟨w3.heap.size, 0, none⟩ 1 1 [.int .i64 x.k, .int .i64 x.t, .int .i64 x.p] rfl rfl (World.news_of_block (cs := #[.int .i64 x.k, .int .i64 x.t, .int .i64 x.p]) (t := 41) (fr := (0, 0)) hnw) x.one (by decide) (by unfold maxLen; omega) (by omega) (by simp; omega) (w3.heap.size + 1) (by simp) ?_; intro gg7 cq7 w7 hown hgrow hat hlt2))
            have hbn := grown_from hm1 (.cells #[.int .i64 x.k, .int .i64 x.t, .int .i64 x.p] 41) hO hgrow
            replace hA := hA.next hbn
            replace hBB := hBB.trans hbn
            replace hown := own_snoc x hown
            clear hO ho1 hnw hgrow hat hlt2 hbn hm1
            clear hrx tS
            go_wp2_with fail
            go_roundw
            case rel =>
              have e : m + 1 = (O ++ [x]).length := by rw [List.length_append, List.length_singleton, ← EM.out]
              refine ⟨j + 1, by simp, by omega, some ⟨gg7, 0, none⟩, cq7, O ++ [x], false, by rw [e], rfl, hA, by rw [← e]; exact hown, adds_more HD.out HX.out HLE.out HSM.out, ⟨by rw [← e]; have := HM.out.2 (by simp); omega, fun _ => by rw [← e]; have := HM.out.2 (by simp); omega⟩, hBB⟩
            case measure => simp [intOf]; omega
    · obtain rfl : j = n := by omega
      have t0 : decide ((j : Int) < (j : Int)) = false := decide_eq_false (by omega)
      obtain ⟨m, em⟩ : ∃ m, m = O.length := ⟨_, rfl⟩
      rw [← em] at hO hM ⊢
      have EM := Lib.hid em
      have hm900 : m ≤ 901 := by have := hM.1; omega
      have HD := Lib.hid hD
      have HB := Lib.hid (And.intro hBB hb0)
      clear em hA0 hD hM hBB hb0
      have hdr : l.drop j = [] := List.drop_eq_nil_of_le (by rw [HL.out]; exact Nat.le_refl _)
      cases put with
      | true =>
        have e : addK k l = O := by
          have := HD.out
          unfold Adds at this
          rw [hdr] at this
          simpa using this.symm
        have HE := Lib.hid e
        have hs := own_sees hO
        have hnew := own_new hO
        have HW := Lib.hid hnew
        clear hdr e hO hnew
        go_wp2
        go_ret
        have ez := EZ.out
        rw [HE.out, ← EM.out, ← ez]
        exact ⟨A', cp, rfl, hs, HB.out.2.trans (HB.out.1.mono (Nat.le_succ z)), fun g hg => by have := HW.out g hg; omega⟩
      | false =>
        have e : addK k l = O ++ [k] := by
          have := HD.out
          unfold Adds at this
          rw [hdr] at this
          simpa [addK] using this.symm
        have HE := Lib.hid e
        clear hdr e
        have hBx := hA.box
        have hm1 := hA.most
        have ho1 := hO.alloc (.cells #[.int .i64 k.k, .int .i64 k.t, .int .i64 k.p] 41)
        have hnw : Blk (wr.alloc (.cells #[.int .i64 k.k, .int .i64 k.t, .int .i64 k.p] 41)) wr.heap.size 41 #[.int .i64 k.k, .int .i64 k.t, .int .i64 k.p] := heap_alloc_new wr _
        go_wp2_with (first
          | (refine wpList_load_row rfl 41 (.tmp 3) rfl z rfl 41 #[.int .i64 k.k, .int .i64 k.t, .int .i64 k.p] (0, 0) _ hBx Try.underlying41 rfl size41 ?_)
          | (at_builtin; refine wpList_append_lies _ rfl _ _ 32 rfl (z + 1) 41 i0 (.agg noK.cs.toArray) 3 24 Try.underlying32 hi hz0 hz1 hz2 rfl (by decide) (.slice A' m cp) m (flatK O) rfl ho1 ⟨wr.heap.size, 0, none⟩ 1 1 [.int .i64 k.k, .int .i64 k.t, .int .i64 k.p] rfl rfl (World.news_of_block (cs := #[.int .i64 k.k, .int .i64 k.t, .int .i64 k.p]) (t := 41) (fr := (0, 0)) hnw) k.one (by decide) (by unfold maxLen; omega) (by omega) (by simp; omega) (wr.heap.size + 1) (by simp) ?_; intro gg5 cq5 w5 hown hgrow hat hlt2))
        have hbn := grown_from hm1 (.cells #[.int .i64 k.k, .int .i64 k.t, .int .i64 k.p] 41) hO hgrow
        replace hown := own_snoc k hown
        have hs := own_sees hown
        have HW := Lib.hid (own_new hown)
        clear hO ho1 hnw hgrow hat hlt2 hm1 hBx
        go_ret
        have ez := EZ.out
        have e : m + 1 = (O ++ [k]).length := by rw [List.length_append, List.length_singleton, ← EM.out]
        rw [HE.out, ← e, ← ez]
        exact ⟨some ⟨gg5, 0, none⟩, cq5, rfl, hs, (HB.out.2.trans (HB.out.1.mono (Nat.le_succ z))).trans (hbn.mono (Nat.le_succ z)), fun g hg => by have := HW.out g hg; omega⟩
end
end Go.Proofs.Ytenobgelhkpjcaa
