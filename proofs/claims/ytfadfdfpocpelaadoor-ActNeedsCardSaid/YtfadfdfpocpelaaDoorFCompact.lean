/- Of places that stand side by side and are the same the first alone. Conditions: at most 1000 places. -/
import Derived.Test.YtfadfdfpocpelaaDoorFConcat
namespace Go.Proofs.YtfadfdfpocpelaaDoor
open Go.ChangeShapes Go.WideShapes Go.RowKit

/-- An element of a list of the call's own is set. -/
theorem own_put {α : Type} {f : α → List Value} {k B : Nat} (hf : ∀ x, (f x).length = k) (hk : 0 < k) {w : World} {t : TypeId} {A : Option Addr} {n cap j g : Nat} {l : List α} {x : α} (h : w.ownsRow B t k (.slice A n cap) n (l.flatMap f)) (hA : A = some ⟨g, 0, none⟩) (hj : j < l.length) :
    (w.setCells g (j * k) (f x)).ownsRow B t k (.slice A n cap) n ((l.set j x).flatMap f) := by
  have hl : l.length = n := by
    have := h.1
    rw [flat_len hf] at this
    exact Nat.eq_of_mul_eq_mul_right hk this
  refine ⟨by rw [flat_len hf, List.length_set, hl], ?_⟩
  rcases h.2 with ⟨e, h0⟩ | ⟨g', c', cur, e, hb, hh, h1, h2, h3, h4⟩
  · omega
  · injection e with e1 e2 e3
    subst e3
    rw [hA] at e1
    injection e1 with e1
    injection e1 with e1
    subst e1
    have hm : j * k + k ≤ cap * k := by
      have : (j + 1) * k ≤ cap * k := Nat.mul_le_mul_right _ (by omega)
      rw [Nat.add_mul] at this
      omega
    have hmn : j * k + k ≤ n * k := by
      have : (j + 1) * k ≤ n * k := Nat.mul_le_mul_right _ (by omega)
      rw [Nat.add_mul] at this
      omega
    have hin : j * k + k ≤ cur.size := by rw [h3]; exact hm
    refine .inr ⟨g, cap, _, by rw [hA], hb, heap_cells (f x) (j * k) w cur hh, h1, h2, by rw [splice_size, h3], ?_⟩
    apply List.ext_getElem?
    intro i
    rw [flat_set hf l j x i hj, List.getElem?_take, Array.getElem?_toList, splice_get _ _ _ _ (by rw [hf]; exact hin), hf, ← h4, List.getElem?_take, Array.getElem?_toList]
    by_cases h5 : j * k ≤ i ∧ i < j * k + k
    · rw [if_pos h5, if_pos h5, if_pos (by omega)]
    · rw [if_neg h5, if_neg h5, Array.getElem?_toList]
theorem from22 (g n cap k : Nat) (h0 : k < cap) (hk : k ≤ n) (w : World) :
    (Instr.slice 48 (.slice (some ⟨g, 0, none⟩) n cap) (some (.int .i64 (k : Int))) none none).run Tryd.prog w = .ok (.slice (some ⟨g, k * 3, none⟩) (n - k) (cap - k)) w := by
  rw [run_slice_l w 48 _ n cap under48 .i64 _ (by omega) (by omega), sizeE48]
  simp only [Result.andThen, sliced, Int.toNat_natCast]
  rw [if_neg (by omega)]
  simp [Addr.add]
  exact fun h => h.symm
theorem zero23 (w : World) : (zeroValue 23).run Tryd.prog w = .ok (.agg #[.int .i64 0, .int .i64 0, .int .i64 0]) w := by kernel_rfl
/-- Keys are cleared. -/
theorem clear22 (w : World) (b o n c : Nat) (hn : 0 < n) (hc : ∀ j, j < n * 3 → (w.cell? ⟨b, o + j, none⟩).isSome = true) (hf : ∀ j, j < n * 3 → w.frozen? ⟨b, o + j, none⟩ = false) :
    ∃ zs : List Value, zs.length = n * 3 ∧ ∀ ty, (Builtin.clear_ #[48] ty #[.slice (some ⟨b, o, none⟩) n c]).run Tryd.prog w = .ok (.tuple #[]) (w.setCells b o zs) := by
  refine ⟨(Builtin.zeroCells (Value.agg #[.int .i64 0, .int .i64 0, .int .i64 0]).cells n).toList, by simp [Builtin.zeroCells, Value.cells], fun ty => ?_⟩
  have hone : ∀ v ∈ (Builtin.zeroCells (Value.agg #[.int .i64 0, .int .i64 0, .int .i64 0]).cells n).toList, v.oneCell' = true := by
    intro v hv
    simp only [Builtin.zeroCells, Array.toList_map, List.mem_map] at hv
    obtain ⟨i, _, rfl⟩ := hv
    have : i % 3 = 0 ∨ i % 3 = 1 ∨ i % 3 = 2 := by omega
    rcases this with e | e | e <;> simp [Value.cells, e, Value.oneCell']
  have hlen : (Builtin.zeroCells (Value.agg #[.int .i64 0, .int .i64 0, .int .i64 0]).cells n).toList.length = n * 3 := by simp [Builtin.zeroCells, Value.cells]
  have hst := run_storeCells_cells (P := Tryd.prog) b o (Builtin.zeroCells (Value.agg #[.int .i64 0, .int .i64 0, .int .i64 0]).cells n).toList 0 w (by rw [hlen]; simpa using hc) (by rw [hlen]; simpa using hf) hone
  simp only [Nat.add_zero] at hst
  obtain ⟨m, rfl⟩ : ∃ m, n = m + 1 := ⟨n - 1, by omega⟩
  simp [Builtin.clear_, run_underlying under48', hst]
theorem eq32 (x y : Pl) (w : World) : (binOp BinOp.eql 23 (.agg x.cs.toArray) (.agg y.cs.toArray)).run Tryd.prog w = .ok (.bool (decide (x = y))) w := by
  obtain ⟨a, b, c⟩ := x
  obtain ⟨a', b', c'⟩ := y
  have e : decide ((⟨a, b, c⟩ : Pl) = ⟨a', b', c'⟩) = (a == a' && (b == b' && c == c')) := by
    by_cases h1 : a = a' <;> by_cases h2 : b = b' <;> by_cases h3 : c = c' <;> simp [h1, h2, h3]
  rw [e]
  unfold Pl.cs
  go_simp
  clear e
  by_cases h1 : a = a' <;> by_cases h2 : b = b' <;> by_cases h3 : c = c' <;> simp [h1, h2, h3]
theorem neq32 (x y : Pl) (w : World) : (binOp BinOp.neq 23 (.agg x.cs.toArray) (.agg y.cs.toArray)).run Tryd.prog w = .ok (.bool (!decide (x = y))) w := by
  obtain ⟨a, b, c⟩ := x
  obtain ⟨a', b', c'⟩ := y
  have e : decide ((⟨a, b, c⟩ : Pl) = ⟨a', b', c'⟩) = (a == a' && (b == b' && c == c')) := by
    by_cases h1 : a = a' <;> by_cases h2 : b = b' <;> by_cases h3 : c = c' <;> simp [h1, h2, h3]
  rw [e]
  unfold Pl.cs
  go_simp
  clear e
  by_cases h1 : a = a' <;> by_cases h2 : b = b' <;> by_cases h3 : c = c' <;> simp [h1, h2, h3]
section
variable {w : World} {B g n cap : Nat} {l : List Pl}
theorem pl_len {w : World} {B n cap : Nat} {A : Option Addr} {l : List Pl} (h : w.ownsRow B 23 3 (.slice A n cap) n (flatP l)) : l.length = n := by
  have := h.1
  unfold flatP at this
  rw [flat_len Pl.len] at this
  omega
theorem pl_at {w : World} {B n cap g : Nat} {l : List Pl} (h : w.ownsRow B 23 3 (.slice (some ⟨g, 0, none⟩) n cap) n (flatP l)) {i : Nat} {x : Pl} (hx : l[i]? = some x) : w.rangeAt g (i * 3) x.cs ∧ w.there g (i * 3) 3 := by
  obtain ⟨g', e, _, h1, h2⟩ := own_at Pl.len (own_low h) hx (by omega)
  injection e with e
  injection e with e
  subst e
  exact ⟨h1, h2⟩
theorem ded_next (l : List Pl) (j : Nat) (x y : Pl) (hj : 0 < j) (hx : l[j]? = some x) (hy : l[j - 1]? = some y) : dedTo l (j + 1) = if x = y then dedTo l j else dedTo l j ++ [x] := by
  rw [dedTo_succ]
  by_cases e : x = y
  · rw [if_pos e, if_neg (by rw [hx, hy, e]; simp; omega)]
    simp
  · rw [if_neg e, if_pos (.inr (by rw [hx, hy]; simpa using e)), hx]
    rfl
theorem ded_set (l D : List Pl) (x : Pl) (h : D.length < l.length) : (D ++ l.drop D.length).set D.length x = (D ++ [x]) ++ l.drop (D ++ [x]).length := by
  rw [List.set_append_right _ _ (Nat.le_refl _), Nat.sub_self, List.length_append, List.length_singleton, List.append_assoc]
  congr 1
  obtain ⟨y, r, e⟩ : ∃ y r, l.drop D.length = y :: r := by
    cases hd : l.drop D.length with
    | nil => rw [List.drop_eq_nil_iff] at hd; omega
    | cons y r => exact ⟨y, r, rfl⟩
  rw [e, List.set_cons_zero, ← List.drop_drop, e]
  rfl
set_option maxRecDepth 100000 in
set_option maxHeartbeats 4000000 in
theorem compact_some (h : w.ownsRow B 23 3 (.slice (some ⟨g, 0, none⟩) n cap) n (flatP l)) (hn : n ≤ 1000) : Calls Tryd.prog 50 #[.slice (some ⟨g, 0, none⟩) n cap] w fun e w' =>
    e = .returned (.slice (some ⟨g, 0, none⟩) (dedTo l n).length cap) ∧ Sees w' 3 (some ⟨g, 0, none⟩) (dedTo l n).length cap (flatP (dedTo l n)) ∧ Kept (fun k => k = g) w w' := by
  have hl := pl_len h
  obtain ⟨hcap, hmax, _⟩ := own_cap (own_low h)
  by_cases h2 : n < 2
  · have t0 : decide ((n : Int) < 2) = true := decide_eq_true (by omega)
    have e : dedTo l n = l := by rw [dedTo_same l n (by omega) (fun i h1 h2 => by omega), List.take_of_length_le (by omega)]
    have hs := own_sees h
    rw [e, hl]
    clear h e hl
    go_enter Tryd.func50, Tryd.ntmps50
    go_wp2
    go_ret
    exact ⟨rfl, hs, Kept.refl _ _⟩
  have t0 : decide ((n : Int) < 2) = false := decide_eq_false (by omega)
  go_enter Tryd.func50, Tryd.ntmps50
  go_wp2_with fail
  go_loopw [3] (fun v wr => ∃ k : Nat, v = .int .i64 k ∧ 1 ≤ k ∧ k ≤ n ∧ wr.ownsRow B 23 3 (.slice (some ⟨g, 0, none⟩) n cap) n (flatP l) ∧ Kept (fun k => k = g) w wr ∧ ∀ i, 0 < i → i < k → l[i]? ≠ l[i - 1]?) (fun v _ => n - (intOf v).toNat)
  case atStart => exact ⟨1, rfl, Nat.le_refl _, by omega, h, Kept.refl _ _, fun i h1 h2 => by omega⟩
  case round =>
    obtain ⟨k, rfl, hk1, hk, ho, hK, hd⟩ := hrel
    clear h
    by_cases hlt : k < n
    · obtain ⟨p, hp⟩ : ∃ p, k = p + 1 := ⟨k - 1, by omega⟩
      obtain ⟨x, hx⟩ : ∃ x, l[k]? = some x := ⟨_, List.getElem?_eq_getElem (by omega)⟩
      obtain ⟨y, hy⟩ : ∃ x, l[p]? = some x := ⟨_, List.getElem?_eq_getElem (by omega)⟩
      have t1 : decide ((k : Int) < (n : Int)) = true := decide_eq_true (by omega)
      have hkp : (k : Int) - 1 = (p : Int) := by omega
      have hwp : IntKind.i64.wrap (p : Int) = (p : Int) := by rw [IntKind.wrap_i64]; omega
      have b1 : (0 : Int) ≤ (k : Int) := by omega
      have b2 : (k : Int) < (n : Int) := by omega
      have b3 : (0 : Int) ≤ (p : Int) := by omega
      have b4 : (p : Int) < (n : Int) := by omega
      have hS : wr.drew.rangeAt g (k * 3) x.cs ∧ wr.drew.rangeAt g (p * 3) y.cs := ⟨(pl_at ho hx).1, (pl_at ho hy).1⟩
      have HO := Lib.hid (show wr.drew.ownsRow B 23 3 (.slice (some ⟨g, 0, none⟩) n cap) n (flatP l) from ho)
      have HK := Lib.hid (show Kept (fun k => k = g) w wr.drew from ⟨hK.os, hK.tape, hK.output, hK.size, hK.block⟩)
      have heq := eq32 x y
      have HP := Lib.hid hp
      have HD := Lib.hid hd
      clear ho hK hp hd
      by_cases hxy : x = y
      · rw [decide_eq_true hxy] at heq
        have HXY := Lib.hid hxy
        clear hxy
        go_wp2_with fail
        refine wp_region_noPanic ?_
        refine wp_region_held_drew (S := (fun W => W.rangeAt g (k * 3) x.cs ∧ W.rangeAt g (p * 3) y.cs)) (by kernel_rfl) hS (fun hHeld => ?_)
        refine wpAnyH_take (i := 0) (oi := ⟨some 16, _, _, _, _, _⟩) (v := ?_) rfl (by kernel_rfl) (by kernel_rfl) (by kernel_rfl) (fun _ _ _ h => h) (Or.inl ⟨by rfl, ?_⟩) (by assumption) ?_
        rotate_left 1
        · (intro W hSw; go_simp <;> with_reducible rfl)
        try simp only [Act.put, List.setIfInBounds_toArray, List.set_cons_zero, List.set_cons_succ]
        refine wpAnyH_take (i := 1) (oi := ⟨some 17, _, _, _, _, _⟩) (v := ?_) rfl (by kernel_rfl) (by kernel_rfl) (by kernel_rfl) (fun _ _ _ h => h) (Or.inl ⟨by rfl, ?_⟩) (by assumption) ?_
        rotate_left 1
        · (intro W hSw; go_simp <;> with_reducible rfl)
        try simp only [Act.put, List.setIfInBounds_toArray, List.set_cons_zero, List.set_cons_succ]
        refine wpAnyH_take (i := 2) (oi := ⟨some 18, _, _, _, _, _⟩) (v := ?_) rfl (by kernel_rfl) (by kernel_rfl) (by kernel_rfl) (fun _ _ _ h => h) (Or.inl ⟨by rfl, ?_⟩) (by assumption) ?_
        rotate_left 1
        · (intro W hSw; go_simp <;> with_reducible rfl)
        try simp only [Act.put, List.setIfInBounds_toArray, List.set_cons_zero, List.set_cons_succ]
        refine wpAnyH_take (i := 3) (oi := ⟨some 19, _, _, _, _, _⟩) (v := .agg (List.toArray (x.cs))) rfl (by kernel_rfl) (by kernel_rfl) (by kernel_rfl) (fun _ _ _ h => h) (yieldsIf_load_mid (by rfl) 23 (.tmp 18) rfl g (k * 3) rfl (x.cs) _ (fun W hW => hW.1) Tryd.underlying23 rfl (load23 x)) (by assumption) ?_
        try simp only [Act.put, List.setIfInBounds_toArray, List.set_cons_zero, List.set_cons_succ]
        refine wpAnyH_take (i := 4) (oi := ⟨some 20, _, _, _, _, _⟩) (v := ?_) rfl (by kernel_rfl) (by kernel_rfl) (by kernel_rfl) (fun _ _ _ h => h) (Or.inl ⟨by rfl, ?_⟩) (by assumption) ?_
        rotate_left 1
        · (intro W hSw; go_simp <;> with_reducible rfl)
        try simp only [Act.put, List.setIfInBounds_toArray, List.set_cons_zero, List.set_cons_succ]
        refine wpAnyH_take (i := 5) (oi := ⟨some 21, _, _, _, _, _⟩) (v := ?_) rfl (by kernel_rfl) (by kernel_rfl) (by kernel_rfl) (fun _ _ _ h => h) (Or.inl ⟨by rfl, ?_⟩) (by assumption) ?_
        rotate_left 1
        · (intro W hSw; go_simp <;> with_reducible rfl)
        try simp only [Act.put, List.setIfInBounds_toArray, List.set_cons_zero, List.set_cons_succ]
        refine wpAnyH_take (i := 6) (oi := ⟨some 22, _, _, _, _, _⟩) (v := ?_) rfl (by kernel_rfl) (by kernel_rfl) (by kernel_rfl) (fun _ _ _ h => h) (Or.inl ⟨by rfl, ?_⟩) (by assumption) ?_
        rotate_left 1
        · (intro W hSw; go_simp <;> with_reducible rfl)
        try simp only [Act.put, List.setIfInBounds_toArray, List.set_cons_zero, List.set_cons_succ]
        refine wpAnyH_take (i := 7) (oi := ⟨some 23, _, _, _, _, _⟩) (v := ?_) rfl (by kernel_rfl) (by kernel_rfl) (by kernel_rfl) (fun _ _ _ h => h) (Or.inl ⟨by rfl, ?_⟩) (by assumption) ?_
        rotate_left 1
        · (intro W hSw; go_simp <;> with_reducible rfl)
        try simp only [Act.put, List.setIfInBounds_toArray, List.set_cons_zero, List.set_cons_succ]
        refine wpAnyH_take (i := 8) (oi := ⟨some 24, _, _, _, _, _⟩) (v := .agg (List.toArray (y.cs))) rfl (by kernel_rfl) (by kernel_rfl) (by kernel_rfl) (fun _ _ _ h => h) (yieldsIf_load_mid (by rfl) 23 (.tmp 23) rfl g (p * 3) rfl (y.cs) _ (fun W hW => hW.2) Tryd.underlying23 rfl (load23 y)) (by assumption) ?_
        try simp only [Act.put, List.setIfInBounds_toArray, List.set_cons_zero, List.set_cons_succ]
        refine wpAnyH_take (i := 9) (oi := ⟨some 25, _, _, _, _, _⟩) (v := ?_) rfl (by kernel_rfl) (by kernel_rfl) (by kernel_rfl) (fun _ _ _ h => h) (Or.inl ⟨by rfl, ?_⟩) (by assumption) ?_
        rotate_left 1
        · (intro W hSw; go_simp <;> with_reducible rfl)
        try simp only [Act.put, List.setIfInBounds_toArray, List.set_cons_zero, List.set_cons_succ]
        refine wpAnyH_done (by kernel_rfl) ?_ _
        refine NoPanic.normal ?_
        obtain ⟨m, hm⟩ : ∃ m, m = n - k := ⟨_, rfl⟩
        obtain ⟨cm, hcm⟩ : ∃ m, m = cap - k := ⟨_, rfl⟩
        have hsl := from22 g n cap k (by omega) (by omega)
        rw [← hm, ← hcm] at hsl
        have HM := Lib.hid (And.intro hm hcm)
        have h0 : dedTo l k = l.take k := dedTo_same l k (by omega) HD.out
        have h1 : dedTo l (k + 1) = l.take k := by
          rw [ded_next l k x y (by omega) hx (by rw [HP.out]; exact hy), if_pos HXY.out, h0]
        have hlk : (l.take k).length = k := by rw [List.length_take]; omega
        have HS0 : wr.drew.ownsRow B 23 3 (.slice (some ⟨g, 0, none⟩) n cap) n (flatP (dedTo l (k + 1) ++ l.drop k)) := by
          rw [h1, List.take_append_drop]
          exact HO.out
        have HH := Lib.hid (And.intro HS0 (show k = (dedTo l (k + 1)).length by rw [h1, hlk]))
        clear heq hS hm hcm h0 h1 hlk HS0 hx hy hkp hwp b3 b4
        have HK3 := Lib.hid HK.out
        clear HK HO
        generalize wr.drew = w2 at HH HK3 ⊢
        go_wp2_with fail
        go_loopw [3, 5] (fun v u wx => ∃ K q : Nat, v = .int .i64 K ∧ u = .int .i64 q ∧ 1 ≤ q ∧ q ≤ m ∧ K = (dedTo l (k + q)).length ∧ K < k + q ∧ wx.ownsRow B 23 3 (.slice (some ⟨g, 0, none⟩) n cap) n (flatP (dedTo l (k + q) ++ l.drop K)) ∧ Kept (fun k => k = g) w wx) (fun _ u _ => m - (intOf u).toNat)
        case atStart => exact ⟨k, 1, rfl, rfl, Nat.le_refl _, by have := HM.out.1; omega, HH.out.2, by omega, HH.out.1, HK3.out⟩
        case round =>
          obtain ⟨K, q, rfl, rfl, hq1, hq, hKl, hKq, ho, hK⟩ := hrel
          obtain ⟨hm, hcm⟩ := HM.out
          clear HH HK3
          by_cases hlt2 : q < m
          · obtain ⟨r, hr⟩ : ∃ r, q = r + 1 := ⟨q - 1, by omega⟩
            obtain ⟨X, hX⟩ : ∃ x, l[k + q]? = some x := ⟨_, List.getElem?_eq_getElem (by omega)⟩
            obtain ⟨Y, hY⟩ : ∃ x, l[k + r]? = some x := ⟨_, List.getElem?_eq_getElem (by omega)⟩
            have hDX : (dedTo l (k + q) ++ l.drop K)[k + q]? = some X := by
              rw [List.getElem?_append_right (by omega), List.getElem?_drop, ← hX]
              congr 1
              omega
            have hDY : (dedTo l (k + q) ++ l.drop K)[k + r]? = some Y := by
              rw [List.getElem?_append_right (by omega), List.getElem?_drop, ← hY]
              congr 1
              omega
            have hn1 := ded_next l (k + q) X Y (by omega) hX (by rw [show k + q - 1 = k + r by omega]; exact hY)
            have t2 : decide ((q : Int) < (m : Int)) = true := decide_eq_true (by omega)
            have hqr : (q : Int) - 1 = (r : Int) := by omega
            have hwr : IntKind.i64.wrap (r : Int) = (r : Int) := by rw [IntKind.wrap_i64]; omega
            have c1 : (0 : Int) ≤ (q : Int) := by omega
            have c2 : (q : Int) < (m : Int) := by omega
            have c3 : (0 : Int) ≤ (r : Int) := by omega
            have c4 : (r : Int) < (m : Int) := by omega
            have hwq : IntKind.i64.wrap ((q : Int) + 1) = ((q + 1 : Nat) : Int) := by rw [IntKind.wrap_i64]; omega
            have hS : wr.drew.rangeAt g (k * 3 + q * 3) X.cs ∧ wr.drew.rangeAt g (k * 3 + r * 3) Y.cs := by
              rw [← Nat.add_mul, ← Nat.add_mul]
              exact ⟨(pl_at ho hDX).1, (pl_at ho hDY).1⟩
            have hne := neq32 X Y
            have HO := Lib.hid (show wr.drew.ownsRow B 23 3 (.slice (some ⟨g, 0, none⟩) n cap) n (flatP (dedTo l (k + q) ++ l.drop K)) from ho)
            have HK := Lib.hid (show Kept (fun k => k = g) w wr.drew from ⟨hK.os, hK.tape, hK.output, hK.size, hK.block⟩)
            have HN := Lib.hid hn1
            have HKL := Lib.hid (And.intro hKl hDX)
            have HB := Lib.hid (And.intro hr (And.intro hm hcm))
            clear ho hK hX hY hDX hDY hn1 hKl hr hm hcm
            by_cases hXY : X = Y
            · rw [decide_eq_true hXY] at hne
              have HXY := Lib.hid hXY
              clear hXY
              go_wp2_with fail
              refine wp_region_noPanic ?_
              refine wp_region_held_drew (S := (fun W => W.rangeAt g (k * 3 + q * 3) X.cs ∧ W.rangeAt g (k * 3 + r * 3) Y.cs)) (by kernel_rfl) hS (fun hHeld => ?_)
              refine wpAnyH_take (i := 0) (oi := ⟨some 35, _, _, _, _, _⟩) (v := ?_) rfl (by kernel_rfl) (by kernel_rfl) (by kernel_rfl) (fun _ _ _ h => h) (Or.inl ⟨by rfl, ?_⟩) (by assumption) ?_
              rotate_left 1
              · (intro W hSw; go_simp <;> with_reducible rfl)
              try simp only [Act.put, List.setIfInBounds_toArray, List.set_cons_zero, List.set_cons_succ]
              refine wpAnyH_take (i := 1) (oi := ⟨some 36, _, _, _, _, _⟩) (v := ?_) rfl (by kernel_rfl) (by kernel_rfl) (by kernel_rfl) (fun _ _ _ h => h) (Or.inl ⟨by rfl, ?_⟩) (by assumption) ?_
              rotate_left 1
              · (intro W hSw; go_simp <;> with_reducible rfl)
              try simp only [Act.put, List.setIfInBounds_toArray, List.set_cons_zero, List.set_cons_succ]
              refine wpAnyH_take (i := 2) (oi := ⟨some 37, _, _, _, _, _⟩) (v := ?_) rfl (by kernel_rfl) (by kernel_rfl) (by kernel_rfl) (fun _ _ _ h => h) (Or.inl ⟨by rfl, ?_⟩) (by assumption) ?_
              rotate_left 1
              · (intro W hSw; go_simp <;> with_reducible rfl)
              try simp only [Act.put, List.setIfInBounds_toArray, List.set_cons_zero, List.set_cons_succ]
              refine wpAnyH_take (i := 3) (oi := ⟨some 38, _, _, _, _, _⟩) (v := .agg (List.toArray (X.cs))) rfl (by kernel_rfl) (by kernel_rfl) (by kernel_rfl) (fun _ _ _ h => h) (yieldsIf_load_mid (by rfl) 23 (.tmp 37) rfl g (k * 3 + q * 3) rfl (X.cs) _ (fun W hW => hW.1) Tryd.underlying23 rfl (load23 X)) (by assumption) ?_
              try simp only [Act.put, List.setIfInBounds_toArray, List.set_cons_zero, List.set_cons_succ]
              refine wpAnyH_take (i := 4) (oi := ⟨some 39, _, _, _, _, _⟩) (v := ?_) rfl (by kernel_rfl) (by kernel_rfl) (by kernel_rfl) (fun _ _ _ h => h) (Or.inl ⟨by rfl, ?_⟩) (by assumption) ?_
              rotate_left 1
              · (intro W hSw; go_simp <;> with_reducible rfl)
              try simp only [Act.put, List.setIfInBounds_toArray, List.set_cons_zero, List.set_cons_succ]
              refine wpAnyH_take (i := 5) (oi := ⟨some 40, _, _, _, _, _⟩) (v := ?_) rfl (by kernel_rfl) (by kernel_rfl) (by kernel_rfl) (fun _ _ _ h => h) (Or.inl ⟨by rfl, ?_⟩) (by assumption) ?_
              rotate_left 1
              · (intro W hSw; go_simp <;> with_reducible rfl)
              try simp only [Act.put, List.setIfInBounds_toArray, List.set_cons_zero, List.set_cons_succ]
              refine wpAnyH_take (i := 6) (oi := ⟨some 41, _, _, _, _, _⟩) (v := ?_) rfl (by kernel_rfl) (by kernel_rfl) (by kernel_rfl) (fun _ _ _ h => h) (Or.inl ⟨by rfl, ?_⟩) (by assumption) ?_
              rotate_left 1
              · (intro W hSw; go_simp <;> with_reducible rfl)
              try simp only [Act.put, List.setIfInBounds_toArray, List.set_cons_zero, List.set_cons_succ]
              refine wpAnyH_take (i := 7) (oi := ⟨some 42, _, _, _, _, _⟩) (v := ?_) rfl (by kernel_rfl) (by kernel_rfl) (by kernel_rfl) (fun _ _ _ h => h) (Or.inl ⟨by rfl, ?_⟩) (by assumption) ?_
              rotate_left 1
              · (intro W hSw; go_simp <;> with_reducible rfl)
              try simp only [Act.put, List.setIfInBounds_toArray, List.set_cons_zero, List.set_cons_succ]
              refine wpAnyH_take (i := 8) (oi := ⟨some 43, _, _, _, _, _⟩) (v := .agg (List.toArray (Y.cs))) rfl (by kernel_rfl) (by kernel_rfl) (by kernel_rfl) (fun _ _ _ h => h) (yieldsIf_load_mid (by rfl) 23 (.tmp 42) rfl g (k * 3 + r * 3) rfl (Y.cs) _ (fun W hW => hW.2) Tryd.underlying23 rfl (load23 Y)) (by assumption) ?_
              try simp only [Act.put, List.setIfInBounds_toArray, List.set_cons_zero, List.set_cons_succ]
              refine wpAnyH_take (i := 9) (oi := ⟨some 44, _, _, _, _, _⟩) (v := ?_) rfl (by kernel_rfl) (by kernel_rfl) (by kernel_rfl) (fun _ _ _ h => h) (Or.inl ⟨by rfl, ?_⟩) (by assumption) ?_
              rotate_left 1
              · (intro W hSw; go_simp <;> with_reducible rfl)
              try simp only [Act.put, List.setIfInBounds_toArray, List.set_cons_zero, List.set_cons_succ]
              refine wpAnyH_done (by kernel_rfl) ?_ _
              refine NoPanic.normal ?_
              go_wp2
              go_roundw
              case rel =>
                have e : dedTo l (k + (q + 1)) = dedTo l (k + q) := by rw [← Nat.add_assoc, HN.out, if_pos HXY.out]
                exact ⟨K, q + 1, rfl, by simp, by omega, by omega, by rw [e]; exact HKL.out.1, by omega, by rw [e]; exact HO.out, HK.out⟩
              case measure => simp [intOf]; omega
            · rw [decide_eq_false hXY] at hne
              have e : dedTo l (k + (q + 1)) = dedTo l (k + q) ++ [X] := by rw [← Nat.add_assoc, HN.out, if_neg hXY]
              have hKn : K < n := by have := HB.out.2.1; omega
              have hth : wr.drew.there g (K * 3) 3 := by
                obtain ⟨z, hz⟩ : ∃ z, (dedTo l (k + q) ++ l.drop K)[K]? = some z := ⟨_, List.getElem?_eq_getElem (by rw [pl_len HO.out]; exact hKn)⟩
                exact (pl_at HO.out hz).2
              have hput := own_put (x := X) Pl.len (by omega) HO.out rfl (j := K) (by rw [pl_len HO.out]; exact hKn)
              have hset : (dedTo l (k + q) ++ l.drop K).set K X = dedTo l (k + (q + 1)) ++ l.drop (K + 1) := by
                have := ded_set l (dedTo l (k + q)) X (by rw [← HKL.out.1]; omega)
                rw [← HKL.out.1] at this
                rw [this, e, List.length_append, List.length_singleton, ← HKL.out.1]
              rw [hset] at hput
              have hkk := HK.out.next (kept_cells g X.cs (K * 3) wr.drew) (fun _ e => .inl e)
              have HR := Lib.hid (And.intro hput (And.intro hkk (show K + 1 = (dedTo l (k + (q + 1))).length by rw [e, List.length_append, List.length_singleton, ← HKL.out.1])))
              have d1 : (0 : Int) ≤ (K : Int) := by omega
              have d2 : (K : Int) < (n : Int) := by omega
              have hwK : IntKind.i64.wrap ((K : Int) + 1) = ((K + 1 : Nat) : Int) := by rw [IntKind.wrap_i64]; omega
              have hS0 := hS.1
              clear hXY e hput hset hkk
              go_wp2_with fail
              refine wp_region_noPanic ?_
              refine wp_region_held_drew (S := (fun W => W.rangeAt g (k * 3 + q * 3) X.cs ∧ W.rangeAt g (k * 3 + r * 3) Y.cs)) (by kernel_rfl) hS (fun hHeld => ?_)
              refine wpAnyH_take (i := 0) (oi := ⟨some 35, _, _, _, _, _⟩) (v := ?_) rfl (by kernel_rfl) (by kernel_rfl) (by kernel_rfl) (fun _ _ _ h => h) (Or.inl ⟨by rfl, ?_⟩) (by assumption) ?_
              rotate_left 1
              · (intro W hSw; go_simp <;> with_reducible rfl)
              try simp only [Act.put, List.setIfInBounds_toArray, List.set_cons_zero, List.set_cons_succ]
              refine wpAnyH_take (i := 1) (oi := ⟨some 36, _, _, _, _, _⟩) (v := ?_) rfl (by kernel_rfl) (by kernel_rfl) (by kernel_rfl) (fun _ _ _ h => h) (Or.inl ⟨by rfl, ?_⟩) (by assumption) ?_
              rotate_left 1
              · (intro W hSw; go_simp <;> with_reducible rfl)
              try simp only [Act.put, List.setIfInBounds_toArray, List.set_cons_zero, List.set_cons_succ]
              refine wpAnyH_take (i := 2) (oi := ⟨some 37, _, _, _, _, _⟩) (v := ?_) rfl (by kernel_rfl) (by kernel_rfl) (by kernel_rfl) (fun _ _ _ h => h) (Or.inl ⟨by rfl, ?_⟩) (by assumption) ?_
              rotate_left 1
              · (intro W hSw; go_simp <;> with_reducible rfl)
              try simp only [Act.put, List.setIfInBounds_toArray, List.set_cons_zero, List.set_cons_succ]
              refine wpAnyH_take (i := 3) (oi := ⟨some 38, _, _, _, _, _⟩) (v := .agg (List.toArray (X.cs))) rfl (by kernel_rfl) (by kernel_rfl) (by kernel_rfl) (fun _ _ _ h => h) (yieldsIf_load_mid (by rfl) 23 (.tmp 37) rfl g (k * 3 + q * 3) rfl (X.cs) _ (fun W hW => hW.1) Tryd.underlying23 rfl (load23 X)) (by assumption) ?_
              try simp only [Act.put, List.setIfInBounds_toArray, List.set_cons_zero, List.set_cons_succ]
              refine wpAnyH_take (i := 4) (oi := ⟨some 39, _, _, _, _, _⟩) (v := ?_) rfl (by kernel_rfl) (by kernel_rfl) (by kernel_rfl) (fun _ _ _ h => h) (Or.inl ⟨by rfl, ?_⟩) (by assumption) ?_
              rotate_left 1
              · (intro W hSw; go_simp <;> with_reducible rfl)
              try simp only [Act.put, List.setIfInBounds_toArray, List.set_cons_zero, List.set_cons_succ]
              refine wpAnyH_take (i := 5) (oi := ⟨some 40, _, _, _, _, _⟩) (v := ?_) rfl (by kernel_rfl) (by kernel_rfl) (by kernel_rfl) (fun _ _ _ h => h) (Or.inl ⟨by rfl, ?_⟩) (by assumption) ?_
              rotate_left 1
              · (intro W hSw; go_simp <;> with_reducible rfl)
              try simp only [Act.put, List.setIfInBounds_toArray, List.set_cons_zero, List.set_cons_succ]
              refine wpAnyH_take (i := 6) (oi := ⟨some 41, _, _, _, _, _⟩) (v := ?_) rfl (by kernel_rfl) (by kernel_rfl) (by kernel_rfl) (fun _ _ _ h => h) (Or.inl ⟨by rfl, ?_⟩) (by assumption) ?_
              rotate_left 1
              · (intro W hSw; go_simp <;> with_reducible rfl)
              try simp only [Act.put, List.setIfInBounds_toArray, List.set_cons_zero, List.set_cons_succ]
              refine wpAnyH_take (i := 7) (oi := ⟨some 42, _, _, _, _, _⟩) (v := ?_) rfl (by kernel_rfl) (by kernel_rfl) (by kernel_rfl) (fun _ _ _ h => h) (Or.inl ⟨by rfl, ?_⟩) (by assumption) ?_
              rotate_left 1
              · (intro W hSw; go_simp <;> with_reducible rfl)
              try simp only [Act.put, List.setIfInBounds_toArray, List.set_cons_zero, List.set_cons_succ]
              refine wpAnyH_take (i := 8) (oi := ⟨some 43, _, _, _, _, _⟩) (v := .agg (List.toArray (Y.cs))) rfl (by kernel_rfl) (by kernel_rfl) (by kernel_rfl) (fun _ _ _ h => h) (yieldsIf_load_mid (by rfl) 23 (.tmp 42) rfl g (k * 3 + r * 3) rfl (Y.cs) _ (fun W hW => hW.2) Tryd.underlying23 rfl (load23 Y)) (by assumption) ?_
              try simp only [Act.put, List.setIfInBounds_toArray, List.set_cons_zero, List.set_cons_succ]
              refine wpAnyH_take (i := 9) (oi := ⟨some 44, _, _, _, _, _⟩) (v := ?_) rfl (by kernel_rfl) (by kernel_rfl) (by kernel_rfl) (fun _ _ _ h => h) (Or.inl ⟨by rfl, ?_⟩) (by assumption) ?_
              rotate_left 1
              · (intro W hSw; go_simp <;> with_reducible rfl)
              try simp only [Act.put, List.setIfInBounds_toArray, List.set_cons_zero, List.set_cons_succ]
              refine wpAnyH_done (by kernel_rfl) ?_ _
              refine NoPanic.normal ?_
              generalize wr.drew = w4 at HR hth hS0 HO HK ⊢
              go_wp2_with (first
                | (refine wpList_load_mid rfl 23 (.tmp 49) rfl g (k * 3 + q * 3) rfl X.cs _ hS0 Tryd.underlying23 rfl (load23 X) ?_)
                | (refine wpList_store_mid rfl 23 (.tmp 51) (.tmp 50) rfl g (K * 3) X.cs.toArray rfl rfl hth size23 X.onea ?_))
              go_roundw
              case rel => exact ⟨K + 1, q + 1, by simp, by simp, by omega, by omega, HR.out.2.2, by omega, HR.out.1, HR.out.2.1⟩
              case measure => simp [intOf]; omega
          · obtain rfl : q = m := by omega
            have t2 : decide ((q : Int) < (q : Int)) = false := decide_eq_false (by omega)
            have hkq : k + q = n := by omega
            have hKn : K < n := by omega
            obtain ⟨N3, hN3⟩ : ∃ N, N = n - K := ⟨_, rfl⟩
            obtain ⟨C3, hC3⟩ : ∃ N, N = cap - K := ⟨_, rfl⟩
            have hsl3 := from22 g n cap K (by omega) (by omega)
            have hup := upto48 (some ⟨g, 0, none⟩) n cap K (by omega) (fun e => by cases e)
            rw [← hN3, ← hC3] at hsl3
            have hlen : (flatP (dedTo l (k + q) ++ l.drop K)).length = n * 3 := by rw [ho.1]
            have hcells : ∀ j, j < N3 * 3 → (wr.cell? ⟨g, K * 3 + j, none⟩).isSome = true := fun j hj => by
              rw [ho.cellAt _ (by omega), List.getElem?_eq_getElem (by omega)]
              rfl
            obtain ⟨zs, hzl, hcl⟩ := clear22 wr g (K * 3) N3 C3 (by omega) hcells (fun j _ => ho.frozenAt _)
            have hfl : (flatP (dedTo l (k + q))).length = K * 3 := by unfold flatP; rw [flat_len Pl.len, ← hKl]
            have hrg : wr.rangeAt g 0 (flatP (dedTo l (k + q))) := fun j v hv => by
              have hj := (List.getElem?_eq_some_iff.1 hv).1
              rw [hfl] at hj
              rw [Nat.zero_add, ho.cellAt j (by omega)]
              unfold flatP at hv ⊢
              rw [List.flatMap_append, List.getElem?_append_left (by unfold flatP at hfl; omega), hv]
            have hrg2 := World.rangeAt_setCells_apart hrg g (K * 3) zs (.inr (.inl (by rw [hfl]; omega)))
            obtain ⟨cs0, hb0⟩ := own_blk (own_low ho) (g := g) rfl
            have hgl : g < (wr.setCells g (K * 3) zs).heap.size := Nat.lt_of_lt_of_le hb0.lt (kept_cells g zs (K * 3) wr).size
            have hkk := hK.next (kept_cells g zs (K * 3) wr) (fun _ e => .inl e)
            have HR := Lib.hid (And.intro hrg2 (And.intro hgl (And.intro hkk (And.intro hKl (And.intro hkq hfl)))))
            have HC := Lib.hid (And.intro hN3 hC3)
            have hwz : (0 : Int) ≤ (K : Int) := by omega
            clear hrg hrg2 hgl hkk hKl hkq hfl hcells hzl hlen ho hb0 hN3 hC3 hm hcm hlt2 hq hKq
            go_wp2
            go_ret
            obtain ⟨hrg2, hgl, hkk, hKl, hkq, hfl⟩ := HR.out
            rw [← hkq, ← hKl]
            refine ⟨rfl, ⟨hfl, by omega, hmax, fun e => (by cases e), fun ad e _ => ?_⟩, hkk⟩
            injection e with e
            subst e
            exact ⟨g, 0, rfl, hgl, hrg2⟩
      · rw [decide_eq_false hxy] at heq
        have HD2 := Lib.hid (show ∀ i, 0 < i → i < k + 1 → l[i]? ≠ l[i - 1]? from fun i h1 h2 => by
          rcases Nat.lt_or_ge i k with h | h
          · exact HD.out i h1 h
          · have e : i = k := by omega
            subst e
            have hp := HP.out
            rw [hx, show i - 1 = p by omega, hy]
            simpa using hxy)
        clear hxy
        have hwk : IntKind.i64.wrap ((k : Int) + 1) = ((k + 1 : Nat) : Int) := by rw [IntKind.wrap_i64]; omega
        go_wp2_with fail
        refine wp_region_noPanic ?_
        refine wp_region_held_drew (S := (fun W => W.rangeAt g (k * 3) x.cs ∧ W.rangeAt g (p * 3) y.cs)) (by kernel_rfl) hS (fun hHeld => ?_)
        refine wpAnyH_take (i := 0) (oi := ⟨some 16, _, _, _, _, _⟩) (v := ?_) rfl (by kernel_rfl) (by kernel_rfl) (by kernel_rfl) (fun _ _ _ h => h) (Or.inl ⟨by rfl, ?_⟩) (by assumption) ?_
        rotate_left 1
        · (intro W hSw; go_simp <;> with_reducible rfl)
        try simp only [Act.put, List.setIfInBounds_toArray, List.set_cons_zero, List.set_cons_succ]
        refine wpAnyH_take (i := 1) (oi := ⟨some 17, _, _, _, _, _⟩) (v := ?_) rfl (by kernel_rfl) (by kernel_rfl) (by kernel_rfl) (fun _ _ _ h => h) (Or.inl ⟨by rfl, ?_⟩) (by assumption) ?_
        rotate_left 1
        · (intro W hSw; go_simp <;> with_reducible rfl)
        try simp only [Act.put, List.setIfInBounds_toArray, List.set_cons_zero, List.set_cons_succ]
        refine wpAnyH_take (i := 2) (oi := ⟨some 18, _, _, _, _, _⟩) (v := ?_) rfl (by kernel_rfl) (by kernel_rfl) (by kernel_rfl) (fun _ _ _ h => h) (Or.inl ⟨by rfl, ?_⟩) (by assumption) ?_
        rotate_left 1
        · (intro W hSw; go_simp <;> with_reducible rfl)
        try simp only [Act.put, List.setIfInBounds_toArray, List.set_cons_zero, List.set_cons_succ]
        refine wpAnyH_take (i := 3) (oi := ⟨some 19, _, _, _, _, _⟩) (v := .agg (List.toArray (x.cs))) rfl (by kernel_rfl) (by kernel_rfl) (by kernel_rfl) (fun _ _ _ h => h) (yieldsIf_load_mid (by rfl) 23 (.tmp 18) rfl g (k * 3) rfl (x.cs) _ (fun W hW => hW.1) Tryd.underlying23 rfl (load23 x)) (by assumption) ?_
        try simp only [Act.put, List.setIfInBounds_toArray, List.set_cons_zero, List.set_cons_succ]
        refine wpAnyH_take (i := 4) (oi := ⟨some 20, _, _, _, _, _⟩) (v := ?_) rfl (by kernel_rfl) (by kernel_rfl) (by kernel_rfl) (fun _ _ _ h => h) (Or.inl ⟨by rfl, ?_⟩) (by assumption) ?_
        rotate_left 1
        · (intro W hSw; go_simp <;> with_reducible rfl)
        try simp only [Act.put, List.setIfInBounds_toArray, List.set_cons_zero, List.set_cons_succ]
        refine wpAnyH_take (i := 5) (oi := ⟨some 21, _, _, _, _, _⟩) (v := ?_) rfl (by kernel_rfl) (by kernel_rfl) (by kernel_rfl) (fun _ _ _ h => h) (Or.inl ⟨by rfl, ?_⟩) (by assumption) ?_
        rotate_left 1
        · (intro W hSw; go_simp <;> with_reducible rfl)
        try simp only [Act.put, List.setIfInBounds_toArray, List.set_cons_zero, List.set_cons_succ]
        refine wpAnyH_take (i := 6) (oi := ⟨some 22, _, _, _, _, _⟩) (v := ?_) rfl (by kernel_rfl) (by kernel_rfl) (by kernel_rfl) (fun _ _ _ h => h) (Or.inl ⟨by rfl, ?_⟩) (by assumption) ?_
        rotate_left 1
        · (intro W hSw; go_simp <;> with_reducible rfl)
        try simp only [Act.put, List.setIfInBounds_toArray, List.set_cons_zero, List.set_cons_succ]
        refine wpAnyH_take (i := 7) (oi := ⟨some 23, _, _, _, _, _⟩) (v := ?_) rfl (by kernel_rfl) (by kernel_rfl) (by kernel_rfl) (fun _ _ _ h => h) (Or.inl ⟨by rfl, ?_⟩) (by assumption) ?_
        rotate_left 1
        · (intro W hSw; go_simp <;> with_reducible rfl)
        try simp only [Act.put, List.setIfInBounds_toArray, List.set_cons_zero, List.set_cons_succ]
        refine wpAnyH_take (i := 8) (oi := ⟨some 24, _, _, _, _, _⟩) (v := .agg (List.toArray (y.cs))) rfl (by kernel_rfl) (by kernel_rfl) (by kernel_rfl) (fun _ _ _ h => h) (yieldsIf_load_mid (by rfl) 23 (.tmp 23) rfl g (p * 3) rfl (y.cs) _ (fun W hW => hW.2) Tryd.underlying23 rfl (load23 y)) (by assumption) ?_
        try simp only [Act.put, List.setIfInBounds_toArray, List.set_cons_zero, List.set_cons_succ]
        refine wpAnyH_take (i := 9) (oi := ⟨some 25, _, _, _, _, _⟩) (v := ?_) rfl (by kernel_rfl) (by kernel_rfl) (by kernel_rfl) (fun _ _ _ h => h) (Or.inl ⟨by rfl, ?_⟩) (by assumption) ?_
        rotate_left 1
        · (intro W hSw; go_simp <;> with_reducible rfl)
        try simp only [Act.put, List.setIfInBounds_toArray, List.set_cons_zero, List.set_cons_succ]
        refine wpAnyH_done (by kernel_rfl) ?_ _
        refine NoPanic.normal ?_
        go_wp2
        go_roundw
        case rel => exact ⟨k + 1, by simp, by omega, by omega, HO.out, HK.out, HD2.out⟩
        case measure => simp [intOf]; omega
    · obtain rfl : k = n := by omega
      have t1 : decide ((k : Int) < (k : Int)) = false := decide_eq_false (by omega)
      have e : dedTo l k = l := by rw [dedTo_same l k (by omega) hd, List.take_of_length_le (by omega)]
      have hs := own_sees ho
      have HE := Lib.hid e
      have HL := Lib.hid hl
      clear hd ho e hl
      go_wp2
      go_ret
      rw [HE.out, HL.out]
      exact ⟨rfl, hs, hK⟩
end
end Go.Proofs.YtfadfdfpocpelaaDoor
