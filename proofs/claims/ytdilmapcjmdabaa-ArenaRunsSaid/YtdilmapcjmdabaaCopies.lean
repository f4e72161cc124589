/- Lists are cloned, and turned about. Conditions: at most 1000 elements. -/
import Derived.Test.YtdilmapcjmdabaaStock
namespace Go.Proofs.Ytdilmapcjmdabaa
open Go.ChangeShapes Go.WideShapes Go.RowKit

/-- A copy of the call's own. -/
def Cloned (e : TypeId) (k n : Nat) (vs : List Value) (w : World) (en : Ending) (w' : World) : Prop :=
  ∃ A cap, en = .returned (.slice A n cap) ∧ w'.ownsRow w.heap.size e k (.slice A n cap) n vs ∧ Below w.heap.size w w'
section
variable {w w' : World} {B n cap k : Nat} {t : TypeId} {v : Value} {vs : List Value} {A : Option Addr}
theorem own_form (h : w.ownsRow B t k v n vs) : ∃ A cap, v = .slice A n cap := by
  rcases h.2 with ⟨rfl, rfl⟩ | ⟨g, c, cur, rfl, _⟩
  · exact ⟨none, 0, rfl⟩
  · exact ⟨_, c, rfl⟩
theorem own_low (h : w.ownsRow B t k v n vs) : w.ownsRow 0 t k v n vs := by
  refine ⟨h.1, ?_⟩
  rcases h.2 with h0 | ⟨g, c, cur, e, hb, rest⟩
  · exact .inl h0
  · exact .inr ⟨g, c, cur, e, Nat.zero_le _, rest⟩
theorem own_new (h : w.ownsRow B t k (.slice A n cap) n vs) : ∀ g, lies A g → B ≤ g := fun g hg => (h.lt g ((own_lies A n cap g).2 hg)).1
end

theorem nil28 (w : World) : (binOp BinOp.eql 28 (.slice none 0 0) (.slice none 0 0)).run Try.prog w = .ok (.bool true) w := by kernel_rfl
theorem some28 (ad : Addr) (n cap : Nat) (w : World) : (binOp BinOp.eql 28 (.slice (some ad) n cap) (.slice none 0 0)).run Try.prog w = .ok (.bool false) w := by kernel_rfl
theorem empty28 (w : World) : (Instr.buildSlice 28 0 #[]).run Try.prog w = .ok (.slice (some ⟨w.heap.size, 0, none⟩) 0 0) (w.alloc (.cells #[] 45)) := by kernel_rfl
set_option maxRecDepth 100000 in
theorem clone43 {w : World} {A : Option Addr} {n cap : Nat} {vs : List Value} (h : w.ownsRow 0 45 10 (.slice A n cap) n vs) (h1 : ∀ v ∈ vs, v.oneCell' = true) (hn : n ≤ 1000) : Calls Try.prog 43 #[.slice A n cap] w (Cloned 45 10 n vs w) := by
  obtain ⟨i0, hi, hz0, hz1, hz2⟩ := info_parts info45
  cases A with
  | none =>
    rcases id h.2 with ⟨e, rfl⟩ | ⟨g, c, cur, e, _⟩
    · injection e with _ _ e3
      subst e3
      have hv : vs = [] := List.eq_nil_of_length_eq_zero (by rw [h.1, Nat.zero_mul])
      subst hv
      have hnil := nil28
      go_enter Try.func43, Try.ntmps43
      go_wp2
      go_ret
      exact ⟨none, 0, rfl, World.ownsRow_nil _ _ _ _, Below.refl _ _⟩
    · cases e
  | some ad =>
    obtain ⟨g, rfl⟩ : ∃ g, ad = ⟨g, 0, none⟩ := by
      rcases id h.2 with ⟨e, _⟩ | ⟨g, c, cur, e, _⟩
      · cases e
      · injection e with e
        injection e with e
        exact ⟨g, e⟩
    have hnil := some28 ⟨g, 0, none⟩ n cap
    have hbs := empty28
    obtain ⟨W1, eW1⟩ : ∃ W, W = w.alloc (.cells #[] 45) := ⟨_, rfl⟩
    have hb1 : Below w.heap.size w W1 := by rw [eW1]; exact (Below.refl _ w).alloc (Nat.le_refl _) _
    have h0 : W1.ownsRow w.heap.size 45 10 (.slice (some ⟨w.heap.size, 0, none⟩) 0 0) 0 [] := by rw [eW1]; exact World.ownsRow_made w #[] 0 (Nat.le_refl _) (Nat.zero_le _) rfl
    have h2 := own_below h hb1
    have hc := h2.cells (g := g) rfl
    go_enter Try.func43, Try.ntmps43
    go_wp2_with (first
      | (refine wpList_append_own _ rfl _ _ 28 rfl w.heap.size 45 i0 (.agg noC.cs.toArray) 10 80 Try.underlying28 hi hz0 hz1 hz2 rfl (by decide) (.slice (some ⟨w.heap.size, 0, none⟩) 0 0) 0 [] rfl (eW1 ▸ h0) ⟨g, 0, none⟩ n cap vs rfl h.1 (eW1 ▸ hc) h1 (by unfold maxLen; omega) (by omega) (by simp) ?_; intro v' w2 hown hg _; obtain ⟨A', cap', ev⟩ := own_form hown; subst ev))
    go_ret
    rw [Nat.zero_add, List.nil_append] at hown
    exact ⟨A', cap', rfl, hown, hb1.trans ((kept_grown (eW1 ▸ hg)).under _ hb1.size (fun k hk => by injection hk with hk; exact Nat.le_of_eq hk))⟩

theorem nil29 (w : World) : (binOp BinOp.eql 29 (.slice none 0 0) (.slice none 0 0)).run Try.prog w = .ok (.bool true) w := by kernel_rfl
theorem some29 (ad : Addr) (n cap : Nat) (w : World) : (binOp BinOp.eql 29 (.slice (some ad) n cap) (.slice none 0 0)).run Try.prog w = .ok (.bool false) w := by kernel_rfl
theorem empty29 (w : World) : (Instr.buildSlice 29 0 #[]).run Try.prog w = .ok (.slice (some ⟨w.heap.size, 0, none⟩) 0 0) (w.alloc (.cells #[] 3)) := by kernel_rfl
set_option maxRecDepth 100000 in
theorem clone56 {w : World} {A : Option Addr} {n cap : Nat} {vs : List Value} (h : w.ownsRow 0 3 1 (.slice A n cap) n vs) (h1 : ∀ v ∈ vs, v.oneCell' = true) (hn : n ≤ 1000) : Calls Try.prog 56 #[.slice A n cap] w (Cloned 3 1 n vs w) := by
  obtain ⟨i0, hi, hz0, hz1, hz2⟩ := info_parts info3
  cases A with
  | none =>
    rcases id h.2 with ⟨e, rfl⟩ | ⟨g, c, cur, e, _⟩
    · injection e with _ _ e3
      subst e3
      have hv : vs = [] := List.eq_nil_of_length_eq_zero (by rw [h.1, Nat.zero_mul])
      subst hv
      have hnil := nil29
      go_enter Try.func56, Try.ntmps56
      go_wp2
      go_ret
      exact ⟨none, 0, rfl, World.ownsRow_nil _ _ _ _, Below.refl _ _⟩
    · cases e
  | some ad =>
    obtain ⟨g, rfl⟩ : ∃ g, ad = ⟨g, 0, none⟩ := by
      rcases id h.2 with ⟨e, _⟩ | ⟨g, c, cur, e, _⟩
      · cases e
      · injection e with e
        injection e with e
        exact ⟨g, e⟩
    have hnil := some29 ⟨g, 0, none⟩ n cap
    have hbs := empty29
    obtain ⟨W1, eW1⟩ : ∃ W, W = w.alloc (.cells #[] 3) := ⟨_, rfl⟩
    have hb1 : Below w.heap.size w W1 := by rw [eW1]; exact (Below.refl _ w).alloc (Nat.le_refl _) _
    have h0 : W1.ownsRow w.heap.size 3 1 (.slice (some ⟨w.heap.size, 0, none⟩) 0 0) 0 [] := by rw [eW1]; exact World.ownsRow_made w #[] 0 (Nat.le_refl _) (Nat.zero_le _) rfl
    have h2 := own_below h hb1
    have hc := h2.cells (g := g) rfl
    go_enter Try.func56, Try.ntmps56
    go_wp2_with (first
      | (refine wpList_append_own _ rfl _ _ 29 rfl w.heap.size 3 i0 (.int .i64 0) 1 8 Try.underlying29 hi hz0 hz1 hz2 rfl (by decide) (.slice (some ⟨w.heap.size, 0, none⟩) 0 0) 0 [] rfl (eW1 ▸ h0) ⟨g, 0, none⟩ n cap vs rfl h.1 (eW1 ▸ hc) h1 (by unfold maxLen; omega) (by omega) (by simp) ?_; intro v' w2 hown hg _; obtain ⟨A', cap', ev⟩ := own_form hown; subst ev))
    go_ret
    rw [Nat.zero_add, List.nil_append] at hown
    exact ⟨A', cap', rfl, hown, hb1.trans ((kept_grown (eW1 ▸ hg)).under _ hb1.size (fun k hk => by injection hk with hk; exact Nat.le_of_eq hk))⟩

theorem nil66 (w : World) : (binOp BinOp.eql 66 (.slice none 0 0) (.slice none 0 0)).run Try.prog w = .ok (.bool true) w := by kernel_rfl
theorem some66 (ad : Addr) (n cap : Nat) (w : World) : (binOp BinOp.eql 66 (.slice (some ad) n cap) (.slice none 0 0)).run Try.prog w = .ok (.bool false) w := by kernel_rfl
theorem empty66 (w : World) : (Instr.buildSlice 66 0 #[]).run Try.prog w = .ok (.slice (some ⟨w.heap.size, 0, none⟩) 0 0) (w.alloc (.cells #[] 83)) := by kernel_rfl
set_option maxRecDepth 100000 in
theorem clone58 {w : World} {A : Option Addr} {n cap : Nat} {vs : List Value} (h : w.ownsRow 0 83 11 (.slice A n cap) n vs) (h1 : ∀ v ∈ vs, v.oneCell' = true) (hn : n ≤ 1000) : Calls Try.prog 58 #[.slice A n cap] w (Cloned 83 11 n vs w) := by
  obtain ⟨i0, hi, hz0, hz1, hz2⟩ := info_parts info83
  cases A with
  | none =>
    rcases id h.2 with ⟨e, rfl⟩ | ⟨g, c, cur, e, _⟩
    · injection e with _ _ e3
      subst e3
      have hv : vs = [] := List.eq_nil_of_length_eq_zero (by rw [h.1, Nat.zero_mul])
      subst hv
      have hnil := nil66
      go_enter Try.func58, Try.ntmps58
      go_wp2
      go_ret
      exact ⟨none, 0, rfl, World.ownsRow_nil _ _ _ _, Below.refl _ _⟩
    · cases e
  | some ad =>
    obtain ⟨g, rfl⟩ : ∃ g, ad = ⟨g, 0, none⟩ := by
      rcases id h.2 with ⟨e, _⟩ | ⟨g, c, cur, e, _⟩
      · cases e
      · injection e with e
        injection e with e
        exact ⟨g, e⟩
    have hnil := some66 ⟨g, 0, none⟩ n cap
    have hbs := empty66
    obtain ⟨W1, eW1⟩ : ∃ W, W = w.alloc (.cells #[] 83) := ⟨_, rfl⟩
    have hb1 : Below w.heap.size w W1 := by rw [eW1]; exact (Below.refl _ w).alloc (Nat.le_refl _) _
    have h0 : W1.ownsRow w.heap.size 83 11 (.slice (some ⟨w.heap.size, 0, none⟩) 0 0) 0 [] := by rw [eW1]; exact World.ownsRow_made w #[] 0 (Nat.le_refl _) (Nat.zero_le _) rfl
    have h2 := own_below h hb1
    have hc := h2.cells (g := g) rfl
    go_enter Try.func58, Try.ntmps58
    go_wp2_with (first
      | (refine wpList_append_own _ rfl _ _ 66 rfl w.heap.size 83 i0 (.agg (Chg.cs ⟨0, noC⟩).toArray) 11 88 Try.underlying66 hi hz0 hz1 hz2 rfl (by decide) (.slice (some ⟨w.heap.size, 0, none⟩) 0 0) 0 [] rfl (eW1 ▸ h0) ⟨g, 0, none⟩ n cap vs rfl h.1 (eW1 ▸ hc) h1 (by unfold maxLen; omega) (by omega) (by simp) ?_; intro v' w2 hown hg _; obtain ⟨A', cap', ev⟩ := own_form hown; subst ev))
    go_ret
    rw [Nat.zero_add, List.nil_append] at hown
    exact ⟨A', cap', rfl, hown, hb1.trans ((kept_grown (eW1 ▸ hg)).under _ hb1.size (fun k hk => by injection hk with hk; exact Nat.le_of_eq hk))⟩

/-- Turned about, i of each end. -/
def swapped (xs : List Int) (i : Nat) : List Int := (List.range xs.length).map fun t => if t < i ∨ xs.length ≤ t + i then xs.getD (xs.length - 1 - t) 0 else xs.getD t 0
theorem ints_get (xs : List Int) (j : Nat) : (ints xs)[j]? = xs[j]?.map (.int .i64) := by
  unfold ints
  rw [show (fun x : Int => [Value.int .i64 x]) = fun x => [Value.int .i64 x] from rfl, ← List.map_eq_flatMap, List.getElem?_map]
theorem swapped_get (xs : List Int) (i j : Nat) (hj : j < xs.length) : (swapped xs i)[j]? = some (if j < i ∨ xs.length ≤ j + i then xs.getD (xs.length - 1 - j) 0 else xs.getD j 0) := by
  unfold swapped
  rw [List.getElem?_map, List.getElem?_range hj]
  rfl
theorem swapped_len (xs : List Int) (i : Nat) : (swapped xs i).length = xs.length := by simp [swapped]
theorem swapped_zero (xs : List Int) : swapped xs 0 = xs := by
  apply List.ext_getElem?
  intro j
  by_cases hj : j < xs.length
  · rw [swapped_get xs 0 j hj, if_neg (by omega), List.getElem?_eq_getElem hj]
    simp [List.getD, List.getElem?_eq_getElem hj]
  · rw [List.getElem?_eq_none (by rw [swapped_len]; omega), List.getElem?_eq_none (by omega)]
theorem swapped_all (xs : List Int) (i : Nat) (h : xs.length ≤ 2 * i + 1) : swapped xs i = xs.reverse := by
  apply List.ext_getElem?
  intro j
  by_cases hj : j < xs.length
  · rw [swapped_get xs i j hj, List.getElem?_reverse hj]
    split
    · rw [List.getD, List.getElem?_eq_getElem (by omega)]
      rfl
    · have : xs.length - 1 - j = j := by omega
      rw [this, List.getD, List.getElem?_eq_getElem hj]
      rfl
  · rw [List.getElem?_eq_none (by rw [swapped_len]; omega), List.getElem?_eq_none (by rw [List.length_reverse]; omega)]
theorem swapped_next (xs : List Int) (i q : Nat) (h : i + q + 1 = xs.length) (hq : i < q) :
    ((ints (swapped xs i)).set i (.int .i64 (xs.getD q 0))).set q (.int .i64 (xs.getD i 0)) = ints (swapped xs (i + 1)) := by
  apply List.ext_getElem?
  intro j
  have hl : (ints (swapped xs i)).length = xs.length := by unfold ints; rw [flat_len int_len, swapped_len]; omega
  by_cases hj : j < xs.length
  · rw [ints_get, swapped_get xs (i + 1) j hj]
    by_cases h1 : j = q
    · subst h1
      rw [List.getElem?_set_self (by rw [List.length_set, hl]; exact hj), if_pos (by omega), show xs.length - 1 - j = i by omega]
      rfl
    · rw [List.getElem?_set_ne (fun e => h1 e.symm)]
      by_cases h2 : j = i
      · subst h2
        rw [List.getElem?_set_self (by rw [hl]; exact hj), if_pos (by omega), show xs.length - 1 - j = q by omega]
        rfl
      · rw [List.getElem?_set_ne (fun e => h2 e.symm), ints_get, swapped_get xs i j hj]
        by_cases h3 : j < i ∨ xs.length ≤ j + i
        · rw [if_pos h3, if_pos (by omega)]
        · rw [if_neg h3, if_neg (by omega)]
  · rw [List.getElem?_eq_none (by rw [List.length_set, List.length_set, hl]; omega), List.getElem?_eq_none (by unfold ints; rw [flat_len int_len, swapped_len]; omega)]
set_option maxRecDepth 100000 in
theorem reverse_any {w : World} {B n cap : Nat} {A : Option Addr} {xs : List Int} (h : w.ownsRow B 3 1 (.slice A n cap) n (ints xs)) (hn : n ≤ 1000) (hB : B ≤ w.heap.size) :
    Calls Try.prog 57 #[.slice A n cap] w fun e w' => e = .returned (.tuple #[]) ∧ w'.ownsRow B 3 1 (.slice A n cap) n (ints xs.reverse) ∧ Below B w w' := by
  have hl : xs.length = n := by
    have := h.1
    unfold ints at this
    rw [flat_len int_len] at this
    omega
  by_cases h0 : n = 0
  · subst h0
    obtain rfl : xs = [] := List.eq_nil_of_length_eq_zero hl
    go_enter Try.func57, Try.ntmps57
    go_wp2_with fail
    go_loopw [2, 3] (fun i j wr => i = .int .i64 0 ∧ j = .int .i64 (-1) ∧ wr = w) (fun _ _ _ => 0)
    case atStart => exact ⟨rfl, rfl, rfl⟩
    case round =>
      obtain ⟨rfl, rfl, rfl⟩ := hrel
      go_wp2
      go_end0
      exact ⟨rfl, h, Below.refl _ _⟩
  · obtain ⟨g, eA⟩ : ∃ g, A = some ⟨g, 0, none⟩ := by
      rcases id h.2 with ⟨e, h1⟩ | ⟨g, c, cur, e, _⟩
      · omega
      · injection e with e
        exact ⟨g, e⟩
    subst eA
    have hBg := own_new h g rfl
    go_enter Try.func57, Try.ntmps57
    go_wp2_with fail
    go_loopw [2, 3] (fun i j wr => ∃ a b : Nat, i = .int .i64 a ∧ j = .int .i64 b ∧ a + b + 1 = n ∧ wr.ownsRow B 3 1 (.slice (some ⟨g, 0, none⟩) n cap) n (ints (swapped xs a)) ∧ Below B w wr) (fun i _ _ => n - (intOf i).toNat)
    case atStart => exact ⟨0, n - 1, rfl, by simp; omega, by omega, by rw [swapped_zero]; exact h, Below.refl _ _⟩
    case round =>
      obtain ⟨a, b, rfl, rfl, hab, ho, hb⟩ := hrel
      by_cases hlt : a < b
      · have t0 : decide ((a : Int) < (b : Int)) = true := decide_eq_true (by omega)
        have ca : wr.drew.cell? ⟨g, a, none⟩ = some (.int .i64 (xs.getD a 0)) := by
          have := ho.cellAt (g := g) a (by omega)
          rw [ints_get, swapped_get xs a a (by omega), if_neg (by omega)] at this
          exact this
        have cb : wr.drew.cell? ⟨g, b, none⟩ = some (.int .i64 (xs.getD b 0)) := by
          have := ho.cellAt (g := g) b (by omega)
          rw [ints_get, swapped_get xs a b (by omega), if_neg (by omega)] at this
          exact this
        have fa : wr.drew.frozen? ⟨g, a, none⟩ = false := ho.frozenAt a
        have fb : wr.drew.frozen? ⟨g, b, none⟩ = false := ho.frozenAt b
        have hN := swapped_next xs a b (by omega) hlt
        have ho1 := (ho.stored a (.int .i64 (xs.getD b 0)))
        have ho2 := (ho1.1.stored b (.int .i64 (xs.getD a 0)))
        rw [hN] at ho2
        have hbn : b < n := by omega
        have han : a < n := by omega
        generalize xs.getD a 0 = xa at *
        generalize xs.getD b 0 = xb at *
        have cb2 : (wr.setCell ⟨g, a, none⟩ (.int .i64 xb)).cell? ⟨g, b, none⟩ = some (.int .i64 xb) := by
          rw [World.cell?_setCell_other _ _ _ _ (by intro e; injection e; omega)]
          exact cb
        have fb2 : (wr.setCell ⟨g, a, none⟩ (.int .i64 xb)).frozen? ⟨g, b, none⟩ = false := ho1.1.frozenAt b
        have HQ := Lib.hid (And.intro ho1 ho2)
        clear ho1 ho2 hN
        go_wp2_with fail
        go_region
        have hq := HQ.out
        have kg : Below B w ((wr.setCell ⟨g, a, none⟩ (.int .i64 xb)).setCell ⟨g, b, none⟩ (.int .i64 xa)) := (hb.setCell (p := ⟨g, a, none⟩) (hBg) _).setCell (p := ⟨g, b, none⟩) hBg _
        go_wp2
        go_roundw
        case rel => exact ⟨a + 1, b - 1, by simp, by congr 1; omega, by omega, hq.2.1, kg.drew⟩
        case measure => simp [intOf]; omega
      · have t0 : decide ((a : Int) < (b : Int)) = false := decide_eq_false (by omega)
        go_wp2
        go_end0
        rw [swapped_all xs a (by omega)] at ho
        exact ⟨rfl, ho, hb⟩
end Go.Proofs.Ytdilmapcjmdabaa
