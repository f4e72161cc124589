/- Lists of changes, and of Puts, of the call's own: they read, they are cut, they are appended to. Conditions: none. -/
import Derived.Test.YtlajjadpcaobiaaBase
namespace Go.Proofs.Ytlajjadpcaobiaa
open Go.RowKit Go.ChangeShapes Go.WideShapes

structure Own (T : TypeId) (w : World) (B : Nat) (A : Option Addr) (n cap : Nat) (xs : List Ch) : Prop where
  sees : SeesC w A n cap xs
  own : ∀ ad, A = some ad → ∃ g o cur, ad = ⟨g, o, none⟩ ∧ B ≤ g ∧ Blk w g T cur ∧ o + cap * 6 ≤ cur.size
/-- The block in which a list lies. -/
def blk (A : Option Addr) : Option Nat := A.map (·.block)
theorem blk_own (A : Option Addr) (n cap : Nat) : (Value.slice A n cap).ownBlock = blk A := by
  cases A <;> rfl
theorem plain_add (b o j : Nat) : (⟨b, o, none⟩ : Addr).add j = ⟨b, o + j, none⟩ := by unfold Addr.add; split <;> simp_all
section
variable {T : TypeId} {w w' : World} {B n cap : Nat} {A : Option Addr} {xs : List Ch}
theorem Own.nil (T : TypeId) (w : World) (B : Nat) : Own T w B none 0 0 [] := ⟨seesC_nil _, fun _ h => (by cases h)⟩
theorem Own.lt (h : Own T w B A n cap xs) {g : Nat} (hg : blk A = some g) : B ≤ g ∧ g < w.heap.size := by
  rcases A with _ | ad
  · cases hg
  · obtain ⟨g', o, cur, rfl, hb, hc, _⟩ := h.own _ rfl
    injection hg with hg
    subst hg
    exact ⟨hb, hc.lt⟩
theorem Own.keeps {S : Nat → Prop} (h : Own T w B A n cap xs) (hk : Kept S w w') (hS : ∀ g, blk A = some g → ¬ S g) : Own T w' B A n cap xs := by
  refine ⟨Sees.kept h.sees hk (fun g hg => hS g hg.2), fun ad ha => ?_⟩
  obtain ⟨g, o, cur, rfl, hb, hc, hs⟩ := h.own ad ha
  exact ⟨g, o, cur, rfl, hb, hc.kept hk (hS g (by rw [ha]; rfl)), hs⟩
theorem Own.kept {row : Option Nat} (h : Own T w B A n cap xs) (hg : w.grownBy w' row) (hne : ∀ g, blk A = some g → some g ≠ row) : Own T w' B A n cap xs :=
  h.keeps (kept_grown hg) (fun g hb e => hne g hb e.symm)
theorem Own.below (h : Own T w B A n cap xs) (hb : Below w.heap.size w w') : Own T w' B A n cap xs := h.keeps (kept_below (fun _ => False) hb) (fun _ _ h => h)
theorem Own.box {p : Nat} {cs : Array Value} {t : TypeId} (h : Own T w B A n cap xs) (hp : Blk w p t cs) (ht : t ≠ T) : some p ≠ blk A := by
  intro e
  rcases A with _ | ad
  · cases e
  · obtain ⟨g', o, cur, rfl, _, hcu, _⟩ := h.own _ rfl
    injection e with e
    subst e
    exact hp.ne hcu ht rfl
theorem own_of {v : Value} (h : w.ownsRow B T 6 v n (flatC xs)) : ∃ A cap, v = .slice A n cap ∧ Own T w B A n cap xs := by
  rcases id h.2 with ⟨rfl, h0⟩ | ⟨g, cp, cur, rfl, hb, hg, hnc, hcm, hcs, ht⟩
  · rw [h0] at h ⊢
    exact ⟨none, 0, rfl, own_seesC h, fun ad ha => (by cases ha)⟩
  · refine ⟨_, cp, rfl, own_seesC h, fun ad ha => ?_⟩
    injection ha with ha
    subst ha
    exact ⟨g, 0, cur, rfl, hb, hg, by omega⟩
theorem Own.lower {B' : Nat} (h : Own T w B A n cap xs) (hb : B' ≤ B) : Own T w B' A n cap xs :=
  ⟨h.sees, fun ad had => by
    obtain ⟨g, o, cur, e, hb', rest⟩ := h.own ad had
    exact ⟨g, o, cur, e, Nat.le_trans hb hb', rest⟩⟩
/-- Where its elements lie. -/
theorem Own.front (h : Own T w B A n cap xs) {m : Nat} (hm : m ≤ n) : Own T w B A m cap (xs.take m) := by
  refine ⟨?_, h.own⟩
  have hl := h.sees.len
  refine ⟨by rw [flatC_len, List.length_take]; omega, Nat.le_trans hm (Sees.room h.sees), Sees.most h.sees, Sees.none_ h.sees, fun ad ha hi => ?_⟩
  obtain ⟨g, o, e, hg, hr⟩ := Sees.cell h.sees ad ha (by omega)
  refine ⟨g, o, e, hg, fun j v hv => hr j v ?_⟩
  have e : flatC xs = flatC (xs.take m) ++ flatC (xs.drop m) := by
    unfold flatC
    rw [← List.flatMap_append, List.take_append_drop]
  have hj := (List.getElem?_eq_some_iff.1 hv).1
  rw [e, List.getElem?_append_left hj]
  exact hv
theorem Own.range (h : Own T w B A n cap xs) {g o : Nat} (hA : A = some ⟨g, o, none⟩) : w.rangeAt g o (flatC xs) := by
  by_cases hn : 0 < n
  · obtain ⟨g', o', e, _, hr⟩ := h.sees.cell _ hA hn
    injection e with e1 e2
    subst e1 e2
    exact hr
  · intro j v hv
    have hl := h.sees.len
    have h0 : xs = [] := List.eq_nil_of_length_eq_zero (by omega)
    subst h0
    simp [flatC] at hv
end
/-- 'append(l, x)'. -/
theorem run_append_C {w : World} {B n cap : Nat} {A : Option Addr} {xs : List Ch} (h : Own 74 w B A n cap xs) (hn : n ≤ 1000000) (hB : B ≤ w.heap.size) (ty : TypeId)
    (ad : Addr) (c : Nat) (x : Ch) (hx : ∀ j u, x.cs[j]? = some u → w.cell? (ad.add j) = some u) :
    ∃ A' cap' w', (Builtin.append_ #[60, 60] ty #[.slice A n cap, .slice (some ad) 1 c]).run Try.prog w = .ok (.slice A' (n + 1) cap') w' ∧ Own 74 w' B A' (n + 1) cap' (xs ++ [x]) ∧ w.grownBy w' (blk A) ∧
      ∀ g, blk A' = some g → g < w.heap.size → blk A = some g := by
  obtain ⟨i0, hi, hz0, hz1, hz2⟩ := info_parts info74
  have hl := h.sees.len
  rcases A with _ | a
  · have hc0 := h.sees.none_ rfl
    have hr0 := h.sees.room
    obtain rfl : cap = 0 := hc0
    obtain rfl : n = 0 := by omega
    obtain rfl : xs = [] := List.eq_nil_of_length_eq_zero (by omega)
    obtain ⟨v', w', hr, ho, hg, _⟩ := run_append_own (P := Try.prog) w w.heap.size 60 ty 74 i0 (.agg noC.cs.toArray) 6 48 Try.underlying60 hi hz0 hz1 hz2 rfl (by decide) (.slice none 0 0) 0 [] (World.ownsRow_nil w _ 74 6) ad 1 c x.cs rfl hx x.one (by unfold maxLen; omega) (by omega) (Nat.le_refl _)
    have ho' : w'.ownsRow w.heap.size 74 6 v' (0 + 1) (flatC ([] ++ [x])) := by simpa [flatC] using ho
    obtain ⟨A', cap', rfl, hown⟩ := own_of ho'
    refine ⟨A', cap', w', hr, hown.lower hB, hg, fun g hb hlt => ?_⟩
    have := (hown.lt hb).1
    omega
  · obtain ⟨g, o, cur, rfl, hb, hc, hs⟩ := h.own _ rfl
    have hlt := hc.lt
    have hra := h.range rfl
    have hcell : ∀ j u, (flatC xs)[j]? = some u → w.cell? ((⟨g, o, none⟩ : Addr).add j) = some u := by
      intro j u hu
      rw [plain_add]
      exact hra j u hu
    by_cases hroom : n + 1 ≤ cap
    · have hr := run_append_room_cells (P := Try.prog) w 60 ty 74 i0 Try.underlying60 hi g o n cap ad 1 c x.cs (by rw [hz1]; rfl) hx x.one hroom
        (fun j hj => by
          rw [Ch.len] at hj
          rw [hz1, hc.cell, Array.getElem?_eq_getElem (by omega)]
          rfl)
        (fun j hj => hc.free _)
      rw [hz1] at hr
      have hcN := heap_cells (g := g) (t := 74) x.cs (o + n * 6) w cur hc
      have hk := kept_cells g x.cs (o + n * 6) w
      have hsz := hk.size
      refine ⟨_, _, _, hr, ⟨⟨by rw [flatC_len, List.length_append, hl]; rfl, hroom, h.sees.most, fun e => (by cases e), fun ad had _ => ?_⟩, fun ad had => ?_⟩, ⟨hk.os, hk.tape, hk.output, hk.size, fun k hk1 hk2 => hk.block k hk1 (fun e => hk2 (by rw [e]; rfl))⟩, fun g hg _ => hg⟩
      · cases had
        refine ⟨g, o, rfl, Nat.lt_of_lt_of_le hlt hsz, fun j v hv => ?_⟩
        rw [hcN.cell, splice_get _ _ _ _ (by rw [Ch.len]; omega), Ch.len]
        rw [flatC_snoc] at hv
        have hfl : (flatC xs).length = n * 6 := by rw [flatC_len, hl]
        by_cases hj : j < n * 6
        · rw [List.getElem?_append_left (by omega)] at hv
          rw [if_neg (by omega)]
          have := hra j v hv
          rw [hc.cell] at this
          exact this
        · rw [List.getElem?_append_right (by omega), hfl] at hv
          have := (List.getElem?_eq_some_iff.1 hv).1
          rw [Ch.len] at this
          rw [if_pos (by omega), show o + j - (o + n * 6) = j - n * 6 by omega]
          exact hv
      · cases had
        exact ⟨g, o, _, rfl, hb, hcN, by rw [splice_size]; exact hs⟩
    · obtain ⟨v', w', hr, ho, hg⟩ := run_append_arg_grows (P := Try.prog) w 60 ty 74 i0 (.agg noC.cs.toArray) 6 48 Try.underlying60 hi hz0 hz1 hz2 rfl (by decide) ⟨g, o, none⟩ n cap (flatC xs) (by rw [flatC_len, hl]) hcell ad 1 c x.cs rfl hx (by omega) (by unfold maxLen; omega) (by omega)
      rw [← flatC_snoc] at ho
      obtain ⟨A', cap', rfl, hown⟩ := own_of ho
      refine ⟨A', cap', w', hr, hown.lower hB, hg.but _, fun k hk hlt => ?_⟩
      have := (hown.lt hk).1
      omega

theorem wpList_append_C {w : World} {ops : Array Oper} {rest : List Oper} {o : Oper} {a : Act} {Q : Exit → Act → World → Prop} (hgd : o.guard = none) (s x : Operand)
    (ho : o.op = .call { callee := .builtin .append, args := #[s, x], argTypes := #[60, 60] })
    {B n cap : Nat} {A : Option Addr} {xs : List Ch} (hs : a.eval s = .slice A n cap) (h : Own 74 w B A n cap xs) (hn : n ≤ 1000000) (hB : B ≤ w.heap.size)
    (ad : Addr) (c : Nat) (y : Ch) (hx : a.eval x = .slice (some ad) 1 c) (hc : ∀ j u, y.cs[j]? = some u → w.cell? (ad.add j) = some u)
    (hK : ∀ A' cap' w', Own 74 w' B A' (n + 1) cap' (xs ++ [y]) → w.grownBy w' (blk A) → (∀ g, blk A' = some g → g < w.heap.size → blk A = some g) → wpList Try.prog ops Q rest (a.put o.dst (.slice A' (n + 1) cap')) w') :
    wpList Try.prog ops Q (o :: rest) a w := by
  refine wpList_plain hgd fun K hK' => ?_
  obtain ⟨A', cap', w', hrun, r1, r2, r3⟩ := run_append_C h hn hB o.type ad c y hc
  unfold Oper.wp
  simp [execOp, ho, resolve, invoke, builtin, hs, hx, hrun, Result.andThen]
  exact hK' _ _ (hK A' cap' w' r1 r2 r3)

/-- 'append(l, x)'. -/
theorem run_append_O {w : World} {B n cap : Nat} {A : Option Addr} {xs : List Ch} (h : Own 37 w B A n cap xs) (hn : n ≤ 1000000) (hB : B ≤ w.heap.size) (ty : TypeId)
    (ad : Addr) (c : Nat) (x : Ch) (hx : ∀ j u, x.cs[j]? = some u → w.cell? (ad.add j) = some u) :
    ∃ A' cap' w', (Builtin.append_ #[25, 25] ty #[.slice A n cap, .slice (some ad) 1 c]).run Try.prog w = .ok (.slice A' (n + 1) cap') w' ∧ Own 37 w' B A' (n + 1) cap' (xs ++ [x]) ∧ w.grownBy w' (blk A) ∧
      ∀ g, blk A' = some g → g < w.heap.size → blk A = some g := by
  obtain ⟨i0, hi, hz0, hz1, hz2⟩ := info_parts info37
  have hl := h.sees.len
  rcases A with _ | a
  · have hc0 := h.sees.none_ rfl
    have hr0 := h.sees.room
    obtain rfl : cap = 0 := hc0
    obtain rfl : n = 0 := by omega
    obtain rfl : xs = [] := List.eq_nil_of_length_eq_zero (by omega)
    obtain ⟨v', w', hr, ho, hg, _⟩ := run_append_own (P := Try.prog) w w.heap.size 25 ty 37 i0 (.agg noC.cs.toArray) 6 48 Try.underlying25 hi hz0 hz1 hz2 rfl (by decide) (.slice none 0 0) 0 [] (World.ownsRow_nil w _ 37 6) ad 1 c x.cs rfl hx x.one (by unfold maxLen; omega) (by omega) (Nat.le_refl _)
    have ho' : w'.ownsRow w.heap.size 37 6 v' (0 + 1) (flatC ([] ++ [x])) := by simpa [flatC] using ho
    obtain ⟨A', cap', rfl, hown⟩ := own_of ho'
    refine ⟨A', cap', w', hr, hown.lower hB, hg, fun g hb hlt => ?_⟩
    have := (hown.lt hb).1
    omega
  · obtain ⟨g, o, cur, rfl, hb, hc, hs⟩ := h.own _ rfl
    have hlt := hc.lt
    have hra := h.range rfl
    have hcell : ∀ j u, (flatC xs)[j]? = some u → w.cell? ((⟨g, o, none⟩ : Addr).add j) = some u := by
      intro j u hu
      rw [plain_add]
      exact hra j u hu
    by_cases hroom : n + 1 ≤ cap
    · have hr := run_append_room_cells (P := Try.prog) w 25 ty 37 i0 Try.underlying25 hi g o n cap ad 1 c x.cs (by rw [hz1]; rfl) hx x.one hroom
        (fun j hj => by
          rw [Ch.len] at hj
          rw [hz1, hc.cell, Array.getElem?_eq_getElem (by omega)]
          rfl)
        (fun j hj => hc.free _)
      rw [hz1] at hr
      have hcN := heap_cells (g := g) (t := 37) x.cs (o + n * 6) w cur hc
      have hk := kept_cells g x.cs (o + n * 6) w
      have hsz := hk.size
      refine ⟨_, _, _, hr, ⟨⟨by rw [flatC_len, List.length_append, hl]; rfl, hroom, h.sees.most, fun e => (by cases e), fun ad had _ => ?_⟩, fun ad had => ?_⟩, ⟨hk.os, hk.tape, hk.output, hk.size, fun k hk1 hk2 => hk.block k hk1 (fun e => hk2 (by rw [e]; rfl))⟩, fun g hg _ => hg⟩
      · cases had
        refine ⟨g, o, rfl, Nat.lt_of_lt_of_le hlt hsz, fun j v hv => ?_⟩
        rw [hcN.cell, splice_get _ _ _ _ (by rw [Ch.len]; omega), Ch.len]
        rw [flatC_snoc] at hv
        have hfl : (flatC xs).length = n * 6 := by rw [flatC_len, hl]
        by_cases hj : j < n * 6
        · rw [List.getElem?_append_left (by omega)] at hv
          rw [if_neg (by omega)]
          have := hra j v hv
          rw [hc.cell] at this
          exact this
        · rw [List.getElem?_append_right (by omega), hfl] at hv
          have := (List.getElem?_eq_some_iff.1 hv).1
          rw [Ch.len] at this
          rw [if_pos (by omega), show o + j - (o + n * 6) = j - n * 6 by omega]
          exact hv
      · cases had
        exact ⟨g, o, _, rfl, hb, hcN, by rw [splice_size]; exact hs⟩
    · obtain ⟨v', w', hr, ho, hg⟩ := run_append_arg_grows (P := Try.prog) w 25 ty 37 i0 (.agg noC.cs.toArray) 6 48 Try.underlying25 hi hz0 hz1 hz2 rfl (by decide) ⟨g, o, none⟩ n cap (flatC xs) (by rw [flatC_len, hl]) hcell ad 1 c x.cs rfl hx (by omega) (by unfold maxLen; omega) (by omega)
      rw [← flatC_snoc] at ho
      obtain ⟨A', cap', rfl, hown⟩ := own_of ho
      refine ⟨A', cap', w', hr, hown.lower hB, hg.but _, fun k hk hlt => ?_⟩
      have := (hown.lt hk).1
      omega

theorem wpList_append_O {w : World} {ops : Array Oper} {rest : List Oper} {o : Oper} {a : Act} {Q : Exit → Act → World → Prop} (hgd : o.guard = none) (s x : Operand)
    (ho : o.op = .call { callee := .builtin .append, args := #[s, x], argTypes := #[25, 25] })
    {B n cap : Nat} {A : Option Addr} {xs : List Ch} (hs : a.eval s = .slice A n cap) (h : Own 37 w B A n cap xs) (hn : n ≤ 1000000) (hB : B ≤ w.heap.size)
    (ad : Addr) (c : Nat) (y : Ch) (hx : a.eval x = .slice (some ad) 1 c) (hc : ∀ j u, y.cs[j]? = some u → w.cell? (ad.add j) = some u)
    (hK : ∀ A' cap' w', Own 37 w' B A' (n + 1) cap' (xs ++ [y]) → w.grownBy w' (blk A) → (∀ g, blk A' = some g → g < w.heap.size → blk A = some g) → wpList Try.prog ops Q rest (a.put o.dst (.slice A' (n + 1) cap')) w') :
    wpList Try.prog ops Q (o :: rest) a w := by
  refine wpList_plain hgd fun K hK' => ?_
  obtain ⟨A', cap', w', hrun, r1, r2, r3⟩ := run_append_O h hn hB o.type ad c y hc
  unfold Oper.wp
  simp [execOp, ho, resolve, invoke, builtin, hs, hx, hrun, Result.andThen]
  exact hK' _ _ (hK A' cap' w' r1 r2 r3)


/-- '.. append' of a list of one, at whichever operation. -/
theorem wp_append_C {w : World} {o : Oper} {a : Act} {K : Act → World → Prop} {Q : Exit → Act → World → Prop} (s x : Operand)
    (ho : o.op = .call { callee := .builtin .append, args := #[s, x], argTypes := #[60, 60] })
    {B n cap : Nat} {A : Option Addr} {xs : List Ch} (hs : a.eval s = .slice A n cap) (h : Own 74 w B A n cap xs) (hn : n ≤ 1000000) (hB : B ≤ w.heap.size)
    (ad : Addr) (c : Nat) (y : Ch) (hx : a.eval x = .slice (some ad) 1 c) (hc : ∀ j u, y.cs[j]? = some u → w.cell? (ad.add j) = some u)
    (hK : ∀ A' cap' w', Own 74 w' B A' (n + 1) cap' (xs ++ [y]) → w.grownBy w' (blk A) → (∀ g, blk A' = some g → g < w.heap.size → blk A = some g) → K (a.put o.dst (.slice A' (n + 1) cap')) w') :
    o.wp Try.prog a w K Q := by
  obtain ⟨A', cap', w', hrun, r1, r2, r3⟩ := run_append_C h hn hB o.type ad c y hc
  unfold Oper.wp
  simp [execOp, ho, resolve, invoke, builtin, hs, hx, hrun, Result.andThen]
  exact hK A' cap' w' r1 r2 r3
end Go.Proofs.Ytlajjadpcaobiaa
