/- A list of entries of the call's own, cut at its front or whole: it reads, it is cut, it is appended to. Conditions: none. -/
import Derived.Test.YtclnkgoaenlhhaaLast
import Derived.ArgAppend
import Derived.WalkSpells
namespace Go.Proofs.Ytclnkgoaenlhhaa
open Go.RowKit Go.Conc

structure Own (w : World) (B : Nat) (A : Option Addr) (n cap : Nat) (xs : List Ent) : Prop where
  sees : SeesE w A n cap xs
  own : ∀ ad, A = some ad → ∃ g o cur, ad = ⟨g, o, none⟩ ∧ B ≤ g ∧ Blk w g 35 cur ∧ o + cap * 8 ≤ cur.size
/-- The block in which a list lies. -/
def blk (A : Option Addr) : Option Nat := A.map (·.block)
theorem blk_own (A : Option Addr) (n cap : Nat) : (Value.slice A n cap).ownBlock = blk A := by
  cases A <;> rfl
theorem plain_add (b o j : Nat) : (⟨b, o, none⟩ : Addr).add j = ⟨b, o + j, none⟩ := by unfold Addr.add; split <;> simp_all
section
variable {w w' : World} {B n cap : Nat} {A : Option Addr} {xs : List Ent}
theorem Own.nil (w : World) (B : Nat) : Own w B none 0 0 [] := ⟨seesE_nil _, fun _ h => (by cases h)⟩
theorem Own.lt (h : Own w B A n cap xs) {g : Nat} (hg : blk A = some g) : B ≤ g ∧ g < w.heap.size := by
  rcases A with _ | ad
  · cases hg
  · obtain ⟨g', o, cur, rfl, hb, hc, _⟩ := h.own _ rfl
    injection hg with hg
    subst hg
    exact ⟨hb, hc.lt⟩
theorem Own.keeps {S : Nat → Prop} (h : Own w B A n cap xs) (hk : Kept S w w') (hS : ∀ g, blk A = some g → ¬ S g) : Own w' B A n cap xs := by
  refine ⟨Sees.kept h.sees hk (fun g hg => hS g hg.2), fun ad ha => ?_⟩
  obtain ⟨g, o, cur, rfl, hb, hc, hs⟩ := h.own ad ha
  exact ⟨g, o, cur, rfl, hb, hc.kept hk (hS g (by rw [ha]; rfl)), hs⟩
theorem Own.kept {row : Option Nat} (h : Own w B A n cap xs) (hg : w.grownBy w' row) (hne : ∀ g, blk A = some g → some g ≠ row) : Own w' B A n cap xs :=
  h.keeps (kept_grown hg) (fun g hb e => hne g hb e.symm)
theorem Own.below (h : Own w B A n cap xs) (hb : Below w.heap.size w w') : Own w' B A n cap xs := h.kept (grown_below hb none) (by simp)
theorem Own.chan {c k : Nat} {ys : List Ent} (h : Own w B A n cap xs) (hc : Holds w c k ys) : ∀ g, blk A = some g → some g ≠ some c := by
  intro g hg e
  injection e with e
  subst e
  rcases A with _ | ad
  · cases hg
  · obtain ⟨g', o, cur, rfl, _, hcu, _⟩ := h.own _ rfl
    injection hg with hg
    subst hg
    obtain ⟨s, r, hch⟩ := hc.block
    unfold Blk at hcu
    rw [hcu] at hch
    cases hch
theorem Own.box {p : Nat} {cs : Array Value} {t : TypeId} (h : Own w B A n cap xs) (hp : Blk w p t cs) (ht : t ≠ 35) : some p ≠ blk A := by
  intro e
  rcases A with _ | ad
  · cases e
  · obtain ⟨g', o, cur, rfl, _, hcu, _⟩ := h.own _ rfl
    injection e with e
    subst e
    exact hp.ne hcu ht rfl
theorem own_of {v : Value} (h : w.ownsRow B 35 8 v n (flatE xs)) : ∃ A cap, v = .slice A n cap ∧ Own w B A n cap xs := by
  rcases id h.2 with ⟨rfl, h0⟩ | ⟨g, cp, cur, rfl, hb, hg, hnc, hcm, hcs, ht⟩
  · rw [h0] at h ⊢
    exact ⟨none, 0, rfl, own_seesE h, fun ad ha => (by cases ha)⟩
  · refine ⟨_, cp, rfl, own_seesE h, fun ad ha => ?_⟩
    injection ha with ha
    subst ha
    exact ⟨g, 0, cur, rfl, hb, hg, by omega⟩
theorem Own.lower {B' : Nat} (h : Own w B A n cap xs) (hb : B' ≤ B) : Own w B' A n cap xs :=
  ⟨h.sees, fun ad had => by
    obtain ⟨g, o, cur, e, hb', rest⟩ := h.own ad had
    exact ⟨g, o, cur, e, Nat.le_trans hb hb', rest⟩⟩
/-- Where its elements lie. -/
theorem Own.range (h : Own w B A n cap xs) {g o : Nat} (hA : A = some ⟨g, o, none⟩) : w.rangeAt g o (flatE xs) := by
  by_cases hn : 0 < n
  · obtain ⟨g', o', e, _, hr⟩ := h.sees.cell _ hA hn
    injection e with e1 e2
    subst e1 e2
    exact hr
  · intro j v hv
    have hl := h.sees.len
    have h0 : xs = [] := List.eq_nil_of_length_eq_zero (by omega)
    subst h0
    simp [flatE] at hv
theorem flatE_len (xs : List Ent) : (flatE xs).length = xs.length * 8 := by unfold flatE; rw [flat_len Ent.len]

/-- Behind the first. -/
theorem Own.tail (h : Own w B A (n + 1) cap xs) : Own w B (if cap = 1 then A else A.map (·.add 8)) n (cap - 1) xs.tail := by
  have hr := h.sees.room
  have hm := h.sees.most
  have hl := h.sees.len
  rcases A with _ | ad
  · have := h.sees.none_ rfl
    omega
  obtain ⟨g, o, cur, rfl, hb, hc, hs⟩ := h.own _ rfl
  have hra := h.range rfl
  by_cases h1 : cap = 1
  · subst h1
    obtain rfl : n = 0 := by omega
    obtain ⟨x, rfl⟩ : ∃ x, xs = [x] := by
      match xs, hl with
      | [x], _ => exact ⟨x, rfl⟩
    refine ⟨⟨rfl, by omega, by omega, fun e => (by simp at e), fun ad _ hi => absurd hi (Nat.lt_irrefl _)⟩, fun ad ha => ?_⟩
    simp at ha
    subst ha
    exact ⟨g, o, cur, rfl, hb, hc, by omega⟩
  · rw [if_neg h1]
    obtain ⟨x, ys, rfl⟩ : ∃ x ys, xs = x :: ys := by
      cases xs with
      | nil => simp at hl
      | cons x ys => exact ⟨x, ys, rfl⟩
    simp only [List.length_cons] at hl
    refine ⟨⟨by rw [List.tail_cons, flatE_len]; omega, by omega, by omega, fun e => (by simp at e), fun ad ha hi => ?_⟩, fun ad ha => ?_⟩
    · simp only [Option.map_some, plain_add, Option.some.injEq] at ha
      subst ha
      refine ⟨g, o + 8, rfl, hc.lt, fun j v hv => ?_⟩
      rw [List.tail_cons] at hv
      have := hra (8 + j) v (by
        unfold flatE at hv ⊢
        rw [List.flatMap_cons, List.getElem?_append_right (by rw [Ent.len]; omega), Ent.len, show 8 + j - 8 = j by omega]
        exact hv)
      rw [show o + 8 + j = o + (8 + j) by omega]
      exact this
    · simp only [Option.map_some, plain_add, Option.some.injEq] at ha
      subst ha
      exact ⟨g, o + 8, cur, rfl, hb, hc, by omega⟩
theorem blk_tail (A : Option Addr) (k : Nat) : blk (if k = 1 then A else A.map (·.add 8)) = blk A := by
  split
  · rfl
  · cases A with
    | none => rfl
    | some a => simp [blk, Addr.add]
end

/-- 'append(l, x)'. -/
theorem run_append_cut {w : World} {B n cap : Nat} {A : Option Addr} {xs : List Ent} (h : Own w B A n cap xs) (hn : n ≤ 1000000) (hB : B ≤ w.heap.size) (ty : TypeId)
    (ad : Addr) (c : Nat) (x : Ent) (hx : ∀ j u, x.cs[j]? = some u → w.cell? (ad.add j) = some u) :
    ∃ A' cap' w', (Builtin.append_ #[27, 27] ty #[.slice A n cap, .slice (some ad) 1 c]).run Try.prog w = .ok (.slice A' (n + 1) cap') w' ∧ Own w' B A' (n + 1) cap' (xs ++ [x]) ∧ w.grownBy w' (blk A) ∧
      ∀ g, blk A' = some g → g < w.heap.size → blk A = some g := by
  obtain ⟨i0, hi, hz0, hz1, hz2⟩ := info_parts info35
  have hl := h.sees.len
  rcases A with _ | a
  · have hc0 := h.sees.none_ rfl
    have hr0 := h.sees.room
    obtain rfl : cap = 0 := hc0
    obtain rfl : n = 0 := by omega
    obtain rfl : xs = [] := List.eq_nil_of_length_eq_zero (by omega)
    obtain ⟨v', w', hr, ho, hg, _⟩ := run_append_own (P := Try.prog) w w.heap.size 27 ty 35 i0 (.agg noE.cs.toArray) 8 64 Try.underlying27 hi hz0 hz1 hz2 rfl (by decide) (.slice none 0 0) 0 [] (World.ownsRow_nil w _ 35 8) ad 1 c x.cs rfl hx x.one (by unfold maxLen; omega) (by omega) (Nat.le_refl _)
    have ho' : w'.ownsRow w.heap.size 35 8 v' (0 + 1) (flatE ([] ++ [x])) := by simpa [flatE] using ho
    obtain ⟨A', cap', rfl, hown⟩ := own_of ho'
    refine ⟨A', cap', w', hr, hown.lower hB, hg, fun g hb hlt => ?_⟩
    have := (hown.lt hb).1
    omega
  · obtain ⟨g, o, cur, rfl, hb, hc, hs⟩ := h.own _ rfl
    have hlt := hc.lt
    have hra := h.range rfl
    have hcell : ∀ j u, (flatE xs)[j]? = some u → w.cell? ((⟨g, o, none⟩ : Addr).add j) = some u := by
      intro j u hu
      rw [plain_add]
      exact hra j u hu
    by_cases hroom : n + 1 ≤ cap
    · have hr := run_append_room_cells (P := Try.prog) w 27 ty 35 i0 Try.underlying27 hi g o n cap ad 1 c x.cs (by rw [hz1]; rfl) hx x.one hroom
        (fun j hj => by
          rw [Ent.len] at hj
          rw [hz1, hc.cell, Array.getElem?_eq_getElem (by omega)]
          rfl)
        (fun j hj => hc.free _)
      rw [hz1] at hr
      have hcN := heap_cells (g := g) (t := 35) x.cs (o + n * 8) w cur hc
      have hk := kept_cells g x.cs (o + n * 8) w
      have hsz := hk.size
      refine ⟨_, _, _, hr, ⟨⟨by rw [flatE_len, List.length_append, hl]; rfl, hroom, h.sees.most, fun e => (by cases e), fun ad had _ => ?_⟩, fun ad had => ?_⟩, ⟨hk.os, hk.tape, hk.output, hk.size, fun k hk1 hk2 => hk.block k hk1 (fun e => hk2 (by rw [e]; rfl))⟩, fun g hg _ => hg⟩
      · cases had
        refine ⟨g, o, rfl, Nat.lt_of_lt_of_le hlt hsz, fun j v hv => ?_⟩
        rw [hcN.cell, splice_get _ _ _ _ (by rw [Ent.len]; omega), Ent.len]
        rw [flatE_snoc] at hv
        have hfl : (flatE xs).length = n * 8 := by rw [flatE_len, hl]
        by_cases hj : j < n * 8
        · rw [List.getElem?_append_left (by omega)] at hv
          rw [if_neg (by omega)]
          have := hra j v hv
          rw [hc.cell] at this
          exact this
        · rw [List.getElem?_append_right (by omega), hfl] at hv
          have := (List.getElem?_eq_some_iff.1 hv).1
          rw [Ent.len] at this
          rw [if_pos (by omega), show o + j - (o + n * 8) = j - n * 8 by omega]
          exact hv
      · cases had
        exact ⟨g, o, _, rfl, hb, hcN, by rw [splice_size]; exact hs⟩
    · obtain ⟨v', w', hr, ho, hg⟩ := run_append_arg_grows (P := Try.prog) w 27 ty 35 i0 (.agg noE.cs.toArray) 8 64 Try.underlying27 hi hz0 hz1 hz2 rfl (by decide) ⟨g, o, none⟩ n cap (flatE xs) (by rw [flatE_len, hl]) hcell ad 1 c x.cs rfl hx (by omega) (by unfold maxLen; omega) (by omega)
      rw [← flatE_snoc] at ho
      obtain ⟨A', cap', rfl, hown⟩ := own_of ho
      refine ⟨A', cap', w', hr, hown.lower hB, hg.but _, fun k hk hlt => ?_⟩
      have := (hown.lt hk).1
      omega

theorem wpList_append_cut {w : World} {ops : Array Oper} {rest : List Oper} {o : Oper} {a : Act} {Q : Exit → Act → World → Prop} (hgd : o.guard = none) (s x : Operand)
    (ho : o.op = .call { callee := .builtin .append, args := #[s, x], argTypes := #[27, 27] })
    {B n cap : Nat} {A : Option Addr} {xs : List Ent} (hs : a.eval s = .slice A n cap) (h : Own w B A n cap xs) (hn : n ≤ 1000000) (hB : B ≤ w.heap.size)
    (ad : Addr) (c : Nat) (y : Ent) (hx : a.eval x = .slice (some ad) 1 c) (hc : ∀ j u, y.cs[j]? = some u → w.cell? (ad.add j) = some u)
    (hK : ∀ A' cap' w', Own w' B A' (n + 1) cap' (xs ++ [y]) → w.grownBy w' (blk A) → (∀ g, blk A' = some g → g < w.heap.size → blk A = some g) → wpList Try.prog ops Q rest (a.put o.dst (.slice A' (n + 1) cap')) w') :
    wpList Try.prog ops Q (o :: rest) a w := by
  refine wpList_plain hgd fun K hK' => ?_
  obtain ⟨A', cap', w', hrun, r1, r2, r3⟩ := run_append_cut h hn hB o.type ad c y hc
  unfold Oper.wp
  simp [execOp, ho, resolve, invoke, builtin, hs, hx, hrun, Result.andThen]
  exact hK' _ _ (hK A' cap' w' r1 r2 r3)

theorem under27 : Try.prog.underlying 27 = some (.slice (Try.prog.elem 27)) := by kernel_rfl
theorem size27 (w : World) : (sizeOf (Try.prog.elem 27)).run Try.prog w = .ok 8 w := by kernel_rfl
theorem cut_first (A : Option Addr) (n cap : Nat) (w : World) :
    (Instr.slice 27 (.slice A (n + 1) cap) (some (.int .i64 1)) none none).run Try.prog w = .ok (.slice (if cap = 1 then A else A.map (·.add 8)) n (cap - 1)) w := by
  rw [run_slice_l w 27 A (n + 1) cap under27 .i64 _ (by omega) (by omega), size27]
  simp [Result.andThen, sliced]
end Go.Proofs.Ytclnkgoaenlhhaa
