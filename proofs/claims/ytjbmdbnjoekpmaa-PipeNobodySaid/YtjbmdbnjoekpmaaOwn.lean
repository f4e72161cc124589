/- A list of numbers of the call's own, cut at its front or whole: it reads, it is cut, it is appended to. Conditions: none. -/
import Derived.Test.YtjbmdbnjoekpmaaAll
import Derived.ArgAppend
import Derived.WalkSpells
namespace Go.Proofs.Ytjbmdbnjoekpmaa
open Go.RowKit Go.Conc

structure Own (w : World) (B : Nat) (A : Option Addr) (n cap : Nat) (xs : List Int) : Prop where
  row : Row w w.heap.size A n cap xs
  own : ∀ ad, A = some ad → ∃ g o cur, ad = ⟨g, o, none⟩ ∧ B ≤ g ∧ w.heap[g]? = some (.cells cur 3 (0, 0)) ∧ o + cap ≤ cur.size
/-- The block in which a list lies. -/
def blk (A : Option Addr) : Option Nat := A.map (·.block)
theorem blk_own (A : Option Addr) (n cap : Nat) : (Value.slice A n cap).ownBlock = blk A := by
  cases A <;> rfl
theorem plain_add (b o j : Nat) : (⟨b, o, none⟩ : Addr).add j = ⟨b, o + j, none⟩ := by unfold Addr.add; split <;> simp_all
section
variable {w w' : World} {B n cap : Nat} {A : Option Addr} {xs : List Int}
theorem Own.nil (w : World) (B : Nat) : Own w B none 0 0 [] := ⟨Row.nil _ _, fun _ h => (by cases h)⟩
theorem Own.lt (h : Own w B A n cap xs) {g : Nat} (hg : blk A = some g) : B ≤ g ∧ g < w.heap.size := by
  rcases A with _ | ad
  · cases hg
  · obtain ⟨g', o, cur, rfl, hb, hc, _⟩ := h.own _ rfl
    injection hg with hg
    subst hg
    exact ⟨hb, (Array.getElem?_eq_some_iff.1 hc).1⟩
theorem Own.kept {row : Option Nat} (h : Own w B A n cap xs) (hg : w.grownBy w' row) (hne : ∀ g, blk A = some g → some g ≠ row) : Own w' B A n cap xs := by
  refine ⟨⟨h.row.len, h.row.room, h.row.most, h.row.none_, fun ad ha i hi => ?_⟩, fun ad ha => ?_⟩
  · obtain ⟨h1, h2⟩ := h.row.cell ad ha i hi
    refine ⟨Nat.lt_of_lt_of_le h1 hg.size, hg.cell h2 ?_⟩
    rw [add_block]
    exact hne _ (by rw [ha]; rfl)
  · obtain ⟨g, o, cur, rfl, hb, hc, hs⟩ := h.own ad ha
    exact ⟨g, o, cur, rfl, hb, (hg.block g (Array.getElem?_eq_some_iff.1 hc).1 (hne g (by rw [ha]; rfl))).trans hc, hs⟩
theorem Own.below (h : Own w B A n cap xs) (hb : Below w.heap.size w w') : Own w' B A n cap xs := h.kept (grown_below hb none) (by simp)
theorem Own.chan {c k : Nat} {ys : List Int} (h : Own w B A n cap xs) (hc : Holds w c k ys) : ∀ g, blk A = some g → some g ≠ some c := by
  intro g hg e
  injection e with e
  subst e
  rcases A with _ | ad
  · cases hg
  · obtain ⟨g', o, cur, rfl, _, hcu, _⟩ := h.own _ rfl
    injection hg with hg
    subst hg
    obtain ⟨s, r, hch⟩ := hc.block
    rw [hcu] at hch
    cases hch
theorem Own.box {p : Nat} {cs : Array Value} {t : TypeId} (h : Own w B A n cap xs) (hp : w.heap[p]? = some (.cells cs t (0, 0))) (ht : t ≠ 3) : some p ≠ blk A := by
  intro e
  rcases A with _ | ad
  · cases e
  · obtain ⟨g', o, cur, rfl, _, hcu, _⟩ := h.own _ rfl
    injection e with e
    subst e
    rw [hcu] at hp
    injection hp with hp
    injection hp with _ hp _
    exact ht hp.symm
theorem own_of {v : Value} (h : w.ownsRow B 3 1 v n (ints xs)) : ∃ A cap, v = .slice A n cap ∧ Own w B A n cap xs := by
  obtain ⟨A, cap, rfl, hr⟩ := Row.own h
  refine ⟨A, cap, rfl, hr, fun ad ha => ?_⟩
  rcases h.2 with ⟨hv, rfl⟩ | ⟨g, cap', cur, hv, hb, hg, hnc, hcm, hcs, ht⟩
  · cases hv
    cases ha
  · cases hv
    cases ha
    exact ⟨g, 0, cur, rfl, hb, hg, by omega⟩

/-- Behind the first. -/
theorem Own.tail (h : Own w B A (n + 1) cap xs) : Own w B (if cap = 1 then A else A.map (·.add 1)) n (cap - 1) xs.tail := by
  have hr := h.row.room
  have hm := h.row.most
  have hl := h.row.len
  rcases A with _ | ad
  · have := h.row.zero.1
    omega
  obtain ⟨g, o, cur, rfl, hb, hc, hs⟩ := h.own _ rfl
  have hlt := (Array.getElem?_eq_some_iff.1 hc).1
  by_cases h1 : cap = 1
  · subst h1
    obtain rfl : n = 0 := by omega
    refine ⟨⟨by simp [hl], by omega, by omega, fun e => (by simp at e), fun ad _ i hi => absurd hi (Nat.not_lt_zero _)⟩, fun ad ha => ?_⟩
    simp at ha
    subst ha
    exact ⟨g, o, cur, rfl, hb, hc, by omega⟩
  · rw [if_neg h1]
    refine ⟨⟨by simp [hl], by omega, by omega, fun e => (by simp at e), fun ad ha i hi => ?_⟩, fun ad ha => ?_⟩
    · simp only [Option.map_some, plain_add, Option.some.injEq] at ha
      subst ha
      have := h.row.cell _ rfl (i + 1) (by omega)
      rw [plain_add] at this ⊢
      refine ⟨this.1, ?_⟩
      rw [show o + 1 + i = o + (i + 1) by omega, this.2]
      cases xs <;> simp [List.getD]
    · simp only [Option.map_some, plain_add, Option.some.injEq] at ha
      subst ha
      exact ⟨g, o + 1, cur, rfl, hb, hc, by omega⟩
theorem blk_tail (A : Option Addr) (k : Nat) : blk (if k = 1 then A else A.map (·.add 1)) = blk A := by
  split
  · rfl
  · cases A
    · rfl
    · simp [blk, add_block]
end

/-- 'append(l, x)'. -/
theorem run_append_cut {w : World} {B n cap : Nat} {A : Option Addr} {xs : List Int} (h : Own w B A n cap xs) (hn : n ≤ 1000000) (hB : B ≤ w.heap.size) (ty : TypeId)
    (ad : Addr) (c : Nat) (x : Int) (hx : ∀ j u, [Value.int .i64 x][j]? = some u → w.cell? (ad.add j) = some u) :
    ∃ A' cap' w', (Builtin.append_ #[27, 27] ty #[.slice A n cap, .slice (some ad) 1 c]).run Try.prog w = .ok (.slice A' (n + 1) cap') w' ∧ Own w' B A' (n + 1) cap' (xs ++ [x]) ∧ w.grownBy w' (blk A) ∧
      ∀ g, blk A' = some g → g < w.heap.size → blk A = some g := by
  obtain ⟨i0, hi, hz0, hz1, hz2⟩ := info_parts info3
  have hl := h.row.len
  have ho1 : ∀ u ∈ [Value.int .i64 x], u.oneCell' = true := by
    intro u hu
    simp at hu
    subst hu
    rfl
  rcases A with _ | a
  · obtain ⟨rfl, rfl, rfl⟩ := h.row.zero
    obtain ⟨v', w', hr, ho, hg, _⟩ := run_append_own (P := Try.prog) w w.heap.size 27 ty 3 i0 (.int .i64 0) 1 8 Try.underlying27 hi hz0 hz1 hz2 rfl (by decide) (.slice none 0 0) 0 [] (World.ownsRow_nil w _ 3 1) ad 1 c [.int .i64 x] rfl hx ho1 (by unfold maxLen; omega) (by omega) (Nat.le_refl _)
    have ho' : w'.ownsRow w.heap.size 3 1 v' (0 + 1) (ints ([] ++ [x])) := ho
    obtain ⟨A', cap', rfl, hown⟩ := own_of ho'
    refine ⟨A', cap', w', hr, ⟨hown.row, fun ad had => ?_⟩, hg, fun g hb hlt => ?_⟩
    · obtain ⟨g, o, cur, e, hb, rest⟩ := hown.own ad had
      exact ⟨g, o, cur, e, by omega, rest⟩
    · have := (hown.lt hb).1
      omega
  · obtain ⟨g, o, cur, rfl, hb, hc, hs⟩ := h.own _ rfl
    have hlt := (Array.getElem?_eq_some_iff.1 hc).1
    have hcell : ∀ j u, (ints xs)[j]? = some u → w.cell? ((⟨g, o, none⟩ : Addr).add j) = some u := by
      intro j u hu
      have hj : j < xs.length := by
        have := (List.getElem?_eq_some_iff.1 hu).1
        simpa [ints] using this
      rw [(h.row.cell _ rfl j (by omega)).2]
      rw [ints, List.getElem?_map, List.getElem?_eq_getElem hj] at hu
      simp at hu
      simp [List.getD, List.getElem?_eq_getElem hj, hu]
    by_cases hroom : n + 1 ≤ cap
    · have hin : ∀ k, k < cur.size → w.cell? ⟨g, k, none⟩ = cur[k]? := fun k _ => cell_of_row w g k cur 3 (0, 0) hc
      have hr := run_append_room_cells (P := Try.prog) w 27 ty 3 i0 Try.underlying27 hi g o n cap ad 1 c [.int .i64 x] (by rw [hz1]; rfl) hx ho1 hroom
        (fun j hj => by
          simp at hj
          subst hj
          rw [hz1, hin _ (by omega), Array.getElem?_eq_getElem (by omega)]
          rfl)
        (fun j hj => by simp [World.frozen?, hc])
      rw [hz1] at hr
      have hcN : (w.setCells g (o + n * 1) [.int .i64 x]).heap[g]? = some (.cells (cur.setIfInBounds (o + n * 1) (.int .i64 x)) 3 (0, 0)) := by
        simp [World.setCells, World.setCell, Array.getElem?_modify, hc]
      have hoth : ∀ k, k ≠ g → (w.setCells g (o + n * 1) [.int .i64 x]).heap[k]? = w.heap[k]? := fun k hk => by
        simp only [World.setCells]
        exact Below.heap_setCell _ _ _ _ hk
      have hsz : (w.setCells g (o + n * 1) [.int .i64 x]).heap.size = w.heap.size := by simp [World.setCells, World.setCell]
      refine ⟨_, _, _, hr, ⟨⟨by simp [hl], hroom, h.row.most, fun e => (by cases e), fun ad had i hi => ?_⟩, fun ad had => ?_⟩, ⟨rfl, rfl, rfl, by omega, fun k _ hk => hoth k (fun e => hk (by rw [e]; rfl))⟩, fun g hg _ => hg⟩
      · cases had
        rw [plain_add]
        refine ⟨by rw [hsz]; exact hlt, ?_⟩
        rw [cell_of_row _ g (o + i) _ 3 (0, 0) hcN, Array.getElem?_setIfInBounds]
        by_cases e : i = n
        · subst e
          simp [List.getD, ← hl]
          omega
        · have h0 := (h.row.cell _ rfl i (by omega)).2
          rw [plain_add, hin _ (by omega)] at h0
          rw [if_neg (by omega), h0]
          simp [List.getD, List.getElem?_append_left (show i < xs.length by omega)]
      · cases had
        exact ⟨g, o, _, rfl, hb, hcN, by simpa using hs⟩
    · obtain ⟨v', w', hr, ho, hg⟩ := run_append_arg_grows (P := Try.prog) w 27 ty 3 i0 (.int .i64 0) 1 8 Try.underlying27 hi hz0 hz1 hz2 rfl (by decide) ⟨g, o, none⟩ n cap (ints xs) (by simp [ints, hl]) hcell ad 1 c [.int .i64 x] rfl hx (by omega) (by unfold maxLen; omega) (by omega)
      rw [ints_snoc] at ho
      obtain ⟨A', cap', rfl, hown⟩ := own_of ho
      refine ⟨A', cap', w', hr, ⟨hown.row, fun ad had => ?_⟩, hg.but _, fun k hk hlt => ?_⟩
      · obtain ⟨g, o, cur, e, hb', rest⟩ := hown.own ad had
        exact ⟨g, o, cur, e, by omega, rest⟩
      · have := (hown.lt hk).1
        omega

theorem wpList_append_cut {w : World} {ops : Array Oper} {rest : List Oper} {o : Oper} {a : Act} {Q : Exit → Act → World → Prop} (hgd : o.guard = none) (s x : Operand)
    (ho : o.op = .call { callee := .builtin .append, args := #[s, x], argTypes := #[27, 27] })
    {B n cap : Nat} {A : Option Addr} {xs : List Int} (hs : a.eval s = .slice A n cap) (h : Own w B A n cap xs) (hn : n ≤ 1000000) (hB : B ≤ w.heap.size)
    (ad : Addr) (c : Nat) (y : Int) (hx : a.eval x = .slice (some ad) 1 c) (hc : ∀ j u, [Value.int .i64 y][j]? = some u → w.cell? (ad.add j) = some u)
    (hK : ∀ A' cap' w', Own w' B A' (n + 1) cap' (xs ++ [y]) → w.grownBy w' (blk A) → (∀ g, blk A' = some g → g < w.heap.size → blk A = some g) → wpList Try.prog ops Q rest (a.put o.dst (.slice A' (n + 1) cap')) w') :
    wpList Try.prog ops Q (o :: rest) a w := by
  refine wpList_plain hgd fun K hK' => ?_
  obtain ⟨A', cap', w', hrun, r1, r2, r3⟩ := run_append_cut h hn hB o.type ad c y hc
  unfold Oper.wp
  simp [execOp, ho, resolve, invoke, builtin, hs, hx, hrun, Result.andThen]
  exact hK' _ _ (hK A' cap' w' r1 r2 r3)

theorem under27 : Try.prog.underlying 27 = some (.slice (Try.prog.elem 27)) := by kernel_rfl
theorem size27 (w : World) : (sizeOf (Try.prog.elem 27)).run Try.prog w = .ok 1 w := by kernel_rfl
theorem cut_first (A : Option Addr) (n cap : Nat) (w : World) :
    (Instr.slice 27 (.slice A (n + 1) cap) (some (.int .i64 1)) none none).run Try.prog w = .ok (.slice (if cap = 1 then A else A.map (·.add 1)) n (cap - 1)) w := by
  rw [run_slice_l w 27 A (n + 1) cap under27 .i64 _ (by omega) (by omega), size27]
  simp [Result.andThen, sliced]
end Go.Proofs.Ytjbmdbnjoekpmaa
