/- The reference's calls: what they share. Conditions: none. -/
import Derived.Test.YtdilmapcjmdabaaRcopy
import Derived.Test.YtdilmapcjmdabaaAsk
namespace Go.Proofs.Ytdilmapcjmdabaa
open Go.ChangeShapes Go.WideShapes Go.RowKit
section
variable {w w' : World} {r : Rim} {s : Sta}
theorem there_any (r : Rim) (k : Int) (w : World) : Calls Try.prog 14 #[.agg r.cs, .int .i64 k] w fun e w' => e = .returned (.bool (decide (1 ≤ k) && decide (k ≤ (r.n : Int)))) ∧ Below w.heap.size w w' := by
  have hB := blk_new w r.cs 31 _ rfl
  have c0 : (w.alloc (.cells r.cs 31)).cell? ⟨w.heap.size, 0, none⟩ = some (.slice r.Ac r.n r.cc) := hB.cell 0
  by_cases h1 : 1 ≤ k
  · have t1 : decide (1 ≤ k) = true := decide_eq_true h1
    rw [t1]
    go_enter Try.func14, Try.ntmps14
    go_wp2
    go_ret
    exact ⟨by simp, (Below.refl _ w).alloc (Nat.le_refl _) _⟩
  · have t1 : decide (1 ≤ k) = false := decide_eq_false h1
    rw [t1]
    go_enter Try.func14, Try.ntmps14
    go_wp2
    go_ret
    exact ⟨by simp, (Below.refl _ w).alloc (Nat.le_refl _) _⟩
theorem rhas_some (h : Ref w r s) {k : Int} {c : Cel} (hc : s.cel k = some c) : (decide (1 ≤ k) && decide (k ≤ (r.n : Int))) = true := by
  obtain ⟨j, h1, h2, h3, _⟩ := cel_some hc
  have := h.lenC
  simp
  omega
theorem rhas_none (h : Ref w r s) {k : Int} (hc : s.cel k = none) : (decide (1 ≤ k) && decide (k ≤ (r.n : Int))) = false := by
  have := cel_none.1 hc
  have := h.lenC
  simp
  omega
/-- The lists in a variable, and the result's. -/
structure Two (w : World) (b q : Nat) (r : Rim) : Prop where
  var : Blk w b 31 r.cs
  res : Blk w q 31 #[.slice none 0 0, .slice none 0 0]
  ne : b ≠ q
theorem Two.below {b q : Nat} (h : Two w b q r) (hb : Below w.heap.size w w') : Two w' b q r := ⟨h.var.on hb, h.res.on hb, h.ne⟩
theorem two_new (r : Rim) (w : World) : Two ((w.alloc (.cells r.cs 31)).alloc (.cells #[.slice none 0 0, .slice none 0 0] 31)) w.heap.size (w.heap.size + 1) r :=
  ⟨(blk_new w _ 31 _ rfl).on ((Below.refl _ _).alloc (Nat.le_refl _) _), blk_new _ _ 31 _ (by simp), by omega⟩
theorem two_more (r : Rim) (w : World) (cs : Array Value) : Two (((w.alloc (.cells r.cs 31)).alloc (.cells cs 24)).alloc (.cells #[.slice none 0 0, .slice none 0 0] 31)) w.heap.size (w.heap.size + 1 + 1) r :=
  ⟨((blk_new w _ 31 _ rfl).on ((Below.refl _ _).alloc (Nat.le_refl _) _)).on ((Below.refl _ _).alloc (Nat.le_refl _) _), blk_new _ _ 31 _ (by simp), by omega⟩
/-- The copy comes into the variable. -/
theorem two_store {b q : Nat} {r2 : Rim} (h : Two w b q r) : Two (w.setRow b r2.cs) b q r2 :=
  ⟨setRow_heap _ _ _ _ _ _ h.var, (setRow_other _ _ _ _ h.ne.symm).trans h.res, h.ne⟩
theorem Ref.row_off {b : Nat} (h : Ref w r s) (hr : ∀ g, r.S g → g ≠ b) (x : Array Value) : Ref (w.setRow b x) r s :=
  h.kept (kept_row w b x) (fun g hg e => hr g hg e)
theorem one31 (r : Rim) : r.cs.all (·.oneCell') = true := by simp [Rim.cs, Value.oneCell']
theorem szcs (r : Rim) : (Try.prog.info? 31).map (·.size) = some r.cs.size := size31
theorem loadcs {g : Nat} (hg : Blk w g 31 r.cs) : (loadVar 31 ⟨g, 0, none⟩).run Try.prog w = .ok (.agg r.cs) w :=
  run_loadVar_row w g 31 31 _ (0, 0) _ hg Try.underlying31 rfl (szcs r)
/-- A part of a cell turned. -/
theorem own_part {A : Option Addr} {n cap j g o : Nat} {C : List Cel} {c to : Cel} {vs : List Value} (h : w.ownsRow 0 45 10 (.slice A n cap) n (flatC C)) (hA : A = some ⟨g, 0, none⟩) (hj : C[j]? = some c)
    (ho : o + vs.length ≤ 10) (hp : splice c.cs.toArray o vs = to.cs.toArray) : (w.setCells g (j * 10 + o) vs).ownsRow 0 45 10 (.slice A n cap) n (flatC (C.set j to)) := by
  have hl : C.length = n := by
    have := h.1
    unfold flatC at this
    rw [flat_len Cel.len] at this
    omega
  have hjl : j < C.length := (List.getElem?_eq_some_iff.1 hj).1
  refine ⟨by unfold flatC; rw [flat_len Cel.len, List.length_set, hl], ?_⟩
  rcases h.2 with ⟨e, h0⟩ | ⟨g', c', cur, e, hb, hh, h1, h2, h3, h4⟩
  · omega
  · injection e with e1 e2 e3
    subst e3
    rw [hA] at e1
    injection e1 with e1
    injection e1 with e1
    subst e1
    have hin : j * 10 + o + vs.length ≤ cur.size := by rw [h3]; omega
    refine .inr ⟨g, cap, _, by rw [hA], hb, heap_cells vs (j * 10 + o) w cur hh, h1, h2, by rw [splice_size, h3], ?_⟩
    apply List.ext_getElem?
    intro i
    unfold flatC at h4 ⊢
    rw [flat_set Cel.len C j to i hjl, List.getElem?_take, Array.getElem?_toList, splice_get _ _ _ _ hin]
    have h5 : ∀ i, (if i < n * 10 then cur[i]? else none) = (C.flatMap Cel.cs)[i]? := fun i => by
      rw [← h4, List.getElem?_take, Array.getElem?_toList]
    by_cases h6 : j * 10 ≤ i ∧ i < j * 10 + 10
    · rw [if_pos h6]
      have hs : to.cs[i - j * 10]? = (splice c.cs.toArray o vs)[i - j * 10]? := by rw [hp]; simp
      rw [hs, splice_get _ _ _ _ (by simpa [Cel.cs] using ho)]
      by_cases h7 : j * 10 + o ≤ i ∧ i < j * 10 + o + vs.length
      · rw [if_pos h7, if_pos (by omega : i < n * 10), if_pos (by omega : o ≤ i - j * 10 ∧ i - j * 10 < o + vs.length), show i - (j * 10 + o) = i - j * 10 - o by omega]
      · rw [if_neg h7, h5 i, if_neg (by omega : ¬ (o ≤ i - j * 10 ∧ i - j * 10 < o + vs.length))]
        have := flat_get Cel.len C j c hj (i - j * 10) (by omega)
        rw [show j * 10 + (i - j * 10) = i by omega] at this
        rw [this]
        simp
    · rw [if_neg h6, if_neg (by omega : ¬ (j * 10 + o ≤ i ∧ i < j * 10 + o + vs.length)), h5 i]
/-- A cell of the lists. -/
theorem ref_at (h : Ref w r s) {k : Int} {c : Cel} (hc : s.cel k = some c) : ∃ (j g : Nat), k - 1 = (j : Int) ∧ s.C[j]? = some c ∧ (k - 1).toNat = j ∧ j < r.n ∧ r.Ac = some ⟨g, 0, none⟩ ∧ (∃ cs, Blk w g 45 cs) ∧ w.rangeAt g (j * 10) c.cs ∧ w.there g (j * 10) 10 := by
  obtain ⟨j, h1, h2, h3, h4⟩ := cel_some hc
  obtain ⟨g, e, hb, hr, ht⟩ := own_at Cel.len h.cells h2 (by omega)
  exact ⟨j, g, h1, h2, h4, by rw [← h.lenC]; exact h3, e, hb, hr, ht⟩
end
end Go.Proofs.Ytdilmapcjmdabaa
