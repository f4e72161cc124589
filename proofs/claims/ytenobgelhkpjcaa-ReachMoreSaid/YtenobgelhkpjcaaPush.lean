/- A search in memory: a cell is marked, and waits. Conditions: at most 1000 cells. -/
import Derived.Test.YtenobgelhkpjcaaSeek
namespace Go.Proofs.Ytenobgelhkpjcaa
open Go.ChangeShapes Go.WideShapes Go.RowKit

/-- An element of a list of the call's own is set. -/
theorem own_put {α : Type} {f : α → List Value} {k B : Nat} (hf : ∀ x, (f x).length = k) (hk : 0 < k) {w : World} {t : TypeId} {A : Option Addr} {n cap j g : Nat} {l : List α} {x : α} (h : w.ownsRow B t k (.slice A n cap) n (l.flatMap f)) (hA : A = some ⟨g, 0, none⟩) (hj : j < l.length) :
    (w.setCells g (j * k) (f x)).ownsRow B t k (.slice A n cap) n ((l.set j x).flatMap f) := by
  have hl : l.length = n := by
    have := h.1
    rw [flat_len hf] at this
    exact Nat.eq_of_mul_eq_mul_right hk this
  refine ⟨by rw [flat_len hf, List.length_set, hl], ?_⟩
  rcases h.2 with ⟨e, h0⟩ | ⟨g', c', cur, e, hb, hh, h1, h2, h3, h4⟩
  · omega
  · injection e with e1 e2 e3
    subst e3
    rw [hA] at e1
    injection e1 with e1
    injection e1 with e1
    subst e1
    have hm : j * k + k ≤ cap * k := by
      have : (j + 1) * k ≤ cap * k := Nat.mul_le_mul_right _ (by omega)
      rw [Nat.add_mul] at this
      omega
    have hmn : j * k + k ≤ n * k := by
      have : (j + 1) * k ≤ n * k := Nat.mul_le_mul_right _ (by omega)
      rw [Nat.add_mul] at this
      omega
    have hin : j * k + k ≤ cur.size := by rw [h3]; exact hm
    refine .inr ⟨g, cap, _, by rw [hA], hb, heap_cells (f x) (j * k) w cur hh, h1, h2, by rw [splice_size, h3], ?_⟩
    apply List.ext_getElem?
    intro i
    rw [flat_set hf l j x i hj, List.getElem?_take, Array.getElem?_toList, splice_get _ _ _ _ (by rw [hf]; exact hin), hf, ← h4, List.getElem?_take, Array.getElem?_toList]
    by_cases h5 : j * k ≤ i ∧ i < j * k + k
    · rw [if_pos h5, if_pos h5, if_pos (by omega)]
    · rw [if_neg h5, if_neg h5, Array.getElem?_toList]

section
variable {w w' : World} {L : Lim} {C : List Cel} {s : Sta}
theorem step_sum (hl : s.R.length = C.length) (x : Wd) : (s.step C x).R.length = C.length ∧ (s.step C x).R.count false + (s.step C x).Q.length = s.R.count false + s.Q.length := by
  unfold Sta.step
  cases e : leads C x with
  | none => exact ⟨hl, rfl⟩
  | some i =>
    simp only
    by_cases h1 : s.R[i]? = some true
    · rw [if_pos h1]
      exact ⟨hl, rfl⟩
    · rw [if_neg h1]
      have h2 := not_true (by rw [hl]; exact leads_lt e) h1
      have h3 := count_set s.R i h2
      refine ⟨by simp [hl], ?_⟩
      simp only [List.length_append, List.length_singleton]
      omega
theorem follow_sum : ∀ (l : List Wd) (s : Sta), s.R.length = C.length → (s.follow C l).R.length = C.length ∧ (s.follow C l).R.count false + (s.follow C l).Q.length = s.R.count false + s.Q.length
  | [], s, h => ⟨h, rfl⟩
  | x :: l, s, h => by
    obtain ⟨h1, h2⟩ := step_sum h x
    obtain ⟨h3, h4⟩ := follow_sum l (s.step C x) h1
    exact ⟨h3, h4.trans h2⟩
theorem Srch.marked {g i : Nat} (h : Srch w L C s) (hA : L.Ar = some ⟨g, 0, none⟩) (hi : i < L.n) :
    Srch (w.setCell ⟨g, i, none⟩ (.bool true)) L C ⟨s.R.set i true, s.Q⟩ ∧ Kept (fun k => k = g) w (w.setCell ⟨g, i, none⟩ (.bool true)) := by
  have hk := kept_cell w ⟨g, i, none⟩ (.bool true)
  obtain ⟨cs, hb⟩ := own_blk h.oR (g := g) (by rw [hA]; rfl)
  refine ⟨⟨h.box.kept hk (h.box.ne hb (by decide)), h.cells.kept hk (fun g' hg e => h.off g' hg (.inr (.inl (by rw [hA]; exact congrArg some (Eq.symm e))))), ?_, own_kept h.oQ hk (fun g' hg e => own_off h.oQ hb (by decide) ((show g' = g from e) ▸ hg)), h.off⟩, hk⟩
  have := own_put (x := true) bool_len (by omega) h.oR hA (j := i) (by rw [h.lenR]; exact hi)
  rw [show i * 1 = i by omega] at this
  exact this
theorem Srch.push_box (h : Srch w L C s) (o : Obj) : ∀ W, (w.alloc o).grownBy W (Value.slice L.An L.m L.cn).ownBlock → Blk W L.p 44 L.cs := by
  intro W hg
  have h1 := h.below ((Below.refl _ w).alloc (Nat.le_refl _) o)
  exact h1.box.kept (kept_grown hg) (fun e => own_off h1.oQ h1.box (by decide) ((own_lies L.An L.m L.cn _).1 e))
theorem Srch.pushed {i gg cp : Nat} {w5 : World} (h : Srch w L C s) (o : Obj) (hg : (w.alloc o).grownBy w5 (Value.slice L.An L.m L.cn).ownBlock)
    (ho : w5.ownsRow 0 3 1 (.slice (some ⟨gg, 0, none⟩) (L.m + 1) cp) (L.m + 1) (nats s.Q ++ [.int .i64 (i : Int)])) (hat : (Value.slice L.An L.m L.cn).ownBlock = some gg ∨ gg = w.heap.size + 1) :
    Srch (w5.setCell ⟨L.p, 2, none⟩ (.slice (some ⟨gg, 0, none⟩) (L.m + 1) cp)) { L with An := some ⟨gg, 0, none⟩, m := L.m + 1, cn := cp } C ⟨s.R, s.Q ++ [i]⟩ ∧
      Kept (fun g => g = L.p ∨ lies L.An g) w (w5.setCell ⟨L.p, 2, none⟩ (.slice (some ⟨gg, 0, none⟩) (L.m + 1) cp)) ∧ ∀ g, lies (some ⟨gg, 0, none⟩) g → lies L.An g ∨ w.heap.size ≤ g := by
  have h1 := h.below ((Below.refl _ w).alloc (Nat.le_refl _) o)
  have k1 := kept_grown hg
  have b5 := h.push_box o w5 hg
  have k2 := kept_cell w5 ⟨L.p, 2, none⟩ (.slice (some ⟨gg, 0, none⟩) (L.m + 1) cp)
  have hat2 : ∀ g, lies (some ⟨gg, 0, none⟩) g → lies L.An g ∨ w.heap.size ≤ g := fun g hg => by
    injection hg with hg
    subst hg
    rcases hat with hat | hat
    · exact .inl ((own_lies L.An L.m L.cn _).1 hat)
    · exact .inr (by show w.heap.size ≤ gg; omega)
  have hQ : ∀ g t' cs, Blk (w.alloc o) g t' cs → 3 ≠ t' → ¬ (Value.slice L.An L.m L.cn).ownBlock = some g := fun g t' cs hb ht e => own_off h1.oQ hb ht ((own_lies L.An L.m L.cn g).1 e)
  have oR5 := own_kept h1.oR k1 (fun g hg => by
    obtain ⟨cs, hb⟩ := own_blk h1.oR hg
    exact hQ _ _ _ hb (by decide))
  have c5 := h1.cells.kept k1 (fun g hg e => h.off g hg (.inr (.inr ((own_lies L.An L.m L.cn g).1 e))))
  refine ⟨⟨heap_setCell_same w5 L.p 2 _ 44 _ b5, c5.kept k2 (fun g hg e => h.off g hg (.inl e)), own_kept oR5 k2 (fun g hg e => by have e : g = L.p := e; subst e; exact own_off oR5 b5 (by decide) hg), ?_, ?_⟩, ?_, hat2⟩
  · have := own_kept ho k2 (fun g hg e => by have e : g = L.p := e; subst e; exact own_off ho b5 (by decide) hg)
    rw [show nats (s.Q ++ [i]) = nats s.Q ++ [.int .i64 (i : Int)] by simp [nats]]
    exact this
  · rintro g hg (e | e | e)
    · exact h.off g hg (.inl e)
    · exact h.off g hg (.inr (.inl e))
    · rcases hat2 g e with e | e
      · exact h.off g hg (.inr (.inr e))
      · have := h.cells.lt g hg
        omega
  · refine ((kept_below _ ((Below.refl _ w).alloc (Nat.le_refl _) o)).next k1 (fun g hg => .inl (.inr ((own_lies L.An L.m L.cn g).1 hg)))).next k2 (fun g hg => .inl (.inl hg))

/-- What a call that goes on with a search leaves. -/
def To (w : World) (L : Lim) (C : List Cel) (s : Sta) (w' : World) : Prop :=
  ∃ An m cn, Srch w' { L with An := An, m := m, cn := cn } C s ∧ Kept L.S w w' ∧ ∀ g, lies An g → lies L.An g ∨ w.heap.size ≤ g
theorem To.refl (h : Srch w L C s) : To w L C s w := ⟨L.An, L.m, L.cn, h, Kept.refl _ _, fun _ h => .inl h⟩
theorem To.next {w1 w2 : World} {s2 : Sta} {An : Option Addr} {m cn : Nat} (h1 : Kept L.S w w1) (h2 : ∀ g, lies An g → lies L.An g ∨ w.heap.size ≤ g) (h : To w1 { L with An := An, m := m, cn := cn } C s2 w2) : To w L C s2 w2 := by
  obtain ⟨An2, m2, cn2, a, b, c⟩ := h
  refine ⟨An2, m2, cn2, a, h1.next b (fun g hg => ?_), fun g hg => ?_⟩
  · rcases hg with e | e | e
    · exact .inl (.inl e)
    · exact .inl (.inr (.inl e))
    · exact (h2 g e).elim (fun e => .inl (.inr (.inr e))) .inr
  · rcases c g hg with e | e
    · exact h2 g e
    · exact .inr (Nat.le_trans h1.size e)
end
end Go.Proofs.Ytenobgelhkpjcaa
