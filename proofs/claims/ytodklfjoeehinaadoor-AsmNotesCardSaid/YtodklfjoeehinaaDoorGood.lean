/- What a program that may be has: few threads of few instructions, each of which has a line; rows of texts just made; what show's decimal answers. Conditions: the variables lie as they are laid, for decimal. -/
import Derived.Test.YtodklfjoeehinaaDoorWrite
namespace Go.Proofs.YtodklfjoeehinaaDoor
open Go.RowKit Nine

theorem chkP_parts {r c s : Int} {xss : List (List Ins)} (h : chkP r c s xss = 0) : okHead r c s = true ∧ 1 ≤ xss.length ∧ xss.length ≤ 4 ∧ (∀ xs ∈ xss, xs.length ≤ 16) ∧ chkM r s xss = 0 := by
  unfold chkP at h
  split at h
  · omega
  rename_i h1
  split at h
  · omega
  rename_i h2
  split at h
  · omega
  rename_i h3
  refine ⟨by simpa using h1, by omega, by omega, fun xs hx => ?_, h⟩
  have h4 : long xs = false := by
    cases hl : long xs with
    | false => rfl
    | true => exact absurd (List.any_eq_true.2 ⟨xs, hx, hl⟩) h3
  have := of_decide_eq_false h4
  omega
theorem chkI_four {x : Ins} {r s k : Int} (h : chkI x r s k = 0) : (shapeZ x.o).length = 4 := by
  rcases shape_cases x.o with ⟨_, h1⟩ | ⟨_, i, l0, l1, l2, l3, _, _, h1, h4⟩
  · unfold chkI chk at h
    rw [h1] at h
    cases h
  · rw [h1, h4]
    rfl
theorem chkT_four {r s k : Int} : ∀ (xs : List Ins), chkT r s k xs = 0 → ∀ x ∈ xs, (shapeZ x.o).length = 4
  | [], _, x, hx => by simp at hx
  | y :: t, h, x, hx => by
    rw [chkT] at h
    split at h
    · rename_i h0
      rcases List.mem_cons.1 hx with rfl | hx
      · exact chkI_four h0
      · exact chkT_four t h x hx
    · rename_i h0
      exact absurd h h0
theorem chkM_four {r s : Int} : ∀ (xss : List (List Ins)), chkM r s xss = 0 → ∀ xs ∈ xss, ∀ x ∈ xs, (shapeZ x.o).length = 4
  | [], _, x, hx => by simp at hx
  | y :: t, h, xs, hx => by
    rw [chkM] at h
    split at h
    · rename_i h0
      rcases List.mem_cons.1 hx with rfl | hx
      · exact chkT_four _ h0
      · exact chkM_four t h xs hx
    · rename_i h0
      exact absurd h h0
/-- A program that may be. -/
structure Good (r c s : Int) (xss : List (List Ins)) : Prop where
  wr : Wide r
  wc : Wide c
  ws : Wide s
  few : xss.length ≤ 4
  short : ∀ xs ∈ xss, xs.length ≤ 16
  wide : ∀ xs ∈ xss, ∀ x ∈ xs, WideI x
  four : ∀ xs ∈ xss, ∀ x ∈ xs, (shapeZ x.o).length = 4
theorem good_of {r c s : Int} {xss : List (List Ins)} (h : chkP r c s xss = 0) (hw : ∀ xs ∈ xss, ∀ x ∈ xs, WideI x) : Good r c s xss := by
  obtain ⟨h1, _, h3, h4, h5⟩ := chkP_parts h
  unfold okHead at h1
  simp only [Bool.and_eq_true, decide_eq_true_eq] at h1
  exact ⟨by unfold Wide; omega, by unfold Wide; omega, by unfold Wide; omega, h3, h4, hw, chkM_four xss h5⟩
theorem Good.text {r c s : Int} {xss : List (List Ins)} (h : Good r c s xss) (k : Nat) : (textM (xss.take k)).length ≤ 7132 := by
  have h1 := textM_short (xss.take k) fun xs hx => ⟨h.wide xs (List.mem_of_mem_take hx), h.short xs (List.mem_of_mem_take hx)⟩
  have h2 : 1783 * (xss.take k).length ≤ 1783 * 4 := Nat.mul_le_mul_left _ (by rw [List.length_take]; have := h.few; omega)
  omega
theorem Good.lines {r c s : Int} {xss : List (List Ins)} (h : Good r c s xss) {xs : List Ins} (hx : xs ∈ xss) (k : Nat) : (linesT (xs.take k)).length ≤ 1776 := by
  have h1 := linesT_short (xs.take k) fun x hx2 => h.wide xs hx x (List.mem_of_mem_take hx2)
  have h2 : 111 * (xs.take k).length ≤ 111 * 16 := Nat.mul_le_mul_left _ (by rw [List.length_take]; have := h.short xs hx; omega)
  omega
theorem Good.head {r c s : Int} {xss : List (List Ins)} (h : Good r c s xss) : (headL r c s).length ≤ 111 := by
  have := head_short h.wr h.wc h.ws
  rw [headL, List.length_append]
  simp only [List.length_cons, List.length_nil]
  omega

/-! ### rows just made -/
theorem row_lit (w : World) (xs : List (List UInt8)) (n : Nat) (hl : xs.length = n) (hm : n ≤ maxLen) : Row (w.alloc (.cells (vals xs).toArray 9)) (w.heap.size + 1) (some ⟨w.heap.size, 0, none⟩) n n xs := by
  refine ⟨hl, Nat.le_refl _, hm, fun h => (by cases h), fun ad ha i hi => ?_⟩
  injection ha with ha
  subst ha
  refine ⟨Nat.lt_succ_self _, ?_⟩
  rw [plain_add, Nat.zero_add]
  have hb : Blk (w.alloc (.cells (vals xs).toArray 9)) w.heap.size 9 (vals xs).toArray := heap_alloc_new w _
  rw [hb.cell, List.getElem?_toArray, vals, List.getElem?_map, List.getElem?_eq_getElem (by omega)]
  simp [List.getD, List.getElem?_eq_getElem (show i < xs.length by omega)]
end Go.Proofs.YtodklfjoeehinaaDoor
