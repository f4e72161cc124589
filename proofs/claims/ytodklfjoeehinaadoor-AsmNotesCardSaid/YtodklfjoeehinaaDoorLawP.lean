/- The walk of ShowProgs. Conditions: the variables lie as they are laid; operands of 64 bits. -/
import Derived.Test.YtodklfjoeehinaaDoorRefP
namespace Go.Proofs.YtodklfjoeehinaaDoor
open Go.RowKit Nine
set_option linter.unusedSimpArgs false

/-! ### how many lines a text has -/
theorem parts_lines : ∀ (ls : List (List UInt8)), (∀ l ∈ ls, (10 : UInt8) ∉ l) → (parts 10 (ls.flatMap fun l => l ++ [10])).length = ls.length
  | [], _ => rfl
  | l :: t, h => by
    have ih := parts_lines t fun y hy => h y (List.mem_cons_of_mem _ hy)
    have e : (l :: t).flatMap (fun l => l ++ [10]) = l ++ 10 :: t.flatMap fun l => l ++ [10] := by simp
    rw [e, parts_cut 10 l _ (h l (by simp)), List.length_cons, ih]
    rfl
def linesM (xss : List (List Ins)) : List (List UInt8) := xss.flatMap fun xs => wThread :: xs.map lineI
theorem linesM_len : ∀ (xss : List (List Ins)), (linesM xss).length = cntM xss
  | [] => rfl
  | xs :: t => by
    have ih := linesM_len t
    have e : linesM (xs :: t) = wThread :: xs.map lineI ++ linesM t := by simp [linesM]
    rw [e, List.length_append, ih, List.length_cons, List.length_map, cntM]
    omega
theorem linesT_flat (xs : List Ins) : linesT xs = (xs.map lineI).flatMap fun l => l ++ [10] := by simp [linesT, List.flatMap_map]
theorem textM_flat : ∀ (xss : List (List Ins)), textM xss = (linesM xss).flatMap fun l => l ++ [10]
  | [] => rfl
  | xs :: t => by
    have ih := textM_flat t
    have e1 : textM (xs :: t) = textT xs ++ textM t := by simp [textM]
    have e2 : linesM (xs :: t) = (wThread :: xs.map lineI) ++ linesM t := by simp [linesM]
    rw [e1, e2, List.flatMap_append, ih, textT, linesT_flat]
    simp
theorem linesM_nofeed (xss : List (List Ins)) : ∀ l ∈ linesM xss, (10 : UInt8) ∉ l := by
  intro l hl
  obtain ⟨xs, _, hl⟩ := List.mem_flatMap.1 hl
  rcases List.mem_cons.1 hl with rfl | hl
  · decide
  · obtain ⟨x, _, rfl⟩ := List.mem_map.1 hl
    exact lineZ_nofeed _ _ _ _ _
theorem head_nofeed (r c s : Int) : (10 : UInt8) ∉ joinL [wFirst, Lib.itoa r, Lib.itoa c, Lib.itoa s] := join_nofeed _ fun x hx => by
  simp at hx
  rcases hx with rfl | rfl | rfl | rfl
  · decide
  · exact itoa_nofeed _
  · exact itoa_nofeed _
  · exact itoa_nofeed _
theorem text_lines (r c s : Int) (xss : List (List Ins)) : (parts 10 (textP r c s xss)).length = 1 + cntM xss := by
  have e : textP r c s xss = (joinL [wFirst, Lib.itoa r, Lib.itoa c, Lib.itoa s] :: linesM xss).flatMap fun l => l ++ [10] := by
    rw [textP, headL, textM_flat]
    simp
  rw [e, parts_lines, List.length_cons, linesM_len]
  · omega
  · intro l hl
    rcases List.mem_cons.1 hl with rfl | hl
    · exact head_nofeed r c s
    · exact linesM_nofeed xss l hl
theorem Good.size {r c s : Int} {xss : List (List Ins)} (h : Good r c s xss) : (txt (textP r c s xss)).size ≤ 8000 := by
  have h1 := h.head
  have h2 := h.text xss.length
  rw [List.take_length] at h2
  rw [txt_size, textP, List.length_append]
  omega
theorem Good.count {r c s : Int} {xss : List (List Ins)} (h : Good r c s xss) : cntM xss ≤ 1000 := by
  have h1 := cntM_le 16 xss h.short
  have h2 : (1 + 16) * xss.length ≤ (1 + 16) * 4 := Nat.mul_le_mul_left _ h.few
  omega
theorem textsplit_any (r c s : Int) (xss : List (List Ins)) (h : Good r c s xss) (zz : Nat) (hz : 1 + cntM xss = zz) (w : World) :
    Calls Tryd.prog 15 #[.string (txt (textP r c s xss))] w fun e w' => ∃ A cap, e = .returned (.slice A zz cap) ∧ Below w.heap.size w w' := by
  have hs := h.size
  refine (refsplit_any (txt (textP r c s xss)) (by omega) w).mono ?_
  rintro e w' ⟨v, rfl, ho, hb⟩
  rw [oct_txt, text_lines, hz] at ho
  rcases ho.2 with ⟨rfl, h0⟩ | ⟨g, cap, cur, rfl, _⟩
  · omega
  · exact ⟨_, cap, rfl, hb⟩
theorem few_wide {xss : List (List Ins)} (h : ∀ xs ∈ xss, ∀ x ∈ xs, WideI x) : ∀ xs ∈ few xss, ∀ x ∈ xs, WideI x := by
  intro xs hx x hx2
  obtain ⟨y, hy, rfl⟩ := List.mem_map.1 hx
  exact h y (List.mem_of_mem_take hy) x (List.mem_of_mem_take hx2)

end Go.Proofs.YtodklfjoeehinaaDoor
