/- Places are sorted; none are. Conditions: at most 12 places. -/
import Derived.Test.YtfadfdfpocpelaaDoorFCompact
import Derived.Test.YtfadfdfpocpelaaDoorFShelf
namespace Go.Proofs.YtfadfdfpocpelaaDoor
open Go.ChangeShapes Go.WideShapes Go.RowKit Go.Sort

theorem cmpP_swo : SWO (ltOf cmpP) := by
  constructor
  · intro x
    simp only [ltOf, decide_eq_false_iff_not, cmpP_neg]
    exact Less.irrefl x
  · intro x y z
    simp only [ltOf, decide_eq_true_eq, cmpP_neg]
    exact Less.trans
  · intro x y z
    simp only [ltOf, decide_eq_false_iff_not, cmpP_neg]
    intro h1 h2 h3
    rcases Less.total x y with e | e | e
    · exact h1 e
    · subst e
      exact h2 h3
    · exact h2 (e.trans h3)
theorem cmp_lays (g off size : Nat) (w : World) : Go.Proofs.CmpLays Tryd.prog 49 #[] Pl.cs 3 cmpP g off size w := fun _ _ _ _ x y => compare_any x y _
section
variable {w : World} {B g n cap : Nat} {l : List Pl}
theorem flat_same (d : Array Pl) (j : Nat) (hj : j < d.size * 3) : (flatP d.toList)[j]? = some (Sort.flatK Pl.cs 3 d)[j]! := by
  rw [get_flatK _ _ _ _ hj]
  have h1 : j / 3 < d.size := by omega
  have hx : d.toList[j / 3]? = some d[j / 3]! := by
    rw [Array.getElem?_toList, getElem!_pos d (j / 3) h1]
    exact Array.getElem?_eq_getElem h1
  have := flat_get Pl.len d.toList (j / 3) _ hx (j % 3) (by omega)
  rw [show j / 3 * 3 + j % 3 = j by omega] at this
  unfold flatP
  rw [this]
  have hm : j % 3 < (Pl.cs d[j / 3]!).length := by rw [Pl.len]; omega
  rw [List.getElem?_eq_getElem hm]
  exact congrArg some (getElem!_pos (Pl.cs d[j / 3]!) (j % 3) hm).symm
set_option maxRecDepth 100000 in
theorem sort_some (h : w.ownsRow B 23 3 (.slice (some ⟨g, 0, none⟩) n cap) n (flatP l)) (hn : n ≤ 12) :
    Calls Tryd.prog 48 #[.slice (some ⟨g, 0, none⟩) n cap, .func (.func 49) #[] #[]] w fun e w' => e = .returned (.tuple #[]) ∧ ∃ l', l'.Perm l ∧ (∀ (i j : Nat) (x y : Pl), i < j → l'[i]? = some x → l'[j]? = some y → ¬ (cmpP y x < 0)) ∧
      w'.ownsRow B 23 3 (.slice (some ⟨g, 0, none⟩) n cap) n (flatP l') ∧ Kept (fun k => k = g) w w' := by
  have hl : l.length = n := by
    have := h.1
    unfold flatP at this
    rw [flat_len Pl.len] at this
    omega
  have eg : ∀ args w, (callFunc 49 args).run Tryd.prog w = .ok (.enter 49 args) w := enters_of Tryd.func49 (by kernel_rfl) rfl
  rcases id h.2 with ⟨e, _⟩ | ⟨g', c, cur, e, hB, hg, h1, h2, h3, h4⟩
  · cases e
  injection e with e1 e2 e3
  injection e1 with e1
  injection e1 with e1
  subst e1 e3
  have hgl := (Array.getElem?_eq_some_iff.1 hg).1
  have hH : HoldsK Pl.cs 3 w g 0 l.toArray := by
    intro j hj
    rw [size_flatK] at hj
    have hj' : j < n * 3 := by simpa [hl] using hj
    refine ⟨?_, by simp [World.frozen?, hg]⟩
    have := h.cellAt j hj'
    rw [Nat.zero_add]
    have e := flat_same l.toArray j hj
    rw [show l.toArray.toList = l from rfl] at e
    rw [e] at this
    exact this
  have hs := Tryd.sort_any 3 Tryd.isAgg23 Tryd.sizeOf23 Pl.cs Pl.len Pl.one cmpP 49 #[] cmpP_swo g 0 cap l.toArray w eg (cmp_lays g 0 _ w) hH hgl (by simp [hl]; omega)
  rw [show l.toArray.size = n by simpa using hl] at hs
  refine hs.mono ?_
  rintro e w' ⟨rfl, d', m, os, hP, hS, rfl⟩
  obtain ⟨hd, _, hp⟩ := hP
  have hd : d'.size = n := by rw [hd]; simpa using hl
  have hgw : (sortWorldK Pl.cs 3 w g 0 m d' os).heap[g]? = some (.cells (putCells id 0 (Sort.flatK Pl.cs 3 d') cur) 23 (0, 0)) := by
    unfold sortWorldK putRowK
    rw [heap_grow_old _ _ (by simpa using hgl)]
    simp [putRow, mapBlock, Sort.ahead, Array.getElem?_modify, hg, onCells]
  refine ⟨rfl, d'.toList, ?_, ?_, ⟨?_, .inr ⟨g, cap, _, rfl, hB, hgw, h1, h2, by simp [putCells, h3], ?_⟩⟩, ?_⟩
  · have e1 : (d'.extract 0 n).toList = d'.toList := by rw [← hd]; simp
    have e2 : (l.toArray.extract 0 n).toList = l := by rw [← hl]; simp
    rw [e1, e2] at hp
    exact hp
  · intro i j x y hij hx hy
    have hj : j < d'.size := by simpa using (List.getElem?_eq_some_iff.1 hy).1
    have := hS i j (Nat.zero_le _) hij (by omega)
    have ex : d'[i]! = x := by
      rw [Array.getElem?_toList] at hx
      rw [getElem!_pos d' i (by omega)]
      exact (Array.getElem?_eq_some_iff.1 hx).2
    have ey : d'[j]! = y := by
      rw [Array.getElem?_toList] at hy
      rw [getElem!_pos d' j hj]
      exact (Array.getElem?_eq_some_iff.1 hy).2
    rw [ex, ey] at this
    simpa [ltOf] using this
  · unfold flatP
    rw [flat_len Pl.len]
    simp [hd]
  · apply List.ext_getElem?
    intro j
    by_cases hj : j < n * 3
    · rw [flat_same d' j (by rw [hd]; exact hj), List.getElem?_take_of_lt hj, Array.getElem?_toList]
      have hc : j < cur.size := by rw [h3]; omega
      simp [putCells, hc, hd, hj]
    · rw [List.getElem?_take_eq_none (by omega), List.getElem?_eq_none (by unfold flatP; rw [flat_len Pl.len]; simp [hd]; omega)]
  · refine ⟨rfl, rfl, rfl, by simp [sortWorldK, putRowK], fun k hk hne => ?_⟩
    unfold sortWorldK putRowK
    rw [heap_grow_old _ _ (by simpa using hk)]
    have : g ≠ k := fun e => hne e.symm
    simp [putRow, mapBlock, Sort.ahead, Array.getElem?_modify, this]
end
set_option maxRecDepth 100000 in
theorem len_zero (w : World) : Calls Tryd.prog 59 #[.int .u64 0] w fun e w' => e = .returned (.int .i64 0) ∧ w = w' := by
  have h := Tryd.bits_Len 0 w (by omega) (by omega)
  refine h.mono ?_
  rintro e w' ⟨rfl, rfl⟩
  exact ⟨rfl, rfl⟩
set_option maxRecDepth 100000 in
theorem insert_nil (w : World) : Calls Tryd.prog 67 #[.slice none 0 0, .int .i64 0, .int .i64 0, .func (.func 49) #[] #[]] w fun e w' => e = .returned (.tuple #[]) ∧ w = w' := by
  go_enter Tryd.func67, Tryd.ntmps67
  go_wp2_with fail
  refine wp_loop_rounds 1 ?_
  iterate 1 (rw [rounds_succ]; go_wp2)
  go_end0
  exact ⟨rfl, rfl⟩
set_option maxRecDepth 100000 in
theorem pdq_nil (k : Int) (w : World) : Calls Tryd.prog 58 #[.slice none 0 0, .int .i64 0, .int .i64 0, .int .i64 k, .func (.func 49) #[] #[]] w fun e w' => e = .returned (.tuple #[]) ∧ w = w' := by
  have hi := insert_nil w
  go_enter Tryd.func58, Tryd.ntmps58
  go_wp2_with fail
  refine wp_loop_rounds 1 ?_
  rw [rounds_succ]
  go_wp2_with (go_at_call 67; refine hi.mono ?_; rintro e w1 ⟨rfl, rfl⟩)
  refine bodyPost_ret (results_none rfl _ _ _) rfl ?_
  exact ⟨rfl, rfl⟩
set_option maxRecDepth 100000 in
theorem sort_nil (w : World) : Calls Tryd.prog 48 #[.slice none 0 0, .func (.func 49) #[] #[]] w fun e w' => e = .returned (.tuple #[]) ∧ w = w' := by
  have hb := len_zero w
  have hp := fun k => pdq_nil k w
  go_enter Tryd.func48, Tryd.ntmps48
  go_wp2_with (first
    | (go_at_call 59; refine hb.mono ?_; rintro e w' ⟨rfl, rfl⟩)
    | (go_at_call 58; refine (hp _).mono ?_; rintro e w' ⟨rfl, rfl⟩))
  go_end0
  exact ⟨rfl, rfl⟩
end Go.Proofs.YtfadfdfpocpelaaDoor
