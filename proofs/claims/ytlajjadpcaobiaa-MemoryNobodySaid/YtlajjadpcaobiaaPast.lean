/- What a program's memory has behind some Puts; what was there ahead of each; which places there are. Conditions: none. -/
import Derived.Test.YtlajjadpcaobiaaPure
import Derived.Test.YtlajjadpcaobiaaMap
namespace Go.Proofs.Ytlajjadpcaobiaa
open Go.RowKit Go.ChangeShapes Go.WideShapes

/-! ### the places of a memory -/
def standsB (x : Pl) : Bool := holdsK x.k && !(x.k == 3)
def placesM (p : Pg) : List Pl := (allP p).filter standsB
/-- Is it a place of the program's memory? -/
def thereP (p : Pg) (x : Pl) : Bool := isP x p && !(x.k == 2) && !(x.k == 3) && !(x.k == 4)
theorem isP_kind {x : Pl} {p : Pg} (h : isP x p = true) : 1 ≤ x.k ∧ x.k ≤ 8 := by
  by_cases hk : 1 ≤ x.k ∧ x.k ≤ 8
  · exact hk
  · unfold isP inB at h
    rw [spanP_else x.k p hk] at h
    simp only [Bool.and_eq_true, decide_eq_true_eq] at h
    omega
theorem isP_wide {x : Pl} {p : Pg} (h : isP x p = true) : 0 ≤ x.i ∧ x.i ≤ 6 ∧ 0 ≤ x.j ∧ x.j ≤ 1 := by
  have ho := spanP_of x.k p
  unfold isP inB at h
  simp only [Bool.and_eq_true, decide_eq_true_eq] at h
  generalize spanP x.k p = S at *
  obtain ⟨f, m, q⟩ := S
  simp only at *
  omega
theorem stands_there {p : Pg} {x : Pl} (h : isP x p = true) : standsB x = thereP p x := by
  obtain ⟨h1, h2⟩ := isP_kind h
  unfold standsB thereP holdsK
  rw [h]
  generalize x.k = k at *
  have : k = 1 ∨ k = 2 ∨ k = 3 ∨ k = 4 ∨ k = 5 ∨ k = 6 ∨ k = 7 ∨ k = 8 := by omega
  rcases this with rfl | rfl | rfl | rfl | rfl | rfl | rfl | rfl <;> decide
theorem there_is {p : Pg} {x : Pl} (h : thereP p x = true) : isP x p = true := by
  unfold thereP at h
  simp only [Bool.and_eq_true] at h
  exact h.1.1.1
theorem mem_places {p : Pg} {x : Pl} : x ∈ placesM p ↔ thereP p x = true := by
  unfold placesM
  rw [List.mem_filter, mem_allP]
  constructor
  · rintro ⟨h1, h2⟩
    rw [← stands_there h1, h2]
  · intro h
    have h1 := there_is h
    exact ⟨h1, by rw [stands_there h1, h]⟩
theorem there_wide {p : Pg} {x : Pl} (h : thereP p x = true) : x.Wide := by
  have h1 := isP_kind (there_is h)
  have h2 := isP_wide (there_is h)
  exact ⟨by unfold I64; omega, by unfold I64; omega, by unfold I64; omega⟩
theorem there_kind {p : Pg} {x : Pl} (h : thereP p x = true) : x.k ≤ 8 := (isP_kind (there_is h)).2

/-! ### what was put -/
/-- The epoch, marks and counts are numbers. -/
def fitW (x : Pl) (v : Wd) : Wd := if 6 ≤ x.k then ⟨v.n, 0, 0⟩ else v
/-- The word that was put last at a place. -/
def lastW (L : List Ch) (x : Pl) : Wd := L.foldl (fun w e => if e.x = x then e.v else w) noW
def atP (L : List Ch) (x : Pl) : Wd := fitW x (lastW L x)
theorem last_snoc (L : List Ch) (e : Ch) (x : Pl) : lastW (L ++ [e]) x = if e.x = x then e.v else lastW L x := by
  unfold lastW
  rw [List.foldl_append]
  rfl
theorem at_nil (x : Pl) : atP [] x = noW := by
  unfold atP fitW lastW
  split <;> rfl
theorem at_same (L : List Ch) (e : Ch) : atP (L ++ [e]) e.x = fitW e.x e.v := by
  unfold atP
  rw [last_snoc, if_pos rfl]
theorem at_other (L : List Ch) (e : Ch) {x : Pl} (h : x ≠ e.x) : atP (L ++ [e]) x = atP L x := by
  unfold atP
  rw [last_snoc, if_neg (fun h' => h h'.symm)]
/-- What a memory tells. -/
def memF (p : Pg) (L : List Ch) : Pl → Option Wd := fun x => if thereP p x = true then some (atP L x) else none
theorem memF_some (p : Pg) (L : List Ch) (x : Pl) : (memF p L x).isSome = thereP p x := by
  unfold memF
  cases h : thereP p x <;> simp
theorem memF_there {p : Pg} {L : List Ch} {x : Pl} (h : thereP p x = true) : memF p L x = some (atP L x) := if_pos h
/-- What it answers. -/
def getP (p : Pg) (L : List Ch) (x : Pl) : Wd := (memF p L x).getD noW
theorem getP_there {p : Pg} {L : List Ch} {x : Pl} (h : thereP p x = true) : getP p L x = atP L x := by
  unfold getP
  rw [memF_there h]
  rfl
theorem getP_not {p : Pg} {L : List Ch} {x : Pl} (h : thereP p x = false) : getP p L x = noW := by
  unfold getP memF
  rw [h]
  rfl
theorem memF_put {p : Pg} {L : List Ch} (e : Ch) (he : thereP p e.x = true) (x : Pl) : upd (memF p L) e.x (fitW e.x e.v) x = memF p (L ++ [e]) x := by
  by_cases h : x = e.x
  · subst h
    rw [upd_same, memF_there he, at_same]
  · rw [upd_other _ _ h]
    unfold memF
    rw [at_other L e h]

/-! ### what was there ahead -/
def pastP (L : List Ch) : List Ch := (List.range L.length).map fun k => ⟨(L.getD k noC).x, atP (L.take k) (L.getD k noC).x⟩
theorem past_len (L : List Ch) : (pastP L).length = L.length := by simp [pastP]
theorem past_snoc (L : List Ch) (e : Ch) : pastP (L ++ [e]) = pastP L ++ [⟨e.x, atP L e.x⟩] := by
  unfold pastP
  rw [List.length_append, List.length_singleton, List.range_succ, List.map_append]
  congr 1
  · refine List.map_congr_left fun k hk => ?_
    have hk := List.mem_range.1 hk
    have e : (L ++ [e]).getD k noC = L.getD k noC := by simp [List.getD, List.getElem?_append_left hk]
    rw [e, List.take_append_of_le_length (by omega)]
  · simp
theorem past_take (L : List Ch) (m : Nat) (hm : m ≤ L.length) : pastP (L.take m) = (pastP L).take m := by
  unfold pastP
  rw [← List.map_take, List.length_take, Nat.min_eq_left hm, List.take_range, Nat.min_eq_left hm]
  refine List.map_congr_left fun k hk => ?_
  have hk := List.mem_range.1 hk
  have e : (L.take m).getD k noC = L.getD k noC := by
    simp [List.getD, List.getElem?_take_of_lt hk]
  rw [e, List.take_take, Nat.min_eq_left (by omega)]
theorem past_at (L : List Ch) (k : Nat) (hk : k < L.length) : (pastP L)[k]? = some ⟨(L.getD k noC).x, atP (L.take k) (L.getD k noC).x⟩ := by
  unfold pastP
  rw [List.getElem?_map, List.getElem?_range hk]
  rfl
theorem past_getD (L : List Ch) (k : Nat) (hk : k < L.length) : (pastP L).getD k noC = ⟨(L.getD k noC).x, atP (L.take k) (L.getD k noC).x⟩ := by
  simp [List.getD, past_at L k hk]
/-- One Put taken back. -/
theorem memF_undo {p : Pg} {L : List Ch} {k : Nat} (hk : k < L.length) (hL : ∀ e ∈ L, thereP p e.x = true) (x : Pl) :
    upd (memF p (L.take (k + 1))) (L.getD k noC).x (atP (L.take k) (L.getD k noC).x) x = memF p (L.take k) x := by
  have e1 : L.take (k + 1) = L.take k ++ [L.getD k noC] := by
    rw [List.take_add_one]
    congr 1
    simp [List.getD, List.getElem?_eq_getElem hk]
  have hm : L.getD k noC ∈ L := by
    simp [List.getD, List.getElem?_eq_getElem hk]
  generalize L.getD k noC = e at *
  rw [e1]
  by_cases h : x = e.x
  · subst h
    rw [upd_same, memF_there (hL e hm)]
  · rw [upd_other _ _ h]
    unfold memF
    rw [at_other _ e h]

/-! ### the words of a kind -/
def kindM (p : Pg) (k : Int) : List Pl := (placesM p).filter fun x => x.k == k
def allW (p : Pg) (L : List Ch) (k : Int) : List Wd := (kindM p k).map (atP L)
theorem filter_kindI (K k : Int) (s : Sp) (n : Nat) : (kindI K s n).filter (fun x => x.k == k) = if K = k then kindI K s n else [] := by
  by_cases h : K = k
  · rw [if_pos h, List.filter_eq_self]
    intro x hx
    obtain ⟨_, _, _, _, rfl⟩ := mem_kindI.1 hx
    simpa using h
  · rw [if_neg h, List.filter_eq_nil_iff]
    intro x hx
    obtain ⟨_, _, _, _, rfl⟩ := mem_kindI.1 hx
    simpa using h
theorem kind_all (p : Pg) (k : Nat) (hk : k < 9) : (allP p).filter (fun x => x.k == (k : Int)) = kindI (k : Int) (spanP (k : Int) p) (spanP (k : Int) p).m.toNat := by
  unfold allP kindsP
  rw [List.filter_flatMap]
  have e : (fun K : Nat => (kindI (K : Int) (spanP (K : Int) p) (spanP (K : Int) p).m.toNat).filter (fun x => x.k == (k : Int))) = fun K : Nat => if K = k then kindI (k : Int) (spanP (k : Int) p) (spanP (k : Int) p).m.toNat else [] := by
    funext K
    rw [filter_kindI]
    by_cases h : K = k
    · rw [if_pos (by omega), if_pos h, h]
    · rw [if_neg (by omega), if_neg h]
  have e2 : (List.range 9).flatMap (fun K : Nat => if K = k then kindI (k : Int) (spanP (k : Int) p) (spanP (k : Int) p).m.toNat else []) = kindI (k : Int) (spanP (k : Int) p) (spanP (k : Int) p).m.toNat := by
    generalize kindI (k : Int) (spanP (k : Int) p) (spanP (k : Int) p).m.toNat = l
    have : k = 0 ∨ k = 1 ∨ k = 2 ∨ k = 3 ∨ k = 4 ∨ k = 5 ∨ k = 6 ∨ k = 7 ∨ k = 8 := by omega
    rcases this with rfl | rfl | rfl | rfl | rfl | rfl | rfl | rfl | rfl <;> simp [List.range_succ]
  rw [← e2, ← e]
theorem kind_places (p : Pg) (k : Nat) (hk : k = 1 ∨ (5 ≤ k ∧ k ≤ 8)) : kindM p (k : Int) = kindI (k : Int) (spanP (k : Int) p) (spanP (k : Int) p).m.toNat := by
  rw [← kind_all p k (by omega)]
  unfold kindM placesM
  rw [List.filter_filter]
  refine List.filter_congr fun x _ => ?_
  by_cases h : x.k = (k : Int)
  · have hs : standsB x = true := by
      unfold standsB holdsK
      rw [h]
      have : k = 1 ∨ k = 5 ∨ k = 6 ∨ k = 7 ∨ k = 8 := by omega
      rcases this with rfl | rfl | rfl | rfl | rfl <;> decide
    rw [hs, Bool.and_true]
  · have : (x.k == (k : Int)) = false := by simpa using h
    rw [this, Bool.false_and]
/-- Rows of as many, one behind the other, are one row. -/
theorem rows_one {α : Type} (g : Nat → Nat → α) (q : Nat) (hq : 0 < q) : ∀ m, ((List.range m).flatMap fun i => (List.range q).map fun j => g i j) = (List.range (m * q)).map fun i => g (i / q) (i % q)
  | 0 => by simp
  | m + 1 => by
    rw [List.range_succ, List.flatMap_append, rows_one g q hq m, Nat.add_mul, Nat.one_mul, List.range_add, List.map_append]
    congr 1
    simp only [List.flatMap_cons, List.flatMap_nil, List.append_nil, List.map_map]
    refine List.map_congr_left fun j hj => ?_
    have hj := List.mem_range.1 hj
    simp only [Function.comp_apply]
    rw [Nat.mul_comm m q, Nat.mul_add_div hq, Nat.div_eq_of_lt hj, Nat.add_zero, Nat.mul_add_mod, Nat.mod_eq_of_lt hj]
theorem all_root (p : Pg) (L : List Ch) : allW p L 1 = (List.range (cl p.r 4).toNat).map fun i : Nat => atP L ⟨1, (i : Int), 0⟩ := by
  unfold allW
  rw [show (1 : Int) = ((1 : Nat) : Int) from rfl, kind_places p 1 (by omega)]
  unfold kindI rowI
  rw [show spanP ((1 : Nat) : Int) p = ⟨0, cl p.r 4, 1⟩ from rfl]
  simp only [Int.toNat_one]
  rw [rows_one (fun i j => (⟨((1 : Nat) : Int), 0 + (i : Int), (j : Int)⟩ : Pl)) 1 (by omega)]
  simp [List.map_map, Nat.mod_one]
theorem all_one (p : Pg) (L : List Ch) (k : Nat) (hk : k = 7 ∨ k = 8) : allW p L (k : Int) = (List.range (cl (p.n : Int) 4).toNat).map fun i : Nat => atP L ⟨(k : Int), (i : Int), 0⟩ := by
  unfold allW
  rw [kind_places p k (by omega)]
  unfold kindI rowI
  have e : spanP (k : Int) p = ⟨0, cl (p.n : Int) 4, 1⟩ := by rcases hk with rfl | rfl <;> rfl
  rw [e]
  simp only [Int.toNat_one]
  rw [rows_one (fun i j => (⟨(k : Int), 0 + (i : Int), (j : Int)⟩ : Pl)) 1 (by omega)]
  simp [List.map_map, Nat.mod_one]
theorem all_slot (p : Pg) (L : List Ch) : allW p L 5 = (List.range ((cl (p.n : Int) 4).toNat * (cl p.s 2).toNat)).map fun i : Nat => atP L ⟨5, ((i / (cl p.s 2).toNat : Nat) : Int), ((i % (cl p.s 2).toNat : Nat) : Int)⟩ := by
  unfold allW
  rw [show (5 : Int) = ((5 : Nat) : Int) from rfl, kind_places p 5 (by omega)]
  unfold kindI rowI
  rw [show spanP ((5 : Nat) : Int) p = ⟨0, cl (p.n : Int) 4, cl p.s 2⟩ from rfl]
  simp only
  by_cases hq : 0 < (cl p.s 2).toNat
  · rw [rows_one (fun i j => (⟨((5 : Nat) : Int), 0 + (i : Int), (j : Int)⟩ : Pl)) _ hq]
    simp [List.map_map]
  · obtain hq : (cl p.s 2).toNat = 0 := by omega
    simp [hq]
theorem there_epoch (p : Pg) : thereP p ⟨6, 0, 0⟩ = true := by rfl
theorem places_few (p : Pg) : (placesM p).length ≤ 100 := by
  have h1 : (placesM p).length ≤ (allP p).length := List.length_filter_le _ _
  have h2 := allP_many p
  unfold manyP at h2
  have a1 := cl_of p.r 4 (by omega)
  have a2 := cl_of p.c 6 (by omega)
  have a3 := cl_of (p.n : Int) 4 (by omega)
  have a4 := cl_of p.s 2 (by omega)
  generalize cl p.r 4 = x1 at *
  generalize cl p.c 6 = x2 at *
  generalize cl (p.n : Int) 4 = x3 at *
  generalize cl p.s 2 = x4 at *
  have : x3 * x4 ≤ 4 * 2 := by
    refine Int.le_trans (Int.mul_le_mul_of_nonneg_right a3.2 a4.1) (Int.mul_le_mul_of_nonneg_left a4.2 (by omega))
  omega
end Go.Proofs.Ytlajjadpcaobiaa
