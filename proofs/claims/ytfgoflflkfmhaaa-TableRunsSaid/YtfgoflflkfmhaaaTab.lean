/- A table in memory: what holds of it, and what leaves it as it is. Conditions: none. -/
import Derived.Test.YtfgoflflkfmhaaaClone
namespace Go.Proofs.Ytfgoflflkfmhaaa
open Go.RowKit Go.Maps Go.ChangeShapes
open Go.WideElems (rd_val)

/-- The cells of texts under sums. -/
def flat (ws : List Txt) : List Value := ws.flatMap fun x => [.int .u64 x.1, .string x.2]
theorem flat_snoc (ws : List Txt) (x : Txt) : flat (ws ++ [x]) = flat ws ++ [.int .u64 x.1, .string x.2] := by simp [flat]
theorem flat_len : ∀ ws : List Txt, (flat ws).length = ws.length * 2
  | [] => rfl
  | x :: r => by
    have := flat_len r
    simp only [flat, List.flatMap_cons, List.length_append, List.length_cons, List.length_nil] at this ⊢
    omega
theorem flat_get : ∀ (ws : List Txt) (j : Nat) (x : Txt), ws[j]? = some x → (flat ws)[j * 2]? = some (.int .u64 x.1) ∧ (flat ws)[j * 2 + 1]? = some (.string x.2)
  | [], _, _, h => by simp at h
  | y :: r, 0, x, h => by
    simp at h
    subst h
    simp [flat]
  | y :: r, j + 1, x, h => by
    have e1 : (j + 1) * 2 = j * 2 + 1 + 1 := by omega
    have e2 : flat (y :: r) = .int .u64 y.1 :: .string y.2 :: flat r := by simp [flat]
    rw [e1, e2]
    exact flat_get r j x (by simpa using h)

/-- How the list under a key reads. -/
def listD (zs : List Int) : DataW Unit := if zs = [] then .nil else .slice (lits .i64 zs) []
/-- What a text may be: its sum fits, it is no longer than what fits in memory. -/
def Fits (x : Txt) : Prop := (Lit.int .u64 x.1).wf = true ∧ x.2.size ≤ 140737488355328

/-- The table at block T: its two parts in block K, the texts behind tv, the numbers in the map M, which reads as D; the texts are ws, under c different sums. All of it lies from block B on. -/
structure Tab (w : World) (B T K M : Nat) (tv : Value) (D : DataW Unit) (ws : List Txt) (c : Nat) : Prop where
  box : w.heap[T]? = some (.cells #[.pointer (some ⟨K, 0, none⟩)] 38 (0, 0))
  kept : w.heap[K]? = some (.cells #[tv, .map (some M)] 48 (0, 0))
  texts : w.ownsRow B 52 2 tv ws.length (flat ws)
  groups : w.ownsGroups Try.prog 27 (M + 1) 3 .i64 M ws.length D
  reads : ∀ h : Int, (Lit.int .u64 h).wf = true → D.atKey (.int .u64 h) .nil = listD (nums h ws)
  has : ∀ h : Int, (Lit.int .u64 h).wf = true → Maps.has D (.int .u64 h) = isUnder h ws
  tidy : Tidy D
  keys : Maps.size D = c
  le : c ≤ ws.length
  most : ws.length ≤ 4096
  fits : ∀ x ∈ ws, Fits x
  lowT : B ≤ T
  lowK : B ≤ K
  lowM : B ≤ M

section
variable {w w' : World} {B T K M c : Nat} {tv : Value} {D : DataW Unit} {ws : List Txt}

theorem groups_off {P : Program} {k : TypeId} {base b n : Nat} {row : Option Nat} (h : w.ownsGroups P k base 3 .i64 b n D) (hr : ∀ r, row = some r → ∀ cs, w.heap[r]? ≠ some (.cells cs 3 (0, 0))) :
    ∀ es clock, w.heap[b]? = some (.map es clock) → ∀ x ∈ es.toList, x.val.ownBlock = none ∨ x.val.ownBlock ≠ row := fun es clock hb x hx => by
  obtain ⟨es', clock', hb', F, _⟩ := h
  obtain ⟨rfl, rfl⟩ : es' = es ∧ clock' = clock := by rw [hb'] at hb; simpa using hb
  cases hx' : x.val.ownBlock with
  | none => exact Or.inl rfl
  | some g =>
    refine Or.inr (fun e1 => ?_)
    obtain ⟨y, hy⟩ := F.reads x hx
    obtain ⟨z, hz, _⟩ := rd_val hy
    obtain ⟨zs, ho, _⟩ := rowElem_inv hz
    rcases ho.1.2 with ⟨hv, _⟩ | ⟨g', cap, cur, hv, _, hg, _⟩
    · rw [hv] at hx'
      cases hx'
    · rw [hv] at hx'
      injection hx' with hx'
      subst hx'
      exact hr _ e1.symm cur hg

theorem row_off {w : World} {B e size n : Nat} {v : Value} {xs : List Value} {row : Option Nat} (h : w.ownsRow B e size v n xs) (hr : ∀ r, row = some r → ∀ cs, w.heap[r]? ≠ some (.cells cs e (0, 0))) : v.ownBlock = none ∨ v.ownBlock ≠ row := by
  rcases h.2 with ⟨rfl, _⟩ | ⟨g, cap, cur, rfl, _, hg, _⟩
  · exact .inl rfl
  · exact .inr (fun e1 => hr g e1.symm cur hg)

theorem Tab.ltT (h : Tab w B T K M tv D ws c) : T < w.heap.size := (Array.getElem?_eq_some_iff.1 h.box).1
theorem Tab.ltK (h : Tab w B T K M tv D ws c) : K < w.heap.size := (Array.getElem?_eq_some_iff.1 h.kept).1
theorem Tab.map (h : Tab w B T K M tv D ws c) : ∃ es clock, w.heap[M]? = some (.map es clock) := by
  obtain ⟨es, clock, hb, _⟩ := h.groups
  exact ⟨es, clock, hb⟩
theorem Tab.ltM (h : Tab w B T K M tv D ws c) : M < w.heap.size := by
  obtain ⟨es, clock, hb⟩ := h.map
  exact (Array.getElem?_eq_some_iff.1 hb).1

/-- What turns nothing but new blocks, and one that holds Rows, leaves the table as it is. -/
theorem Tab.stays {row : Option Nat} (h : Tab w B T K M tv D ws c) (hg : w.grownBy w' row) (hr : ∀ r, row = some r → ∃ cs, w.heap[r]? = some (.cells cs 29 (0, 0))) : Tab w' B T K M tv D ws c := by
  have off : ∀ (t : TypeId), t ≠ 29 → ∀ r, row = some r → ∀ cs, w.heap[r]? ≠ some (.cells cs t (0, 0)) := fun t ht r e cs hc => by
    obtain ⟨cs', h'⟩ := hr r e
    rw [h'] at hc
    injection hc with hc
    injection hc with _ hc _
    exact ht hc.symm
  have nT : some T ≠ row := fun e => off 38 (by decide) T e.symm _ h.box
  have nK : some K ≠ row := fun e => off 48 (by decide) K e.symm _ h.kept
  have nM : some M ≠ row := fun e => by
    obtain ⟨cs', h'⟩ := hr M e.symm
    obtain ⟨es, clock, hm⟩ := h.map
    rw [h'] at hm
    cases hm
  exact ⟨(hg.block T h.ltT nT).trans h.box, (hg.block K h.ltK nK).trans h.kept, h.texts.kept hg (row_off h.texts (off 52 (by decide))), h.groups.kept hg nM (groups_off h.groups (off 3 (by decide))),
    h.reads, h.has, h.tidy, h.keys, h.le, h.most, h.fits, h.lowT, h.lowK, h.lowM⟩
theorem Tab.below (h : Tab w B T K M tv D ws c) (hb : Below w.heap.size w w') : Tab w' B T K M tv D ws c := h.stays (grown_below hb none) (by simp)
theorem Tab.cellT (h : Tab w B T K M tv D ws c) : w.cell? ⟨T, 0, none⟩ = some (.pointer (some ⟨K, 0, none⟩)) := by simp [World.cell?, h.box]
theorem Tab.cellK (h : Tab w B T K M tv D ws c) : w.cell? ⟨K, 0, none⟩ = some tv ∧ w.cell? ⟨K, 1, none⟩ = some (.map (some M)) := by simp [World.cell?, h.kept]
/-- The texts: nil, or a row of two cells each. -/
theorem Tab.slice (h : Tab w B T K M tv D ws c) : ∃ A cap, tv = .slice A ws.length cap ∧ (∀ j x, ws[j]? = some x → ∃ g, A = some ⟨g, 0, none⟩ ∧ g < w.heap.size ∧ w.cell? ⟨g, j * 2, none⟩ = some (.int .u64 x.1) ∧ w.cell? ⟨g, j * 2 + 1, none⟩ = some (.string x.2)) := by
  have ho := h.texts
  rcases h.texts.2 with ⟨hv, h0⟩ | ⟨g, cap, cur, hv, hb, hg, _⟩
  · refine ⟨none, 0, by rw [hv, h0], fun j x hx => ?_⟩
    rw [List.length_eq_zero_iff.1 h0] at hx
    simp at hx
  · refine ⟨_, cap, hv, fun j x hx => ⟨g, rfl, (Array.getElem?_eq_some_iff.1 hg).1, ?_⟩⟩
    rw [hv] at ho
    have hj := (List.getElem?_eq_some_iff.1 hx).1
    obtain ⟨f0, f1⟩ := flat_get ws j x hx
    exact ⟨by rw [ho.cellAt (j * 2) (by omega)]; exact f0, by rw [ho.cellAt (j * 2 + 1) (by omega)]; exact f1⟩
end

/-- nil, or a table that New did not make. -/
def Nob (w : World) (v : Value) : Prop := v = .pointer none ∨ ∃ p, v = .pointer (some ⟨p, 0, none⟩) ∧ w.cell? ⟨p, 0, none⟩ = some (.pointer none)
theorem Nob.below {w w' : World} {v : Value} (h : Nob w v) (hb : Below w.heap.size w w') : Nob w' v := by
  rcases h with h | ⟨p, h1, h2⟩
  · exact .inl h
  · exact .inr ⟨p, h1, (hb.cell (World.block_lt_of_cell? _ _ h2)).trans h2⟩

/-! ### the parts of a table -/
theorem all_tab {B T K M c : Nat} {tv : Value} {D : DataW Unit} {ws : List Txt} (w : World) (h : Tab w B T K M tv D ws c) :
    Calls Try.prog 16 #[.pointer (some ⟨T, 0, none⟩)] w fun e w' => e = .returned (.pointer (some ⟨K, 0, none⟩)) ∧ w = w' := by
  have c0 := h.cellT
  go_enter Try.func16, Try.ntmps16
  go_wp2
  go_ret
  exact ⟨rfl, rfl⟩
/-- What stands in no table: two cells, of nothing. -/
def Bare (w : World) (k : Nat) : Prop := w.heap[k]? = some (.cells #[.slice none 0 0, .map none] 48 (0, 0))
theorem all_nob (v : Value) (w : World) (h : Nob w v) :
    Calls Try.prog 16 #[v] w fun e w' => ∃ k, e = .returned (.pointer (some ⟨k, 0, none⟩)) ∧ Bare w' k ∧ Below w.heap.size w w' := by
  rcases h with rfl | ⟨p, rfl, hp⟩
  · go_enter Try.func16, Try.ntmps16
    go_wp2
    go_ret
    exact ⟨_, rfl, heap_alloc_new w _, (Below.refl _ w).alloc (Nat.le_refl _) _⟩
  · go_enter Try.func16, Try.ntmps16
    go_wp2
    go_ret
    exact ⟨_, rfl, heap_alloc_new w _, (Below.refl _ w).alloc (Nat.le_refl _) _⟩

set_option maxRecDepth 100000 in
theorem lists_new (w : World) : Calls Try.prog 15 #[] w fun e w' => ∃ w0 : World, Below w.heap.size w w0 ∧ e = .returned (.agg #[.map (some w0.heap.size)]) ∧ w' = w0.alloc (.map #[] 0) := by
  have hmm := @run_makeMap Try.prog
  go_enter Try.func15, Try.ntmps15
  go_wp2
  refine bodyPost_ret (results_cell_row (cs := #[.map (some (w.heap.size + 1))]) rfl _ _ w.heap.size 44 (0, 0) _ rfl ?_ Try.underlying44 rfl (by kernel_rfl)) rfl ?_
  · rw [Below.heap_alloc _ _ _ (by simp)]
    exact heap_alloc_new w _
  · exact ⟨_, (Below.refl _ w).alloc (Nat.le_refl _) _, by simp, rfl⟩

theorem new_any (w : World) : Calls Try.prog 6 #[] w fun e w' => ∃ T K M tv D, e = .returned (.pointer (some ⟨T, 0, none⟩)) ∧ Tab w' w.heap.size T K M tv D [] 0 ∧ Below w.heap.size w w' := by
  go_enter Try.func6, Try.ntmps6
  go_wp2_with fail
  refine (lists_new w).mono ?_
  rintro e w1 ⟨w0, hb0, rfl, rfl⟩
  have hs := hb0.size
  go_wp2
  go_ret
  have g0 := World.ownsGroups_made (H := Unit) w0 Try.prog 27 3 .i64
  have b1 := (Below.refl (w0.alloc (.map #[] 0)).heap.size (w0.alloc (.map #[] 0))).alloc (Nat.le_refl _) (.cells #[.slice none 0 0, .map (some w0.heap.size)] 48)
  have b2 := b1.alloc (by simp) (.cells #[.pointer (some ⟨w0.heap.size + 1, 0, none⟩)] 38)
  have g2 := g0.kept (grown_below b2 none) (by simp) (groups_off g0 (by simp))
  refine ⟨_, w0.heap.size + 1, w0.heap.size, .slice none 0 0, .map [], rfl, ⟨?_, ?_, World.ownsRow_nil _ _ _ _, g2, fun h _ => rfl, fun h _ => rfl, tidy_empty, rfl, Nat.le_refl _, by simp, by simp, ?_, by omega, hs⟩, ?_⟩
  · simpa using heap_alloc_new ((w0.alloc (.map #[] 0)).alloc (.cells #[.slice none 0 0, .map (some w0.heap.size)] 48)) _
  · rw [Below.heap_alloc _ _ _ (by simp)]
    simpa using heap_alloc_new (w0.alloc (.map #[] 0)) _
  · omega
  · exact hb0.trans ((((Below.refl _ w0).alloc hs (.map #[] 0)).alloc (by simp; omega) _).alloc (by simp; omega) _)

theorem neq_map (r : Option Nat) (w : World) : (binOp .neq 42 (.map r) (.map none)).run Try.prog w = .ok (.bool (!r.isNone)) w := run_neq_map_nil w 42 27 57 r Try.underlying42
/-- '!= nil' of a map that was made, and of none. -/
theorem made_some (M : Nat) (w : World) : Calls Try.prog 18 #[.agg #[.map (some M)]] w fun e w' => e = .returned (.bool true) ∧ Below w.heap.size w w' := by
  have hn := neq_map (some M)
  simp only [Option.isNone_some, Bool.not_false] at hn
  go_enter Try.func18, Try.ntmps18
  go_wp2
  go_ret
  exact ⟨rfl, (Below.refl _ w).alloc (Nat.le_refl _) _⟩
theorem made_none (w : World) : Calls Try.prog 18 #[.agg #[.map none]] w fun e w' => e = .returned (.bool false) ∧ Below w.heap.size w w' := by
  have hn := neq_map none
  simp only [Option.isNone_none, Bool.not_true] at hn
  go_enter Try.func18, Try.ntmps18
  go_wp2
  go_ret
  exact ⟨rfl, (Below.refl _ w).alloc (Nat.le_refl _) _⟩

theorem len_groups {w : World} {base b n : Nat} {D : DataW Unit} (h : w.ownsGroups Try.prog 27 base 3 .i64 b n D) (ty : TypeId) : (Builtin.len_ #[42] ty #[.map (some b)]).run Try.prog w = .ok (.int .i64 (Maps.size D)) w := by
  obtain ⟨es, clock, hb, _, _, rfl, _⟩ := h
  rw [Maps.size_eq, length_read]
  have ht : Try.prog.underlying 42 = some (.map 27 57) := Try.underlying42
  simp [Builtin.len_, run_underlying ht, MapKept.run_getObj_map hb, goInt, Result.andThen]
end Go.Proofs.Ytfgoflflkfmhaaa
