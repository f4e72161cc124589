/- A table behind a text that came: what holds in memory. Conditions: none. -/
import Derived.Test.YtfgoflflkfmhaaaAdd
namespace Go.Proofs.Ytfgoflflkfmhaaa
open Go.RowKit Go.Maps Go.ChangeShapes

/-- What a call on a table may turn: nothing below B, no row of Rows. -/
structure Turned (w w' : World) (B : Nat) : Prop where
  below : Below B w w'
  rows : ∀ (k : Nat) (cs : Array Value), w.heap[k]? = some (.cells cs 29 (0, 0)) → w'.heap[k]? = some (.cells cs 29 (0, 0))
theorem turned_below {w w' : World} {B : Nat} (h : Below w.heap.size w w') (hB : B ≤ w.heap.size) : Turned w w' B :=
  ⟨h.mono hB, fun k _ hk => (h.block k (Array.getElem?_eq_some_iff.1 hk).1).trans hk⟩
theorem Turned.trans {a b d : World} {B : Nat} (h : Turned a b B) (k : Turned b d B) : Turned a d B :=
  ⟨h.below.trans k.below, fun i cs hi => k.rows i cs (h.rows i cs hi)⟩

theorem row_kind {w : World} {B e size n : Nat} {v : Value} {xs : List Value} (h : w.ownsRow B e size v n xs) : ∀ r, v.ownBlock = some r → B ≤ r ∧ ∃ cs, w.heap[r]? = some (.cells cs e (0, 0)) := fun r hr => by
  rcases h.2 with ⟨rfl, _⟩ | ⟨g, cap, cur, rfl, hb, hg, _⟩
  · cases hr
  · injection hr with hr
    subst hr
    exact ⟨hb, cur, hg⟩
theorem grown_cell (w : World) (a : Addr) (u : Value) : w.grownBy (w.setCell a u) (some a.block) :=
  ⟨rfl, rfl, rfl, by simp [World.setCell], fun k _ hk => Below.heap_setCell _ _ _ _ (fun e => hk (by rw [e]))⟩
theorem free_row {w : World} {b : Nat} {cs : Array Value} {t : TypeId} (h : w.heap[b]? = some (.cells cs t (0, 0))) (j : Nat) : w.frozen? ⟨b, j, none⟩ = false := by
  simp [World.frozen?, h]
theorem kind_ne {w : World} {b : Nat} {cs cs' : Array Value} {t t' : TypeId} (h : w.heap[b]? = some (.cells cs t (0, 0))) (ht : t ≠ t') : w.heap[b]? ≠ some (.cells cs' t' (0, 0)) := fun h' => by
  rw [h] at h'
  injection h' with h'
  injection h' with _ h' _
  exact ht h'

/-- How many sums there are, if h comes: one more, if none stands under it. -/
def sumsN (h : Int) (ws : List Txt) (c : Nat) : Nat := if isUnder h ws then c else c + 1

section
variable {w w4 w6 : World} {B T K M c : Nat} {tv tv' : Value} {D : DataW Unit} {ws : List Txt} {h : Int} {s : ByteArray}

theorem nums_put (h h' : Int) (s : ByteArray) (ws : List Txt) : nums h' (ws ++ [(h, s)]) = if h = h' then nums h ws ++ [(ws.length : Int)] else nums h' ws := by
  rw [nums_snoc]
  by_cases e : h = h'
  · simp [e]
  · simp [e]

/-- Before the number comes under its sum. -/
theorem came_cell (hT : Tab w B T K M tv D ws c) (g : w.grownBy w4 tv.ownBlock) :
    w4.heap[T]? = some (.cells #[.pointer (some ⟨K, 0, none⟩)] 38 (0, 0)) ∧ w4.heap[K]? = some (.cells #[tv, .map (some M)] 48 (0, 0)) ∧ w4.ownsGroups Try.prog 27 (M + 1) 3 .i64 M ws.length D := by
  have hk := row_kind hT.texts
  have off : ∀ b cs t, w.heap[b]? = some (.cells cs t (0, 0)) → t ≠ 52 → some b ≠ tv.ownBlock := fun b cs t hb ht e => by
    obtain ⟨_, cs', h'⟩ := hk b e.symm
    exact kind_ne hb ht h'
  refine ⟨(g.block T hT.ltT (off _ _ _ hT.box (by decide))).trans hT.box, (g.block K hT.ltK (off _ _ _ hT.kept (by decide))).trans hT.kept, hT.groups.kept g ?_ (groups_off hT.groups fun r hr cs => ?_)⟩
  · intro e
    obtain ⟨_, cs', h'⟩ := hk M e.symm
    obtain ⟨es, clock, hm⟩ := hT.map
    rw [hm] at h'
    cases h'
  · obtain ⟨_, cs', h'⟩ := hk r hr
    exact kind_ne h' (by decide)
theorem came_groups (hT : Tab w B T K M tv D ws c) (g : w.grownBy w4 tv.ownBlock) :
    (w4.setCell ⟨K, 0, none⟩ tv').heap[K]? = some (.cells #[tv', .map (some M)] 48 (0, 0)) ∧ (w4.setCell ⟨K, 0, none⟩ tv').ownsGroups Try.prog 27 (M + 1) 3 .i64 M ws.length D := by
  obtain ⟨_, hK, hg⟩ := came_cell hT g
  refine ⟨by simpa using heap_setCell_same w4 K 0 _ 48 tv' hK, hg.kept (grown_cell w4 ⟨K, 0, none⟩ tv') ?_ (groups_off hg fun r hr cs => ?_)⟩
  · intro e
    injection e with e
    obtain ⟨es, clock, hm, _⟩ := hg
    rw [e] at hm
    rw [hK] at hm
    cases hm
  · injection hr with hr
    subst hr
    exact kind_ne hK (by decide)
/-- Behind it. -/
theorem came_tab {v v' : Value} {zs : List Int} (hT : Tab w B T K M tv D ws c) (g : w.grownBy w4 tv.ownBlock) (hown : w4.ownsRow B 52 2 tv' (ws.length + 1) (flat ws ++ [.int .u64 h, .string s])) (hx : Fits (h, s)) (hl : ws.length < 4096)
    (ht : Turn (w4.setCell ⟨K, 0, none⟩ tv') w6 M) (hat : D.atKey (.int .u64 h) .nil = rowDatum .i64 v zs) (ho : (w4.setCell ⟨K, 0, none⟩ tv').ownsInts (M + 1) 3 .i64 v zs)
    (hg6 : w6.ownsGroups Try.prog 27 (M + 1) 3 .i64 M (ws.length + 1) (D.put (.int .u64 h) (rowDatum .i64 v' (zs ++ [(ws.length : Int)]))))
    (hd : rowDatum (H := Unit) .i64 v' (zs ++ [(ws.length : Int)]) = .slice (lits .i64 (zs ++ [(ws.length : Int)])) []) :
    Tab w6 B T K M tv' (D.put (.int .u64 h) (rowDatum .i64 v' (zs ++ [(ws.length : Int)]))) (ws ++ [(h, s)]) (sumsN h ws c) ∧ Turned w w6 B := by
  unfold sumsN
  obtain ⟨hT4, hK4, hg4⟩ := came_cell hT g
  obtain ⟨hK5, hg5⟩ := came_groups (tv' := tv') hT g
  have hTK : T ≠ K := fun e => by
    have h1 := hT.box
    rw [e] at h1
    exact kind_ne h1 (by decide) hT.kept
  have hM5 : ∃ es clock, (w4.setCell ⟨K, 0, none⟩ tv').heap[M]? = some (.map es clock) := by
    obtain ⟨es, clock, hm, _⟩ := hg5
    exact ⟨es, clock, hm⟩
  have neM : ∀ (b : Nat) (cs : Array Value) (t : TypeId), (w4.setCell ⟨K, 0, none⟩ tv').heap[b]? = some (.cells cs t (0, 0)) → b ≠ M := fun b cs t hb e => by
    obtain ⟨es, clock, hm⟩ := hM5
    rw [e, hm] at hb
    cases hb
  have stays : ∀ (b : Nat) (cs : Array Value) (t : TypeId), (w4.setCell ⟨K, 0, none⟩ tv').heap[b]? = some (.cells cs t (0, 0)) → t ≠ 3 → w6.heap[b]? = some (.cells cs t (0, 0)) := fun b cs t hb h3 =>
    (ht.block b (Array.getElem?_eq_some_iff.1 hb).1 (.inr ⟨neM _ _ _ hb, fun cs' => kind_ne hb h3⟩)).trans hb
  have hT5 : (w4.setCell ⟨K, 0, none⟩ tv').heap[T]? = some (.cells #[.pointer (some ⟨K, 0, none⟩)] 38 (0, 0)) := (Below.heap_setCell _ _ _ _ hTK).trans hT4
  have hkey := law27.key (keyOf_int_mk Try.underlying27 hx.1)
  have hlen : (ws ++ [(h, s)]).length = ws.length + 1 := by simp
  have hzs : zs = nums h ws := listD_inj ho (by rw [← hat, hT.reads h hx.1])
  have htexts : w6.ownsRow B 52 2 tv' (ws.length + 1) (flat ws ++ [.int .u64 h, .string s]) := by
    refine ⟨hown.1, ?_⟩
    rcases hown.2 with ⟨h1, h2⟩ | ⟨gg, cap, cur, h1, h2, h3, h4⟩
    · exact .inl ⟨h1, h2⟩
    · have hgK : gg ≠ K := fun e => by
        rw [e] at h3
        exact kind_ne h3 (by decide) hK4
      exact .inr ⟨gg, cap, cur, h1, h2, stays _ _ _ ((Below.heap_setCell _ _ _ _ hgK).trans h3) (by decide), h4⟩
  refine ⟨⟨stays _ _ _ hT5 (by decide), stays _ _ _ hK5 (by decide), by rw [hlen, flat_snoc]; exact htexts, by rw [hlen]; exact hg6, fun k hk => ?_, fun k hk => ?_, hT.tidy.put hkey _, ?_, ?_, by rw [hlen]; omega, ?_, hT.lowT, hT.lowK, hT.lowM⟩, ⟨⟨?_, ?_, ?_, ?_, fun k hk => ?_⟩, fun k cs hk => ?_⟩⟩
  · rw [nums_put]
    by_cases e : h = k
    · subst e
      rw [atKey_put_same hT.tidy.isMap hkey, hd, if_pos rfl, ← hzs]
      simp [listD]
    · rw [atKey_put_other (fun e' => e (by injection e' with _ e'; exact e'.symm)), hT.reads k hk, if_neg e]
  · have hu : isUnder k (ws ++ [(h, s)]) = (isUnder k ws || decide (h = k)) := by simp [isUnder]
    rw [hu]
    by_cases e : h = k
    · subst e
      rw [has_put_same hT.tidy.isMap hkey]
      simp
    · rw [has_put_other (fun e' => e (by injection e' with _ e'; exact e'.symm)), hT.has k hk]
      simp [e]
  · rw [size_put hT.tidy, hT.has h hx.1, hT.keys]
  · have := hT.le
    rw [hlen]
    split <;> omega
  · intro x hx'
    rcases List.mem_append.1 hx' with hx' | hx'
    · exact hT.fits x hx'
    · simp at hx'
      rw [hx']
      exact hx
  · exact ht.os.trans g.os
  · exact ht.tape.trans g.tape
  · exact ht.output.trans g.output
  · have := ht.size
    have := g.size
    simp [World.setCell] at *
    omega
  · have hkw : k < w.heap.size := Nat.lt_of_lt_of_le hk (Nat.le_trans hT.lowT (Nat.le_of_lt hT.ltT))
    have e1 := g.block k hkw (fun e => by have := (row_kind hT.texts k e.symm).1; omega)
    have e2 := Below.heap_setCell w4 ⟨K, 0, none⟩ tv' k (by have := hT.lowK; show k ≠ K; omega)
    refine (ht.block k ?_ (.inl (Nat.lt_of_lt_of_le hk hT.lowM))).trans (e2.trans e1)
    have := g.size
    simp [World.setCell]
    omega
  · have hkw : k < w.heap.size := (Array.getElem?_eq_some_iff.1 hk).1
    have e1 := g.block k hkw (fun e => by obtain ⟨_, cs', h'⟩ := row_kind hT.texts k e.symm; exact kind_ne hk (by decide) h')
    have e2 := Below.heap_setCell w4 ⟨K, 0, none⟩ tv' k (fun (e : k = K) => by rw [e] at hk; exact kind_ne hk (by decide) hT.kept)
    exact stays _ _ _ (e2.trans (e1.trans hk)) (by decide)
end
end Go.Proofs.Ytfgoflflkfmhaaa
