/- A number comes last under a key. Conditions: none. -/
import Derived.Test.YtfgoflflkfmhaaaAsk
import Derived.Deep.AppendLies
namespace Go.Proofs.Ytfgoflflkfmhaaa
open Go.RowKit Go.Maps Go.ChangeShapes

/-- Nothing has turned but the map M and rows of numbers behind it. -/
structure Turn (w w' : World) (M : Nat) : Prop where
  os : w'.os = w.os
  tape : w'.tape = w.tape
  output : w'.output = w.output
  size : w.heap.size ≤ w'.heap.size
  block : ∀ k, k < w.heap.size → (k < M ∨ (k ≠ M ∧ ∀ cs, w.heap[k]? ≠ some (.cells cs 3 (0, 0)))) → w'.heap[k]? = w.heap[k]?

theorem turn_grown {w w' : World} {M : Nat} {v : Value} {zs : List Int} (ho : w.ownsInts (M + 1) 3 .i64 v zs) (hg : w.grownBy w' v.ownBlock) : Turn w w' M := by
  refine ⟨hg.os, hg.tape, hg.output, hg.size, fun k hk hc => hg.block k hk (fun e => ?_)⟩
  rcases ho.1.2 with ⟨hv, _⟩ | ⟨g, cap, cur, hv, hb, hc3, _⟩
  · rw [hv] at e
    cases e
  · rw [hv] at e
    injection e with e
    subst e
    rcases hc with hc | ⟨_, hc⟩
    · have : M + 1 ≤ k := hb
      omega
    · exact hc _ hc3
theorem turn_map {w w' : World} {M : Nat} (hg : w.grownBy w' (some M)) : Turn w w' M :=
  ⟨hg.os, hg.tape, hg.output, hg.size, fun k hk hc => hg.block k hk (fun e => by injection e with e; rcases hc with hc | ⟨hc, _⟩ <;> omega)⟩
theorem Turn.trans {a b d : World} {M : Nat} (h : Turn a b M) (k : Turn b d M) : Turn a d M :=
  ⟨k.os.trans h.os, k.tape.trans h.tape, k.output.trans h.output, Nat.le_trans h.size k.size, fun i hi hc => by
    have e := h.block i hi hc
    exact (k.block i (Nat.lt_of_lt_of_le hi h.size) (by rw [e]; exact hc)).trans e⟩
theorem turn_below {w w' : World} (M : Nat) (h : Below w.heap.size w w') : Turn w w' M := ⟨h.os, h.tape, h.output, h.size, fun k hk _ => h.block k hk⟩

theorem one_of {α β : Type} {f : α → β} : ∀ {l : List α}, l.Pairwise (fun p q => f p ≠ f q) → ∀ {x y : α}, x ∈ l → y ∈ l → f x = f y → x = y
  | [], _, _, _, hx, _, _ => by simp at hx
  | a :: r, h, x, y, hx, hy, e => by
    obtain ⟨h1, h2⟩ := List.pairwise_cons.1 h
    rcases List.mem_cons.1 hx with rfl | hx' <;> rcases List.mem_cons.1 hy with rfl | hy'
    · rfl
    · exact absurd e (h1 y hy')
    · exact absurd e.symm (h1 x hx')
    · exact one_of h2 hx' hy' e

/-- A look-up hangs on the map's block alone. -/
theorem look_same {w w' : World} {base b n : Nat} {D : DataW Unit} {h : Int} {v : Value} (hg : w.ownsGroups Try.prog 27 base 3 .i64 b n D) (hb' : w'.heap[b]? = w.heap[b]?) (hh : (Lit.int .u64 h).wf = true)
    (hrun : (Instr.lookup 42 (.map (some b)) (.int .u64 h) false).run Try.prog w = .ok v w) : (Instr.lookup 42 (.map (some b)) (.int .u64 h) false).run Try.prog w' = .ok v w' := by
  obtain ⟨es, clock, hb, F, _⟩ := hg
  have hk := keyOf_int_mk Try.underlying27 hh
  rcases Maps.fit_look false law27 Try.underlying42 (zero57 w) hb F hk with ⟨h1, h2, _⟩ | ⟨e0, _, m0, k0, h1, _⟩ <;>
    rcases Maps.fit_look false law27 Try.underlying42 (zero57 w') (hb'.trans hb) F hk with ⟨h1', h2', _⟩ | ⟨e0', _, m0', k0', h1', _⟩
  · rw [hrun] at h1
    injection h1 with h1
    rw [h1', h1]
  · exact absurd k0' (h2 _ m0')
  · exact absurd k0 (h2' _ m0)
  · have e : e0 = e0' := one_of (f := MapEntry.key) ((Go.MapKept.stamped_iff es clock).1 F.stamped).2.2 m0 m0' (k0.trans k0'.symm)
    rw [hrun] at h1
    injection h1 with h1
    rw [h1', h1, e]

set_option maxRecDepth 100000 in
set_option maxHeartbeats 2000000 in
theorem add_any (M n : Nat) (D : DataW Unit) (h z : Int) (w : World) (hg : w.ownsGroups Try.prog 27 (M + 1) 3 .i64 M n D) (hn : n ≤ 4096) (hh : (Lit.int .u64 h).wf = true) (hz : (Lit.int .i64 z).wf = true) :
    Calls Try.prog 20 #[.agg #[.map (some M)], .int .u64 h, .int .i64 z] w fun e w' => e = .returned (.tuple #[]) ∧ Turn w w' M ∧ ∃ v zs v', D.atKey (.int .u64 h) .nil = rowDatum .i64 v zs ∧ w.ownsInts (M + 1) 3 .i64 v zs ∧
      w'.ownsGroups Try.prog 27 (M + 1) 3 .i64 M (n + 1) (D.put (.int .u64 h) (rowDatum .i64 v' (zs ++ [z]))) ∧ rowDatum (H := Unit) .i64 v' (zs ++ [z]) = .slice (lits .i64 (zs ++ [z])) [] := by
  obtain ⟨i0, hi, hz0, hz1, hz2⟩ := info_parts info3
  have b1 : Below w.heap.size w (w.alloc (.cells #[.map (some M)] 44)) := (Below.refl _ w).alloc (Nat.le_refl _) _
  have hM : M < w.heap.size := by
    obtain ⟨es, clock, hb, _⟩ := hg
    exact (Array.getElem?_eq_some_iff.1 hb).1
  obtain ⟨v, zs, hrun, hat, ho, hzl, _⟩ := hg.at law27 Try.underlying42 (zero57 _) (by unfold maxLen; omega) (keyOf_int_mk Try.underlying27 hh)
  have hg1 := hg.kept (grown_below b1 none) (by simp) (groups_off hg (by simp))
  have hrun1 := look_same (w' := (w.alloc (.cells #[.map (some M)] 44)).drew) hg (b1.drew.block M hM) hh hrun
  have ho1 : (w.alloc (.cells #[.map (some M)] 44)).ownsInts (M + 1) 3 .i64 v zs := ho.kept (grown_below b1 none) (by cases v.ownBlock <;> simp)
  have b2 := b1.alloc (by simp) (.cells #[.int .i64 z] 3)
  have hrun2 := look_same (w' := ((w.alloc (.cells #[.map (some M)] 44)).alloc (.cells #[.int .i64 z] 3)).drew) hg (b2.drew.block M hM) hh hrun
  have hback : (w.alloc (.cells #[.map (some M)] 44)).groupBack (H := Unit) Try.prog 42 27 (M + 1) 3 .i64 M n D (.int .u64 h) (.int .u64 h) v := by
    obtain ⟨v2, zs2, hr2, _, _, _, hback⟩ := hg1.at law27 Try.underlying42 (zero57 _) (by unfold maxLen; omega) (keyOf_int_mk Try.underlying27 hh)
    have hr3 := look_same hg (b1.block M hM) hh hrun
    rw [hr3] at hr2
    injection hr2 with hr2
    rw [hr2]
    exact hback
  have hnew : ((w.alloc (.cells #[.map (some M)] 44)).alloc (.cells #[.int .i64 z] 3)).drew.heap[w.heap.size + 1]? = some (.cells #[.int .i64 z] 3) := by
    have := heap_alloc_new (w.alloc (.cells #[.map (some M)] 44)) (.cells #[.int .i64 z] 3)
    rw [World.size_alloc] at this
    exact this
  have hvb : some w.heap.size ≠ v.ownBlock := fun e => by have := (ho.1.lt _ e.symm).2; omega
  have hmb : some w.heap.size ≠ some M := fun e => by injection e with e; omega
  have g12 := (World.grownBy_alloc (w.alloc (.cells #[.map (some M)] 44)) (.cells #[.int .i64 z] 3) v.ownBlock).trans (grown_below (Below.refl _ _).drew v.ownBlock)
  have hl1 : (zs ++ [z]).length ≤ n + 1 := by simp; omega
  have hloc : ∀ gg k cap, v.ownBlock = some gg ∨ gg = w.heap.size + 1 + 1 → (Value.slice (some ⟨gg, 0, none⟩) k cap).ownBlock = v.ownBlock ∨ ∃ g, (Value.slice (some ⟨gg, 0, none⟩) k cap).ownBlock = some g ∧ (w.alloc (.cells #[.map (some M)] 44)).heap.size ≤ g := by
    intro gg k cap h1
    rcases h1 with h1 | h1
    · exact .inl h1.symm
    · exact .inr ⟨gg, rfl, by simp; omega⟩
  go_enter Try.func20, Try.ntmps20
  go_wp2_with fail
  go_region_held3 (fun w' => w'.cell? ⟨w.heap.size, 0, none⟩ = some (.map (some M)))
    (first
      | (rw [hgr2.cell_far _ (by have := hgrow.size; simp at this ⊢; omega) hmb, hgrow.cell_far _ (by simp; omega) hvb]; simp)
      | (rw [hgrow.cell_far _ (by simp; omega) hvb]; simp)
      | (go_keep))
    ((refine step_append_lies _ (by rfl) _ _ _ (by rfl) (M + 1) 3 i0 _ 1 8 Try.underlying57 hi hz0 hz1 hz2 rfl (by omega) v zs.length (zs.map (Value.int .i64)) (by rfl) ((ho1.1.alloc _).drew)
        ⟨w.heap.size + 1, 0, none⟩ 1 1 [.int .i64 z] (by rfl) (by rfl) (World.news_of_block (cs := #[.int .i64 z]) (t := 3) (fr := (0, 0)) hnew) (by simp [Value.oneCell'])
        (by omega) (by unfold maxLen; omega) (by omega) (by simp; omega) (w.heap.size + 1 + 1) (by simp) ?_; intro gg cap w1 hown1 hgrow hat1 hlt
      obtain ⟨w2, hmu, hown2, hgr2⟩ := hback w1 _ (zs ++ [z]) (g12.trans hgrow) (ho1.appended hown1 hz) hl1 (hloc gg _ cap hat1)))
  all_goals go_end0
  all_goals exact ⟨rfl, (turn_grown ho ((grown_below b1 _).trans (g12.trans hgrow))).trans (turn_map hgr2), v, zs, _, hat, ho, hown2, rfl⟩
end Go.Proofs.Ytfgoflflkfmhaaa
