/- A text comes into a table. Conditions: none. -/
import Derived.Test.YtfgoflflkfmhaaaCame
import Derived.Deep.RegionLaw
namespace Go.Proofs.Ytfgoflflkfmhaaa
open Go.RowKit Go.Maps Go.ChangeShapes

section
variable {B T K M c : Nat} {tv : Value} {D : DataW Unit} {ws : List Txt}

set_option maxRecDepth 100000 in
theorem put_old (h : Int) (s : ByteArray) (j : Nat) (w : World) (hT : Tab w B T K M tv D ws c) (hh : (Lit.int .u64 h).wf = true) (hs : spot h s ws = some j) :
    Calls Try.prog 9 #[.pointer (some ⟨T, 0, none⟩), .int .u64 h, .string s] w fun e w' => e = .returned (.tuple #[.int .i64 (j : Int), .bool false]) ∧ Below w.heap.size w w' := by
  have hl := look_tab h s w hT hh
  rw [hs] at hl
  have hA := all_tab w hT
  simp only [numOf, Option.getD_some, Option.isSome_some] at hl
  go_enter Try.func9, Try.ntmps9
  go_wp2_with (first
    | (go_at_call 16; refine hA.mono ?_; rintro e w1 ⟨rfl, rfl⟩)
    | (go_at_call 17; refine hl.mono ?_; rintro e w2 ⟨rfl, hb2⟩))
  go_ret2
  exact ⟨rfl, hb2⟩
set_option maxRecDepth 100000 in
theorem put_nob (v : Value) (h : Int) (s : ByteArray) (w : World) (hN : Nob w v) (hh : (Lit.int .u64 h).wf = true) :
    Calls Try.prog 9 #[v, .int .u64 h, .string s] w fun e w' => e = .returned (.tuple #[.int .i64 0, .bool false]) ∧ Below w.heap.size w w' := by
  go_enter Try.func9, Try.ntmps9
  go_wp2_with fail
  refine (all_nob v w hN).mono ?_
  rintro e w1 ⟨k, rfl, hB, hb1⟩
  have hl := look_bare k h s w1 hB hh
  have h1 : w1.cell? ⟨k, 1, none⟩ = some (.map none) := by unfold Bare at hB; simp [World.cell?, hB]
  go_wp2_with fail
  refine hl.mono ?_
  rintro e w2 ⟨rfl, hb2⟩
  have h2 := (hb2.cell (World.block_lt_of_cell? _ _ h1)).trans h1
  go_wp2_with fail
  refine (made_none w2).mono ?_
  rintro e w3 ⟨rfl, hb3⟩
  go_wp2
  go_ret2
  exact ⟨rfl, (hb1.trans (hb2.mono hb1.size)).trans (hb3.mono (by have := hb1.size; have := hb2.size; omega))⟩

set_option maxRecDepth 100000 in
set_option maxHeartbeats 2000000 in
theorem put_new (h : Int) (s : ByteArray) (w : World) (hT : Tab w B T K M tv D ws c) (hx : Fits (h, s)) (hs : spot h s ws = none) (hl : ws.length < 4096) :
    Calls Try.prog 9 #[.pointer (some ⟨T, 0, none⟩), .int .u64 h, .string s] w fun e w' => e = .returned (.tuple #[.int .i64 (ws.length : Int), .bool true]) ∧ Turned w w' B ∧
      ∃ tv' D', Tab w' B T K M tv' D' (ws ++ [(h, s)]) (sumsN h ws c) := by
  obtain ⟨i0, hi, hz0, hz1, hz2⟩ := info_parts info52
  have hk := look_tab h s w hT hx.1
  rw [hs] at hk
  have hA := all_tab w hT
  simp only [numOf, Option.getD_none, Option.isSome_none] at hk
  go_enter Try.func9, Try.ntmps9
  go_wp2_with fail
  refine hA.mono ?_
  rintro e w' ⟨rfl, rfl⟩
  go_wp2_with fail
  refine hk.mono ?_
  rintro e w1 ⟨rfl, hb1⟩
  have hT1 := hT.below hb1
  have k1 := hT1.cellK.2
  go_wp2_with fail
  refine (made_some M w1).mono ?_
  rintro e w2 ⟨rfl, hb2⟩
  have hT2 := hT1.below hb2
  obtain ⟨A, cap, htv, _⟩ := hT2.slice
  have hb02 := hb1.trans (hb2.mono hb1.size)
  clear hk hA k1 hT1 hb1 hb2
  subst htv
  have k2 := hT2.cellK.1
  have hcl := clone_any s hx.2 w2.drew
  have k2d : w2.drew.cell? ⟨K, 0, none⟩ = some (.slice A ws.length cap) := k2
  obtain ⟨n, hn⟩ : ∃ n, n = ws.length := ⟨_, rfl⟩
  have ht2 := hT2.texts
  rw [← hn] at k2 k2d hl ht2
  have hK2 := hT2.kept
  rw [← hn] at hK2
  have HN := Lib.hid hn
  have hKr : some K ≠ (Value.slice A n cap).ownBlock := by
    rcases row_off (row := some K) ht2 (by intro r e cs hc; injection e with e; subst e; rw [hK2] at hc; injection hc with hc; injection hc with _ hc _; cases hc) with e | e
    · rw [e]
      simp
    · exact e.symm
  have hB2 : B ≤ w2.heap.size := Nat.le_trans hT2.lowT (Nat.le_of_lt hT2.ltT)
  have hkept : ∀ W, Below w2.drew.heap.size w2.drew W → W.ownsRow B 52 2 (.slice A n cap) n (flat ws) ∧ W.cell? ⟨K, 0, none⟩ = some (.slice A n cap) ∧ B ≤ W.heap.size ∧ W.heap[K]? = some (.cells #[.slice A n cap, .map (some M)] 48 (0, 0)) ∧ ∀ o, (W.alloc o).cell? ⟨K, 0, none⟩ = some (.slice A n cap) := fun W hb =>
    ⟨ht2.kept (grown_below ((Below.refl w2.heap.size w2).drew.trans hb) none) (by cases A <;> simp [Value.ownBlock]), (hb.cell (World.block_lt_of_cell? _ _ k2d)).trans k2d, Nat.le_trans hB2 hb.size, (hb.block K hT2.ltK).trans hK2, fun o => ((hb.alloc hb.size o).cell (World.block_lt_of_cell? _ _ k2d)).trans k2d⟩
  clear hn
  go_wp2_with fail
  go_region_law (first
    | (refine step_append_lies _ (by rfl) _ _ _ (by rfl) B 52 i0 _ 2 24 Try.underlying46 hi hz0 hz1 hz2 rfl (by omega) (.slice A n cap) n (flat ws) (by rfl) (ht3.alloc _)
        ⟨w3.heap.size, 0, none⟩ 1 1 [.int .u64 h, .string s] (by rfl) (by rfl) (World.news_of_block (cs := #[.int .u64 h, .string s]) (t := 52) (fr := (0, 0)) (heap_alloc_new w3 _)) (by simp [Value.oneCell'])
        (by omega) (by unfold maxLen; omega) (by omega) (by simp; omega) (w3.heap.size + 1) (by simp) ?_; intro gg cp w4 hown4 hgrow hat hlt
       have hK4 := (hgrow.block K (by have := lt_of_block hK3; simp; omega) hKr).trans ((Below.heap_alloc _ _ _ (lt_of_block hK3)).trans hK3)
       have c4 := cell_of_row _ K 0 _ 48 (0, 0) hK4
       have z4 := free_row hK4)
    | (go_simp; go_at_call 19; refine hcl.mono ?_; rintro e w3 ⟨rfl, hb3⟩; obtain ⟨ht3, k3, hB3, hK3, k3a⟩ := hkept w3 hb3))
  all_goals (
    have hn' := HN.out
    subst hn'
    have b3 := ((Below.refl w2.heap.size w2).drew.trans hb3).alloc hb3.size (.cells #[.int .u64 h, .string s] 52)
    have g4 := (grown_below b3 (Value.slice A ws.length cap).ownBlock).trans hgrow
    obtain ⟨hK5, hG5⟩ := came_groups (tv' := .slice (some ⟨gg, 0, none⟩) (ws.length + 1) cp) hT2 g4
    have c5 := cell_of_row _ K 1 _ 48 (0, 0) hK5
    have hadd := add_any M ws.length D h (ws.length : Int) _ hG5 (by omega) hx.1 (WalkArith.wf_i64 (by omega))
    clear hK5 hG5 b3 hgrow hK4 c4 z4 hK3 k3a k3 ht3 hkept hat hlt
    go_wp2_with fail
    refine hadd.mono ?_
    rintro e w6 ⟨rfl, ht, v, zs, v', hat, ho, hg6, hd⟩
    go_wp2
    go_ret2
    obtain ⟨hTab, hTd⟩ := came_tab hT2 g4 hown4 hx hl ht hat ho hg6 hd
    exact ⟨rfl, (turned_below hb02 (Nat.le_trans hT.lowT (Nat.le_of_lt hT.ltT))).trans hTd, _, _, hTab⟩)
end
end Go.Proofs.Ytfgoflflkfmhaaa
