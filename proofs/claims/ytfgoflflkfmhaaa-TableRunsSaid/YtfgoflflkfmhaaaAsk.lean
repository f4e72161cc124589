/- Find, Len, Clashes and Get of a table, and of nobody's. Conditions: none. -/
import Derived.Test.YtfgoflflkfmhaaaFind
import Derived.Deep.RegionHeld3
namespace Go.Proofs.Ytfgoflflkfmhaaa
open Go.RowKit Go.Maps

set_option maxRecDepth 100000 in
theorem first_bare (h : Int) (f : Value) (w : World) (hh : (Lit.int .u64 h).wf = true) :
    Calls Try.prog 23 #[.agg #[.map none], .int .u64 h, f] w fun e w' => e = .returned (.tuple #[.int .i64 0, .bool false]) ∧ Below w.heap.size w w' := by
  have hlook := Maps.look_nil (w := w.alloc (.cells #[.map none] 44)) false law27 Try.underlying42 (zero57 _) (keyOf_int_mk Try.underlying27 hh)
  simp only [Bool.false_eq_true, if_false] at hlook
  go_enter Try.func23, Try.ntmps23
  go_wp2
  refine wp_loop_rounds 1 ?_
  rw [rounds_succ]
  go_wp2
  go_ret2
  exact ⟨rfl, (Below.refl _ w).alloc (Nat.le_refl _) _⟩

section
variable {B T K M c : Nat} {tv : Value} {D : DataW Unit} {ws : List Txt}

set_option maxRecDepth 100000 in
theorem look_tab (h : Int) (s : ByteArray) (w : World) (hT : Tab w B T K M tv D ws c) (hh : (Lit.int .u64 h).wf = true) :
    Calls Try.prog 17 #[.pointer (some ⟨K, 0, none⟩), .int .u64 h, .string s] w fun e w' => e = .returned (.tuple #[.int .i64 (numOf (spot h s ws)), .bool (spot h s ws).isSome]) ∧ Below w.heap.size w w' := by
  have hm := hmf
  have b1 : Below w.heap.size w (w.alloc (.cells #[.pointer (some ⟨K, 0, none⟩)] 36)) := (Below.refl _ w).alloc (Nat.le_refl _) _
  have b2 := b1.alloc (by simp) (.cells #[.string s] 9)
  have hT2 := hT.below b2
  have hk := hT2.cellK.2
  have f1 : ((w.alloc (.cells #[.pointer (some ⟨K, 0, none⟩)] 36)).alloc (.cells #[.string s] 9)).cell? ⟨w.heap.size, 0, none⟩ = some (.pointer (some ⟨K, 0, none⟩)) := by simp
  have f2 : ((w.alloc (.cells #[.pointer (some ⟨K, 0, none⟩)] 36)).alloc (.cells #[.string s] 9)).cell? ⟨w.heap.size + 1, 0, none⟩ = some (.string s) := by
    have := heap_alloc_new (w.alloc (.cells #[.pointer (some ⟨K, 0, none⟩)] 36)) (.cells #[.string s] 9)
    simp only [World.size_alloc] at this
    exact cell_of_row _ _ 0 _ 9 (0, 0) this
  have hf := first_any h s w.heap.size (w.heap.size + 1) _ hT2 hh f1 f2
  go_enter Try.func17, Try.ntmps17
  go_wp2_with fail
  refine hf.mono ?_
  rintro e w3 ⟨rfl, hb3⟩
  go_wp2
  go_ret2
  exact ⟨rfl, b2.trans (hb3.mono b2.size)⟩
set_option maxRecDepth 100000 in
theorem look_bare (k : Nat) (h : Int) (s : ByteArray) (w : World) (hB : Bare w k) (hh : (Lit.int .u64 h).wf = true) :
    Calls Try.prog 17 #[.pointer (some ⟨k, 0, none⟩), .int .u64 h, .string s] w fun e w' => e = .returned (.tuple #[.int .i64 0, .bool false]) ∧ Below w.heap.size w w' := by
  have hm := hmf
  have b1 : Below w.heap.size w (w.alloc (.cells #[.pointer (some ⟨k, 0, none⟩)] 36)) := (Below.refl _ w).alloc (Nat.le_refl _) _
  have b2 := b1.alloc (by simp) (.cells #[.string s] 9)
  have hk : ((w.alloc (.cells #[.pointer (some ⟨k, 0, none⟩)] 36)).alloc (.cells #[.string s] 9)).cell? ⟨k, 1, none⟩ = some (.map none) := by
    have h0 : w.cell? ⟨k, 1, none⟩ = some (.map none) := by unfold Bare at hB; simp [World.cell?, hB]
    exact (b2.cell (World.block_lt_of_cell? _ _ h0)).trans h0
  go_enter Try.func17, Try.ntmps17
  go_wp2_with fail
  refine (first_bare h _ _ hh).mono ?_
  rintro e w3 ⟨rfl, hb3⟩
  go_wp2
  go_ret2
  exact ⟨rfl, b2.trans (hb3.mono b2.size)⟩

set_option maxRecDepth 100000 in
theorem find_tab (h : Int) (s : ByteArray) (w : World) (hT : Tab w B T K M tv D ws c) (hh : (Lit.int .u64 h).wf = true) :
    Calls Try.prog 8 #[.pointer (some ⟨T, 0, none⟩), .int .u64 h, .string s] w fun e w' => e = .returned (.tuple #[.int .i64 (numOf (spot h s ws)), .bool (spot h s ws).isSome]) ∧ Below w.heap.size w w' := by
  go_enter Try.func8, Try.ntmps8
  go_wp2_with (first
    | (go_at_call 16; refine (all_tab w hT).mono ?_; rintro e w1 ⟨rfl, rfl⟩)
    | (go_at_call 17; refine (look_tab h s w hT hh).mono ?_; rintro e w2 ⟨rfl, hb2⟩))
  go_ret2
  exact ⟨rfl, hb2⟩
set_option maxRecDepth 100000 in
theorem find_nob (v : Value) (h : Int) (s : ByteArray) (w : World) (hN : Nob w v) (hh : (Lit.int .u64 h).wf = true) :
    Calls Try.prog 8 #[v, .int .u64 h, .string s] w fun e w' => e = .returned (.tuple #[.int .i64 0, .bool false]) ∧ Below w.heap.size w w' := by
  go_enter Try.func8, Try.ntmps8
  go_wp2_with (first
    | (go_at_call 16; refine (all_nob v w hN).mono ?_; rintro e w1 ⟨k, rfl, hB, hb1⟩)
    | (go_at_call 17; refine (look_bare k h s w1 hB hh).mono ?_; rintro e w2 ⟨rfl, hb2⟩))
  go_ret2
  exact ⟨rfl, hb1.trans (hb2.mono hb1.size)⟩

/-! ### how many -/
theorem len_tab (w : World) (hT : Tab w B T K M tv D ws c) :
    Calls Try.prog 11 #[.pointer (some ⟨T, 0, none⟩)] w fun e w' => e = .returned (.int .i64 (ws.length : Int)) ∧ w = w' := by
  obtain ⟨A, cap, htv, _⟩ := hT.slice
  have hk := hT.cellK.1
  rw [htv] at hk
  go_enter Try.func11, Try.ntmps11
  go_wp2_with (go_at_call 16; refine (all_tab w hT).mono ?_; rintro e w1 ⟨rfl, rfl⟩)
  go_ret
  exact ⟨rfl, rfl⟩
theorem len_nob (v : Value) (w : World) (hN : Nob w v) :
    Calls Try.prog 11 #[v] w fun e w' => e = .returned (.int .i64 0) ∧ Below w.heap.size w w' := by
  go_enter Try.func11, Try.ntmps11
  go_wp2_with fail
  refine (all_nob v w hN).mono ?_
  rintro e w1 ⟨k, rfl, hB, hb1⟩
  have hk : w1.cell? ⟨k, 0, none⟩ = some (.slice none 0 0) := by unfold Bare at hB; simp [World.cell?, hB]
  go_wp2
  go_ret
  exact ⟨rfl, hb1⟩
theorem keys_any (M : Nat) (m n : Nat) (D : DataW Unit) (w : World) (hg : w.ownsGroups Try.prog 27 m 3 .i64 M n D) :
    Calls Try.prog 21 #[.agg #[.map (some M)]] w fun e w' => e = .returned (.int .i64 (Maps.size D)) ∧ Below w.heap.size w w' := by
  have b1 : Below w.heap.size w (w.alloc (.cells #[.map (some M)] 44)) := (Below.refl _ w).alloc (Nat.le_refl _) _
  have hl := len_groups (hg.kept (grown_below b1 none) (by simp) (groups_off hg (by simp)))
  go_enter Try.func21, Try.ntmps21
  go_wp2
  go_ret
  exact ⟨rfl, b1⟩
theorem keys_none (w : World) :
    Calls Try.prog 21 #[.agg #[.map none]] w fun e w' => e = .returned (.int .i64 0) ∧ Below w.heap.size w w' := by
  have hl := fun W : World => Maps.len_nil (w := W) Try.underlying42
  go_enter Try.func21, Try.ntmps21
  go_wp2
  go_ret
  exact ⟨rfl, (Below.refl _ w).alloc (Nat.le_refl _) _⟩
set_option maxRecDepth 100000 in
theorem clashes_tab (w : World) (hT : Tab w B T K M tv D ws c) :
    Calls Try.prog 12 #[.pointer (some ⟨T, 0, none⟩)] w fun e w' => e = .returned (.int .i64 ((ws.length : Int) - c)) ∧ Below w.heap.size w w' := by
  obtain ⟨A, cap, htv, _⟩ := hT.slice
  have hk := hT.cellK
  rw [htv] at hk
  obtain ⟨hk0, hk1⟩ := hk
  have hle := hT.le
  have hmost := hT.most
  have hkeys := fun W (hb : Below w.heap.size w W) => keys_any M (M + 1) ws.length D W (hT.below hb).groups
  rw [hT.keys] at hkeys
  have tk0 : ∀ W, Below w.heap.size w W → W.cell? ⟨K, 0, none⟩ = some (.slice A ws.length cap) := fun W hb => (hb.cell hT.ltK).trans hk0
  have tk1 : ∀ W, Below w.heap.size w W → W.cell? ⟨K, 1, none⟩ = some (.map (some M)) := fun W hb => (hb.cell hT.ltK).trans hk1
  have r0 := Below.refl w.heap.size w
  have c63 : (c : Int) ≤ ws.length := by omega
  have l63 : (ws.length : Int) ≤ 4096 := by omega
  obtain ⟨L, hL⟩ : ∃ L, L = ws.length := ⟨_, rfl⟩
  rw [← hL] at hk0 tk0 c63 l63 ⊢
  have hA := all_tab w hT
  have hw : IntKind.i64.wrap ((L : Int) - c) = (L : Int) - c := by rw [IntKind.wrap_i64]; omega
  clear hL htv hk0 hk1 hle hmost hT
  go_enter Try.func12, Try.ntmps12
  go_wp2_with (go_at_call 16; refine hA.mono ?_; rintro e w1 ⟨rfl, rfl⟩)
  go_region_held3 (fun w' => Below w.heap.size w w' ∧ w'.cell? ⟨K, 0, none⟩ = some (.slice A L cap) ∧ w'.cell? ⟨K, 1, none⟩ = some (.map (some M)))
    (first
      | (exact ⟨r0.drew, tk0 _ r0.drew, tk1 _ r0.drew⟩)
      | (exact ⟨hb2, tk0 _ hb2, tk1 _ hb2⟩))
    (first | (go_at_call 21; refine (hkeys _ ?_).mono ?_; (go_split_ands; assumption); rintro e w2 ⟨rfl, hb2'⟩; have hb2 := r0.drew.trans (hb2'.mono r0.drew.size)))
  go_wp2
  go_ret
  exact ⟨rfl, hb2⟩
set_option maxRecDepth 100000 in
theorem clashes_nob (v : Value) (w : World) (hN : Nob w v) :
    Calls Try.prog 12 #[v] w fun e w' => e = .returned (.int .i64 0) ∧ Below w.heap.size w w' := by
  go_enter Try.func12, Try.ntmps12
  go_wp2_with fail
  refine (all_nob v w hN).mono ?_
  rintro e w1 ⟨k, rfl, hB, hb1⟩
  have h0 : w1.cell? ⟨k, 0, none⟩ = some (.slice none 0 0) := by unfold Bare at hB; simp [World.cell?, hB]
  have h1 : w1.cell? ⟨k, 1, none⟩ = some (.map none) := by unfold Bare at hB; simp [World.cell?, hB]
  have tk0 : ∀ W, Below w1.heap.size w1 W → W.cell? ⟨k, 0, none⟩ = some (.slice none 0 0) := fun W hb => (hb.cell (World.block_lt_of_cell? _ _ h0)).trans h0
  have tk1 : ∀ W, Below w1.heap.size w1 W → W.cell? ⟨k, 1, none⟩ = some (.map none) := fun W hb => (hb.cell (World.block_lt_of_cell? _ _ h1)).trans h1
  have r0 := Below.refl w1.heap.size w1
  clear h0 h1 hB hN
  go_wp2_with fail
  go_region_held3 (fun w' => Below w1.heap.size w1 w' ∧ w'.cell? ⟨k, 0, none⟩ = some (.slice none 0 0) ∧ w'.cell? ⟨k, 1, none⟩ = some (.map none))
    (first
      | (exact ⟨r0.drew, tk0 _ r0.drew, tk1 _ r0.drew⟩)
      | (exact ⟨hb2, tk0 _ hb2, tk1 _ hb2⟩))
    (first | (go_at_call 21; refine (keys_none _).mono ?_; rintro e w2 ⟨rfl, hb2'⟩; have hb2 := r0.drew.trans (hb2'.mono r0.drew.size)))
  go_wp2
  go_ret
  exact ⟨rfl, hb1.trans (hb2.mono hb1.size)⟩

/-! ### what stands at a number -/
theorem in_any (n lo hi : Int) (w : World) : Calls Try.prog 22 #[.int .i64 n, .int .i64 lo, .int .i64 hi] w fun e w' => e = .returned (.bool (decide (lo ≤ n ∧ n ≤ hi))) ∧ w = w' := by
  by_cases h1 : lo ≤ n
  · by_cases h2 : n ≤ hi
    · have e : decide (lo ≤ n ∧ n ≤ hi) = true := by simp [h1, h2]
      rw [e]
      go_enter Try.func22, Try.ntmps22
      go_wp2
      go_ret
      exact ⟨rfl, rfl⟩
    · have e : decide (lo ≤ n ∧ n ≤ hi) = false := by simp [h2]
      have h3 : decide (n ≤ hi) = false := by simp; omega
      rw [e]
      clear e h2
      go_enter Try.func22, Try.ntmps22
      go_wp2
      go_ret
      exact ⟨rfl, rfl⟩
  · have e : decide (lo ≤ n ∧ n ≤ hi) = false := by simp [h1]
    have h3 : decide (lo ≤ n) = false := by simp; omega
    rw [e]
    clear e h1
    go_enter Try.func22, Try.ntmps22
    go_wp2
    go_ret
    exact ⟨rfl, rfl⟩

set_option maxRecDepth 100000 in
theorem get_miss (i : Int) (w : World) (hT : Tab w B T K M tv D ws c) (hi : ¬ (0 ≤ i ∧ i < ws.length)) :
    Calls Try.prog 14 #[.pointer (some ⟨T, 0, none⟩), .int .i64 i] w fun e w' => e = .returned (.tuple #[.int .u64 0, .string ⟨#[]⟩, .bool false]) ∧ Below w.heap.size w w' := by
  obtain ⟨A, cap, htv, _⟩ := hT.slice
  have hk := hT.cellK.1
  rw [htv] at hk
  have hm := hT.most
  have hin := in_any i 0 ((ws.length : Int) - 1) w
  have e : decide (0 ≤ i ∧ i ≤ (ws.length : Int) - 1) = false := by simp; omega
  rw [e] at hin
  have hA := all_tab w hT
  have l63 : (ws.length : Int) ≤ 4096 := by omega
  clear e hi hT htv hm
  generalize ws.length = L at *
  go_enter Try.func14, Try.ntmps14
  go_wp2_with (first
    | (go_at_call 16; refine hA.mono ?_; rintro e w1 ⟨rfl, rfl⟩)
    | (go_at_call 22; refine hin.mono ?_; rintro e w2 ⟨rfl, rfl⟩))
  go_ret3
  exact ⟨rfl, Below.refl _ _⟩
set_option maxRecDepth 100000 in
theorem get_nob (v : Value) (i : Int) (w : World) (hN : Nob w v) :
    Calls Try.prog 14 #[v, .int .i64 i] w fun e w' => e = .returned (.tuple #[.int .u64 0, .string ⟨#[]⟩, .bool false]) ∧ Below w.heap.size w w' := by
  have hin := fun W => in_any i 0 (-1) W
  have e : decide (0 ≤ i ∧ i ≤ (-1 : Int)) = false := by simp; omega
  simp only [e] at hin
  clear e
  go_enter Try.func14, Try.ntmps14
  go_wp2_with fail
  refine (all_nob v w hN).mono ?_
  rintro e w1 ⟨k, rfl, hB, hb1⟩
  have h0 : w1.cell? ⟨k, 0, none⟩ = some (.slice none 0 0) := by unfold Bare at hB; simp [World.cell?, hB]
  go_wp2_with (go_at_call 22; refine (hin _).mono ?_; rintro e w2 ⟨rfl, rfl⟩)
  go_ret3
  exact ⟨rfl, hb1⟩
set_option maxRecDepth 100000 in
theorem get_hit (j : Nat) (x : Txt) (w : World) (hT : Tab w B T K M tv D ws c) (hx : ws[j]? = some x) :
    Calls Try.prog 14 #[.pointer (some ⟨T, 0, none⟩), .int .i64 (j : Int)] w fun e w' => e = .returned (.tuple #[.int .u64 x.1, .string x.2, .bool true]) ∧ Below w.heap.size w w' := by
  obtain ⟨A, cap, htv, hsl⟩ := hT.slice
  obtain ⟨g, rfl, hg, c1, c2⟩ := hsl j x hx
  have hk := hT.cellK.1
  rw [htv] at hk
  have hm := hT.most
  have hj := (List.getElem?_eq_some_iff.1 hx).1
  have hin := in_any (j : Int) 0 ((ws.length : Int) - 1) w
  have e : decide (0 ≤ (j : Int) ∧ (j : Int) ≤ (ws.length : Int) - 1) = true := by simp; omega
  rw [e] at hin
  have hA := all_tab w hT
  have l63 : (ws.length : Int) ≤ 4096 := by omega
  have hcl := clone_any x.2 (hT.fits x (List.mem_of_getElem? hx)).2
  have i1 : (j : Int) < (ws.length : Int) := by omega
  have i0 : (0 : Int) ≤ (j : Int) := by omega
  have tc1 : ∀ W, Below w.heap.size w W → W.cell? ⟨g, j * 2, none⟩ = some (.int .u64 x.1) := fun W hb => (hb.cell hg).trans c1
  have tc2 : ∀ W, Below w.heap.size w W → W.cell? ⟨g, j * 2 + 1, none⟩ = some (.string x.2) := fun W hb => (hb.cell hg).trans c2
  have r0 := Below.refl w.heap.size w
  clear e hT htv hsl hm hx c1 c2
  generalize ws.length = L at *
  go_enter Try.func14, Try.ntmps14
  go_wp2_with (first
    | (go_at_call 16; refine hA.mono ?_; rintro e w1 ⟨rfl, rfl⟩)
    | (go_at_call 22; refine hin.mono ?_; rintro e w2 ⟨rfl, rfl⟩))
  go_region_held3 (fun w' => Below w.heap.size w w' ∧ w'.cell? ⟨g, j * 2, none⟩ = some (.int .u64 x.1) ∧ w'.cell? ⟨g, j * 2 + 1, none⟩ = some (.string x.2))
    (first
      | (exact ⟨r0.drew, tc1 _ r0.drew, tc2 _ r0.drew⟩)
      | (exact ⟨hb2, tc1 _ hb2, tc2 _ hb2⟩))
    (first | (go_at_call 19; refine (hcl _).mono ?_; rintro e w2 ⟨rfl, hb2'⟩; have hb2 := r0.drew.trans (hb2'.mono r0.drew.size)))
  go_wp2
  go_ret3
  exact ⟨rfl, hb2⟩
end
end Go.Proofs.Ytfgoflflkfmhaaa
