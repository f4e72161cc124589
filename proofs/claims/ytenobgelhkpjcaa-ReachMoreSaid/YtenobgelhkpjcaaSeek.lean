/- A search in memory: where a word leads. Conditions: at most 1000 cells. -/
import Derived.Test.YtenobgelhkpjcaaPure
namespace Go.Proofs.Ytenobgelhkpjcaa
open Go.ChangeShapes Go.WideShapes Go.RowKit

def nats (l : List Nat) : List Value := l.flatMap fun (x : Nat) => [.int .i64 (x : Int)]
theorem nat_len (x : Nat) : [Value.int .i64 (x : Int)].length = 1 := rfl
/-- Where a search's parts lie. -/
structure Lim where
  p : Nat
  Ac : Option Addr
  n : Nat
  cc : Nat
  Ar : Option Addr
  cr : Nat
  An : Option Addr
  m : Nat
  cn : Nat
def Lim.cs (L : Lim) : Array Value := #[.slice L.Ac L.n L.cc, .slice L.Ar L.n L.cr, .slice L.An L.m L.cn]
/-- The blocks that a search turns. -/
def Lim.S (L : Lim) (g : Nat) : Prop := g = L.p ∨ lies L.Ar g ∨ lies L.An g
structure Srch (w : World) (L : Lim) (C : List Cel) (s : Sta) : Prop where
  box : Blk w L.p 44 L.cs
  cells : Sees w 10 L.Ac L.n L.cc (flatC C)
  oR : w.ownsRow 0 4 1 (.slice L.Ar L.n L.cr) L.n (bools s.R)
  oQ : w.ownsRow 0 3 1 (.slice L.An L.m L.cn) L.m (nats s.Q)
  off : ∀ g, holds L.Ac L.n g → ¬ L.S g
section
variable {w w' : World} {L : Lim} {C : List Cel} {s : Sta}
theorem Srch.kept {S : Nat → Prop} (h : Srch w L C s) (hk : Kept S w w') (h1 : ∀ g, L.S g → ¬ S g) (h2 : ∀ g, holds L.Ac L.n g → ¬ S g) : Srch w' L C s :=
  ⟨h.box.kept hk (h1 _ (.inl rfl)), h.cells.kept hk h2, own_kept h.oR hk (fun g hg => h1 g (.inr (.inl hg))), own_kept h.oQ hk (fun g hg => h1 g (.inr (.inr hg))), h.off⟩
theorem Srch.below (h : Srch w L C s) (hb : Below w.heap.size w w') : Srch w' L C s := h.kept (kept_below (fun _ => False) hb) (fun _ _ e => e) (fun _ _ e => e)
theorem Srch.lenC (h : Srch w L C s) : C.length = L.n := by
  have := h.cells.len
  unfold flatC at this
  rw [flat_len Cel.len] at this
  omega
theorem Srch.lenR (h : Srch w L C s) : s.R.length = L.n := by
  have := h.oR.1
  unfold bools at this
  rw [flat_len bool_len] at this
  omega
theorem Srch.lenQ (h : Srch w L C s) : s.Q.length = L.m := by
  have := h.oQ.1
  unfold nats at this
  rw [flat_len nat_len] at this
  omega
theorem Srch.lt (h : Srch w L C s) : ∀ g, L.S g → g < w.heap.size := by
  rintro g (rfl | e | e)
  · exact h.box.lt
  · obtain ⟨cs, hb⟩ := own_blk h.oR e
    exact hb.lt
  · obtain ⟨cs, hb⟩ := own_blk h.oQ e
    exact hb.lt

theorem put10 (c : Cel) : splice noC.cs.toArray 0 c.cs = c.cs.toArray := by kernel_rfl
theorem is_any (x : Wd) (w : World) : Calls Try.prog 31 #[.agg x.cs.toArray] w fun e w' => e = .returned (.bool (decide (1 ≤ x.c))) ∧ Below w.heap.size w w' := by
  obtain ⟨n, c, g⟩ := x
  have hB : Blk (w.alloc (.cells #[.int .i64 n, .int .i64 c, .int .i64 g] 35)) w.heap.size 35 #[.int .i64 n, .int .i64 c, .int .i64 g] := heap_alloc_new w _
  have c1 := hB.cell 1
  unfold Wd.cs
  go_enter Try.func31, Try.ntmps31
  go_wp2
  go_ret
  exact ⟨rfl, (Below.refl _ w).alloc (Nat.le_refl _) _⟩
theorem waits_any (h : Srch w L C s) : Calls Try.prog 16 #[.pointer (some ⟨L.p, 0, none⟩)] w fun e w' => e = .returned (.bool (decide (0 < s.Q.length))) ∧ w = w' := by
  have c2 : w.cell? ⟨L.p, 2, none⟩ = some (.slice L.An L.m L.cn) := h.box.cell 2
  rw [h.lenQ]
  have e : decide ((0 : Int) < (L.m : Int)) = decide (0 < L.m) := decide_eq_decide.2 (by omega)
  rw [← e]
  go_enter Try.func16, Try.ntmps16
  go_wp2
  go_ret
  exact ⟨by simp, rfl⟩

set_option maxRecDepth 100000 in
set_option maxHeartbeats 2000000 in
theorem leads_any (h : Srch w L C s) (hn : L.n ≤ 1000) (x : Wd) : Calls Try.prog 25 #[.pointer (some ⟨L.p, 0, none⟩), .agg x.cs.toArray] w fun e w' => e = .returned (.bool (leads C x).isSome) ∧ Below w.heap.size w w' := by
  obtain ⟨z, ez⟩ : ∃ z, z = w.heap.size := ⟨_, rfl⟩
  obtain ⟨W0, eW0⟩ : ∃ W, W = w.alloc (.cells x.cs.toArray 35) := ⟨_, rfl⟩
  have hb0 : Below w.heap.size w W0 := by rw [eW0]; exact (Below.refl _ w).alloc (Nat.le_refl _) _
  have hx : Blk W0 z 35 x.cs.toArray := by rw [eW0, ez]; exact heap_alloc_new w _
  have h0 := h.below hb0
  have hlC := h.lenC
  have tS : ∀ W, Below W0.heap.size W0 W → W.cell? ⟨z, 1, none⟩ = some (.int .i64 x.c) ∧ W.cell? ⟨z, 2, none⟩ = some (.int .i64 x.g) ∧ W.cell? ⟨L.p, 0, none⟩ = some (.slice L.Ac L.n L.cc) :=
    fun W hW => ⟨(hx.on hW).cell 1, (hx.on hW).cell 2, (h0.box.on hW).cell 0⟩
  have tX : ∀ W, Below W0.heap.size W0 W → W.rangeAt z 0 x.cs := fun W hW => range_blk (hx.on hW)
  have hI := fun W => is_any x W
  have k0 : Below W0.heap.size W0 W0.drew := (Below.refl _ W0).drew
  by_cases h1 : 1 ≤ x.c
  · have t1 : decide (1 ≤ x.c) = true := decide_eq_true h1
    have t1' : decide ((0 : Int) < x.c) = true := decide_eq_true (by omega)
    rw [t1] at hI
    by_cases h2 : (L.n : Int) < x.c
    · have t2 : decide ((L.n : Int) < x.c) = true := decide_eq_true h2
      have e : (leads C x).isSome = false := by
        unfold leads
        rw [if_pos h1, List.getElem?_eq_none (by omega)]
        rfl
      rw [e]
      clear e hx h0 h
      go_enter Try.func25, Try.ntmps25
      go_wp2_with fail
      rw [← eW0, ← ez]
      clear eW0
      have EZ := Lib.hid ez
      clear ez
      refine wp_region_noPanic ?_
      refine wp_region_held_drew (S := (fun W => Below W0.heap.size W0 W)) (by kernel_rfl) k0 (fun hHeld => ?_)
      refine wpAnyH_take (i := 0) (oi := ⟨some 6, _, _, _, _, _⟩) (v := .agg (List.toArray (x.cs))) rfl (by kernel_rfl) (by kernel_rfl) (by kernel_rfl) (fun _ _ _ h => h) (yieldsIf_load_mid (by rfl) 35 (.tmp 3) rfl z (0) rfl (x.cs) _ (fun W hW => tX W hW) Try.underlying35 rfl (load35 x)) (by assumption) ?_
      try simp only [Act.put, List.setIfInBounds_toArray, List.set_cons_zero, List.set_cons_succ]
      refine wpAnyH_ready (rs := [1]) (by kernel_rfl) (by simp) ?_
      refine AllReadyH.cons rfl (fun K hK => ?_) AllReadyH.nil
      go_simp
      refine (hI _).mono ?_
      rintro e w1 ⟨rfl, hb1⟩
      have k1 := k0.trans (hb1.mono k0.size)
      have hKeep := k1
      refine hK.out _ _ ?_ (fun hHeld1 => ?_)
      · exact hKeep
      clear hHeld hK K hKeep
      try simp only [Act.put, List.setIfInBounds_toArray, List.set_cons_zero, List.set_cons_succ]
      refine wpAnyH_take (i := 2) (oi := ⟨some 8, _, _, _, _, _⟩) (v := ?_) rfl (by kernel_rfl) (by kernel_rfl) (by kernel_rfl) (fun _ _ _ h => h) (Or.inl ⟨by rfl, ?_⟩) (by assumption) ?_
      rotate_left 1
      · (intro W hSw; obtain ⟨f0, f1, f2⟩ := tS W hSw; go_simp <;> with_reducible rfl)
      try simp only [Act.put, List.setIfInBounds_toArray, List.set_cons_zero, List.set_cons_succ]
      refine wpAnyH_take (i := 3) (oi := ⟨some 9, _, _, _, _, _⟩) (v := ?_) rfl (by kernel_rfl) (by kernel_rfl) (by kernel_rfl) (fun _ _ _ h => h) (Or.inl ⟨by rfl, ?_⟩) (by assumption) ?_
      rotate_left 1
      · (intro W hSw; obtain ⟨f0, f1, f2⟩ := tS W hSw; go_simp <;> with_reducible rfl)
      try simp only [Act.put, List.setIfInBounds_toArray, List.set_cons_zero, List.set_cons_succ]
      refine wpAnyH_take (i := 4) (oi := ⟨some 10, _, _, _, _, _⟩) (v := ?_) rfl (by kernel_rfl) (by kernel_rfl) (by kernel_rfl) (fun _ _ _ h => h) (Or.inl ⟨by rfl, ?_⟩) (by assumption) ?_
      rotate_left 1
      · (intro W hSw; obtain ⟨f0, f1, f2⟩ := tS W hSw; go_simp <;> with_reducible rfl)
      try simp only [Act.put, List.setIfInBounds_toArray, List.set_cons_zero, List.set_cons_succ]
      refine wpAnyH_take (i := 5) (oi := ⟨some 11, _, _, _, _, _⟩) (v := ?_) rfl (by kernel_rfl) (by kernel_rfl) (by kernel_rfl) (fun _ _ _ h => h) (Or.inl ⟨by rfl, ?_⟩) (by assumption) ?_
      rotate_left 1
      · (intro W hSw; obtain ⟨f0, f1, f2⟩ := tS W hSw; go_simp <;> with_reducible rfl)
      try simp only [Act.put, List.setIfInBounds_toArray, List.set_cons_zero, List.set_cons_succ]
      refine wpAnyH_take (i := 6) (oi := ⟨some 12, _, _, _, _, _⟩) (v := ?_) rfl (by kernel_rfl) (by kernel_rfl) (by kernel_rfl) (fun _ _ _ h => h) (Or.inl ⟨by rfl, ?_⟩) (by assumption) ?_
      rotate_left 1
      · (intro W hSw; obtain ⟨f0, f1, f2⟩ := tS W hSw; go_simp <;> with_reducible rfl)
      try simp only [Act.put, List.setIfInBounds_toArray, List.set_cons_zero, List.set_cons_succ]
      refine wpAnyH_take (i := 7) (oi := ⟨some 13, _, _, _, _, _⟩) (v := ?_) rfl (by kernel_rfl) (by kernel_rfl) (by kernel_rfl) (fun _ _ _ h => h) (Or.inl ⟨by rfl, ?_⟩) (by assumption) ?_
      rotate_left 1
      · (intro W hSw; obtain ⟨f0, f1, f2⟩ := tS W hSw; go_simp <;> with_reducible rfl)
      try simp only [Act.put, List.setIfInBounds_toArray, List.set_cons_zero, List.set_cons_succ]
      refine wpAnyH_take (i := 8) (oi := ⟨some 14, _, _, _, _, _⟩) (v := ?_) rfl (by kernel_rfl) (by kernel_rfl) (by kernel_rfl) (fun _ _ _ h => h) (Or.inl ⟨by rfl, ?_⟩) (by assumption) ?_
      rotate_left 1
      · (intro W hSw; obtain ⟨f0, f1, f2⟩ := tS W hSw; go_simp <;> with_reducible rfl)
      try simp only [Act.put, List.setIfInBounds_toArray, List.set_cons_zero, List.set_cons_succ]
      refine wpAnyH_take (i := 9) (oi := ⟨some 15, _, _, _, _, _⟩) (v := ?_) rfl (by kernel_rfl) (by kernel_rfl) (by kernel_rfl) (fun _ _ _ h => h) (Or.inl ⟨by rfl, ?_⟩) (by assumption) ?_
      rotate_left 1
      · (intro W hSw; obtain ⟨f0, f1, f2⟩ := tS W hSw; go_simp <;> with_reducible rfl)
      try simp only [Act.put, List.setIfInBounds_toArray, List.set_cons_zero, List.set_cons_succ]
      refine wpAnyH_take (i := 10) (oi := ⟨some 16, _, _, _, _, _⟩) (v := ?_) rfl (by kernel_rfl) (by kernel_rfl) (by kernel_rfl) (fun _ _ _ h => h) (Or.inl ⟨by rfl, ?_⟩) (by assumption) ?_
      rotate_left 1
      · (intro W hSw; obtain ⟨f0, f1, f2⟩ := tS W hSw; go_simp <;> with_reducible rfl)
      try simp only [Act.put, List.setIfInBounds_toArray, List.set_cons_zero, List.set_cons_succ]
      refine wpAnyH_take (i := 11) (oi := ⟨some 17, _, _, _, _, _⟩) (v := ?_) rfl (by kernel_rfl) (by kernel_rfl) (by kernel_rfl) (fun _ _ _ h => h) (Or.inl ⟨by rfl, ?_⟩) (by assumption) ?_
      rotate_left 1
      · (intro W hSw; obtain ⟨f0, f1, f2⟩ := tS W hSw; go_simp <;> with_reducible rfl)
      try simp only [Act.put, List.setIfInBounds_toArray, List.set_cons_zero, List.set_cons_succ]
      refine wpAnyH_take (i := 12) (oi := ⟨some 18, _, _, _, _, _⟩) (v := ?_) rfl (by kernel_rfl) (by kernel_rfl) (by kernel_rfl) (fun _ _ _ h => h) (Or.inl ⟨by rfl, ?_⟩) (by assumption) ?_
      rotate_left 1
      · (intro W hSw; obtain ⟨f0, f1, f2⟩ := tS W hSw; go_simp <;> with_reducible rfl)
      try simp only [Act.put, List.setIfInBounds_toArray, List.set_cons_zero, List.set_cons_succ]
      refine wpAnyH_done (by kernel_rfl) ?_ _
      refine NoPanic.normal ?_
      go_wp2
      go_ret
      exact ⟨rfl, hb0.trans (k1.mono hb0.size)⟩
    · have t2 : decide ((L.n : Int) < x.c) = false := decide_eq_false h2
      obtain ⟨j, hj⟩ : ∃ j : Nat, x.c - 1 = (j : Int) := ⟨(x.c - 1).toNat, by omega⟩
      have hjn : j < C.length := by omega
      obtain ⟨c, hc⟩ : ∃ c, C[j]? = some c := ⟨_, List.getElem?_eq_getElem hjn⟩
      have e : (leads C x).isSome = (!(c.s == 0) && c.g == x.g) := by
        unfold leads
        rw [if_pos h1, show (x.c - 1).toNat = j by omega, hc]
        by_cases a : c.s = 0 <;> by_cases b : c.g = x.g <;> simp [a, b]
      rw [e]
      clear e
      obtain ⟨M, eM⟩ : ∃ M, M = (!(c.s == 0) && c.g == x.g) := ⟨_, rfl⟩
      rw [← eM]
      have EM := Lib.hid eM
      clear eM
      obtain ⟨gC, oC, eA, hr⟩ := sees_at Cel.len h0.cells hc (by omega)
      have hgC : gC < W0.heap.size := World.block_lt_of_cell? _ _ (hr 0 _ rfl)
      rw [eA] at tS
      have tC : ∀ W, Below W0.heap.size W0 W → W.rangeAt gC (oC + j * 10) c.cs := fun W hW i v hv => (hW.cell (p := ⟨gC, oC + j * 10 + i, none⟩) hgC).trans (hr i v hv)
      have b1 : (0 : Int) ≤ (j : Int) := by omega
      have b2 : (j : Int) < (L.n : Int) := by omega
      have hwj : IntKind.i64.wrap (j : Int) = (j : Int) := by rw [IntKind.wrap_i64]; omega
      clear h0 h hr eA hc hjn
      go_enter Try.func25, Try.ntmps25
      go_wp2_with fail
      rw [← eW0, ← ez]
      clear eW0
      have EZ := Lib.hid ez
      clear ez
      refine wp_region_noPanic ?_
      refine wp_region_held_drew (S := (fun W => Below W0.heap.size W0 W)) (by kernel_rfl) k0 (fun hHeld => ?_)
      refine wpAnyH_take (i := 0) (oi := ⟨some 6, _, _, _, _, _⟩) (v := .agg (List.toArray (x.cs))) rfl (by kernel_rfl) (by kernel_rfl) (by kernel_rfl) (fun _ _ _ h => h) (yieldsIf_load_mid (by rfl) 35 (.tmp 3) rfl z (0) rfl (x.cs) _ (fun W hW => tX W hW) Try.underlying35 rfl (load35 x)) (by assumption) ?_
      try simp only [Act.put, List.setIfInBounds_toArray, List.set_cons_zero, List.set_cons_succ]
      refine wpAnyH_ready (rs := [1]) (by kernel_rfl) (by simp) ?_
      refine AllReadyH.cons rfl (fun K hK => ?_) AllReadyH.nil
      go_simp
      refine (hI _).mono ?_
      rintro e w1 ⟨rfl, hb1⟩
      have k1 := k0.trans (hb1.mono k0.size)
      have hKeep := k1
      refine hK.out _ _ ?_ (fun hHeld1 => ?_)
      · exact hKeep
      clear hHeld hK K hKeep
      try simp only [Act.put, List.setIfInBounds_toArray, List.set_cons_zero, List.set_cons_succ]
      refine wpAnyH_take (i := 2) (oi := ⟨some 8, _, _, _, _, _⟩) (v := ?_) rfl (by kernel_rfl) (by kernel_rfl) (by kernel_rfl) (fun _ _ _ h => h) (Or.inl ⟨by rfl, ?_⟩) (by assumption) ?_
      rotate_left 1
      · (intro W hSw; obtain ⟨f0, f1, f2⟩ := tS W hSw; go_simp <;> with_reducible rfl)
      try simp only [Act.put, List.setIfInBounds_toArray, List.set_cons_zero, List.set_cons_succ]
      refine wpAnyH_take (i := 3) (oi := ⟨some 9, _, _, _, _, _⟩) (v := ?_) rfl (by kernel_rfl) (by kernel_rfl) (by kernel_rfl) (fun _ _ _ h => h) (Or.inl ⟨by rfl, ?_⟩) (by assumption) ?_
      rotate_left 1
      · (intro W hSw; obtain ⟨f0, f1, f2⟩ := tS W hSw; go_simp <;> with_reducible rfl)
      try simp only [Act.put, List.setIfInBounds_toArray, List.set_cons_zero, List.set_cons_succ]
      refine wpAnyH_take (i := 4) (oi := ⟨some 10, _, _, _, _, _⟩) (v := ?_) rfl (by kernel_rfl) (by kernel_rfl) (by kernel_rfl) (fun _ _ _ h => h) (Or.inl ⟨by rfl, ?_⟩) (by assumption) ?_
      rotate_left 1
      · (intro W hSw; obtain ⟨f0, f1, f2⟩ := tS W hSw; go_simp <;> with_reducible rfl)
      try simp only [Act.put, List.setIfInBounds_toArray, List.set_cons_zero, List.set_cons_succ]
      refine wpAnyH_take (i := 5) (oi := ⟨some 11, _, _, _, _, _⟩) (v := ?_) rfl (by kernel_rfl) (by kernel_rfl) (by kernel_rfl) (fun _ _ _ h => h) (Or.inl ⟨by rfl, ?_⟩) (by assumption) ?_
      rotate_left 1
      · (intro W hSw; obtain ⟨f0, f1, f2⟩ := tS W hSw; go_simp <;> with_reducible rfl)
      try simp only [Act.put, List.setIfInBounds_toArray, List.set_cons_zero, List.set_cons_succ]
      refine wpAnyH_take (i := 6) (oi := ⟨some 12, _, _, _, _, _⟩) (v := ?_) rfl (by kernel_rfl) (by kernel_rfl) (by kernel_rfl) (fun _ _ _ h => h) (Or.inl ⟨by rfl, ?_⟩) (by assumption) ?_
      rotate_left 1
      · (intro W hSw; obtain ⟨f0, f1, f2⟩ := tS W hSw; go_simp <;> with_reducible rfl)
      try simp only [Act.put, List.setIfInBounds_toArray, List.set_cons_zero, List.set_cons_succ]
      refine wpAnyH_take (i := 7) (oi := ⟨some 13, _, _, _, _, _⟩) (v := ?_) rfl (by kernel_rfl) (by kernel_rfl) (by kernel_rfl) (fun _ _ _ h => h) (Or.inl ⟨by rfl, ?_⟩) (by assumption) ?_
      rotate_left 1
      · (intro W hSw; obtain ⟨f0, f1, f2⟩ := tS W hSw; go_simp <;> with_reducible rfl)
      try simp only [Act.put, List.setIfInBounds_toArray, List.set_cons_zero, List.set_cons_succ]
      refine wpAnyH_take (i := 8) (oi := ⟨some 14, _, _, _, _, _⟩) (v := ?_) rfl (by kernel_rfl) (by kernel_rfl) (by kernel_rfl) (fun _ _ _ h => h) (Or.inl ⟨by rfl, ?_⟩) (by assumption) ?_
      rotate_left 1
      · (intro W hSw; obtain ⟨f0, f1, f2⟩ := tS W hSw; go_simp <;> with_reducible rfl)
      try simp only [Act.put, List.setIfInBounds_toArray, List.set_cons_zero, List.set_cons_succ]
      refine wpAnyH_take (i := 9) (oi := ⟨some 15, _, _, _, _, _⟩) (v := ?_) rfl (by kernel_rfl) (by kernel_rfl) (by kernel_rfl) (fun _ _ _ h => h) (Or.inl ⟨by rfl, ?_⟩) (by assumption) ?_
      rotate_left 1
      · (intro W hSw; obtain ⟨f0, f1, f2⟩ := tS W hSw; go_simp <;> with_reducible rfl)
      try simp only [Act.put, List.setIfInBounds_toArray, List.set_cons_zero, List.set_cons_succ]
      refine wpAnyH_take (i := 10) (oi := ⟨some 16, _, _, _, _, _⟩) (v := ?_) rfl (by kernel_rfl) (by kernel_rfl) (by kernel_rfl) (fun _ _ _ h => h) (Or.inl ⟨by rfl, ?_⟩) (by assumption) ?_
      rotate_left 1
      · (intro W hSw; obtain ⟨f0, f1, f2⟩ := tS W hSw; go_simp <;> with_reducible rfl)
      try simp only [Act.put, List.setIfInBounds_toArray, List.set_cons_zero, List.set_cons_succ]
      refine wpAnyH_take (i := 11) (oi := ⟨some 17, _, _, _, _, _⟩) (v := ?_) rfl (by kernel_rfl) (by kernel_rfl) (by kernel_rfl) (fun _ _ _ h => h) (Or.inl ⟨by rfl, ?_⟩) (by assumption) ?_
      rotate_left 1
      · (intro W hSw; obtain ⟨f0, f1, f2⟩ := tS W hSw; go_simp <;> with_reducible rfl)
      try simp only [Act.put, List.setIfInBounds_toArray, List.set_cons_zero, List.set_cons_succ]
      refine wpAnyH_take (i := 12) (oi := ⟨some 18, _, _, _, _, _⟩) (v := ?_) rfl (by kernel_rfl) (by kernel_rfl) (by kernel_rfl) (fun _ _ _ h => h) (Or.inl ⟨by rfl, ?_⟩) (by assumption) ?_
      rotate_left 1
      · (intro W hSw; obtain ⟨f0, f1, f2⟩ := tS W hSw; go_simp <;> with_reducible rfl)
      try simp only [Act.put, List.setIfInBounds_toArray, List.set_cons_zero, List.set_cons_succ]
      refine wpAnyH_done (by kernel_rfl) ?_ _
      refine NoPanic.normal ?_
      go_wp2_with fail
      have hb2 : Below W0.heap.size W0 w1.drew := k1.drew
      refine wp_region_noPanic ?_
      refine wp_region_held_drew (S := (fun W => Below W0.heap.size W0 W)) (by kernel_rfl) hb2 (fun hHeld => ?_)
      refine wpAnyH_take (i := 0) (oi := ⟨some 19, _, _, _, _, _⟩) (v := ?_) rfl (by kernel_rfl) (by kernel_rfl) (by kernel_rfl) (fun _ _ _ h => h) (Or.inl ⟨by rfl, ?_⟩) (by assumption) ?_
      rotate_left 1
      · (intro W hSw; obtain ⟨f0, f1, f2⟩ := tS W hSw; go_simp <;> with_reducible rfl)
      try simp only [Act.put, List.setIfInBounds_toArray, List.set_cons_zero, List.set_cons_succ]
      refine wpAnyH_take (i := 1) (oi := ⟨some 20, _, _, _, _, _⟩) (v := ?_) rfl (by kernel_rfl) (by kernel_rfl) (by kernel_rfl) (fun _ _ _ h => h) (Or.inl ⟨by rfl, ?_⟩) (by assumption) ?_
      rotate_left 1
      · (intro W hSw; obtain ⟨f0, f1, f2⟩ := tS W hSw; go_simp <;> with_reducible rfl)
      try simp only [Act.put, List.setIfInBounds_toArray, List.set_cons_zero, List.set_cons_succ]
      refine wpAnyH_take (i := 2) (oi := ⟨some 21, _, _, _, _, _⟩) (v := ?_) rfl (by kernel_rfl) (by kernel_rfl) (by kernel_rfl) (fun _ _ _ h => h) (Or.inl ⟨by rfl, ?_⟩) (by assumption) ?_
      rotate_left 1
      · (intro W hSw; obtain ⟨f0, f1, f2⟩ := tS W hSw; go_simp <;> with_reducible rfl)
      try simp only [Act.put, List.setIfInBounds_toArray, List.set_cons_zero, List.set_cons_succ]
      refine wpAnyH_take (i := 3) (oi := ⟨some 22, _, _, _, _, _⟩) (v := ?_) rfl (by kernel_rfl) (by kernel_rfl) (by kernel_rfl) (fun _ _ _ h => h) (Or.inl ⟨by rfl, ?_⟩) (by assumption) ?_
      rotate_left 1
      · (intro W hSw; obtain ⟨f0, f1, f2⟩ := tS W hSw; go_simp <;> with_reducible rfl)
      try simp only [Act.put, List.setIfInBounds_toArray, List.set_cons_zero, List.set_cons_succ]
      refine wpAnyH_take (i := 4) (oi := ⟨some 23, _, _, _, _, _⟩) (v := ?_) rfl (by kernel_rfl) (by kernel_rfl) (by kernel_rfl) (fun _ _ _ h => h) (Or.inl ⟨by rfl, ?_⟩) (by assumption) ?_
      rotate_left 1
      · (intro W hSw; obtain ⟨f0, f1, f2⟩ := tS W hSw; go_simp <;> with_reducible rfl)
      try simp only [Act.put, List.setIfInBounds_toArray, List.set_cons_zero, List.set_cons_succ]
      refine wpAnyH_take (i := 5) (oi := ⟨some 24, _, _, _, _, _⟩) (v := ?_) rfl (by kernel_rfl) (by kernel_rfl) (by kernel_rfl) (fun _ _ _ h => h) (Or.inl ⟨by rfl, ?_⟩) (by assumption) ?_
      rotate_left 1
      · (intro W hSw; obtain ⟨f0, f1, f2⟩ := tS W hSw; go_simp <;> with_reducible rfl)
      try simp only [Act.put, List.setIfInBounds_toArray, List.set_cons_zero, List.set_cons_succ]
      refine wpAnyH_take (i := 6) (oi := ⟨some 25, _, _, _, _, _⟩) (v := ?_) rfl (by kernel_rfl) (by kernel_rfl) (by kernel_rfl) (fun _ _ _ h => h) (Or.inl ⟨by rfl, ?_⟩) (by assumption) ?_
      rotate_left 1
      · (intro W hSw; obtain ⟨f0, f1, f2⟩ := tS W hSw; go_simp <;> with_reducible rfl)
      try simp only [Act.put, List.setIfInBounds_toArray, List.set_cons_zero, List.set_cons_succ]
      refine wpAnyH_take (i := 7) (oi := ⟨some 26, _, _, _, _, _⟩) (v := ?_) rfl (by kernel_rfl) (by kernel_rfl) (by kernel_rfl) (fun _ _ _ h => h) (Or.inl ⟨by rfl, ?_⟩) (by assumption) ?_
      rotate_left 1
      · (intro W hSw; obtain ⟨f0, f1, f2⟩ := tS W hSw; go_simp <;> with_reducible rfl)
      try simp only [Act.put, List.setIfInBounds_toArray, List.set_cons_zero, List.set_cons_succ]
      refine wpAnyH_take (i := 8) (oi := ⟨some 27, _, _, _, _, _⟩) (v := .agg (List.toArray (c.cs))) rfl (by kernel_rfl) (by kernel_rfl) (by kernel_rfl) (fun _ _ _ h => h) (yieldsIf_load_mid (by rfl) 38 (.tmp 26) rfl gC (oC + j * 10) rfl (c.cs) _ (fun W hW => tC W hW) Try.underlying38 rfl (load38 c)) (by assumption) ?_
      try simp only [Act.put, List.setIfInBounds_toArray, List.set_cons_zero, List.set_cons_succ]
      refine wpAnyH_ready (rs := [9]) (by kernel_rfl) (by simp) ?_
      refine AllReadyH.cons rfl (fun K hK => ?_) AllReadyH.nil
      go_simp
      refine hK.out _ _ ?_ (fun hHeld5 => ?_)
      · exact hb2.alloc k1.size _
      clear hHeld hK K
      try simp only [Act.put, List.setIfInBounds_toArray, List.set_cons_zero, List.set_cons_succ]
      have hB : Blk ((w1.alloc (.cells noC.cs.toArray 38)).drew) w1.heap.size 38 noC.cs.toArray := heap_alloc_new w1 _
      have hq : W0.heap.size ≤ w1.heap.size := k1.size
      obtain ⟨w2, ew2⟩ : ∃ W, W = (w1.alloc (.cells noC.cs.toArray 38)).drew := ⟨_, rfl⟩
      change wpAnyH _ _ _ _ _ _ _ _ ((w1.alloc (.cells noC.cs.toArray 38)).drew)
      have hb5 : Below W0.heap.size W0 w2 := by rw [ew2]; exact hHeld5
      rw [← ew2] at hB ⊢
      clear ew2 hHeld5 hb2
      generalize w1.heap.size = q at hB hq ⊢
      have hb6 : Below W0.heap.size W0 (w2.setCells q 0 c.cs) := hb5.trans ((kept_cells q c.cs 0 w2).under _ hb5.size (fun k e => by have e : k = q := e; omega))
      have hB6 := heap_cells c.cs 0 w2 _ hB
      rw [put10] at hB6
      have hth := there_blk hB 0 10 (by decide)
      refine wpAnyH_ready (rs := [10]) (by kernel_rfl) (by simp) ?_
      refine AllReadyH.cons rfl (fun K hK => ?_) AllReadyH.nil
      rw [if_pos (by rfl)]
      refine wp_store_mid 38 (.tmp 5) (.tmp 27) rfl q 0 c.cs.toArray rfl rfl hth size38 c.onea ?_
      refine hK.out _ _ hb6 (fun hHeld6 => ?_)
      clear hK K hHeld6
      refine wpAnyH_done (by kernel_rfl) ?_ _
      refine NoPanic.normal ?_
      change Exit.then _ _ _ (Act.mk _ _) (w2.setCells q 0 c.cs)
      have g2 := (hx.on hb6).cell 2
      generalize w2.setCells q 0 c.cs = w3 at hb6 hB6 g2 ⊢
      have g0 : w3.cell? ⟨q, 0, none⟩ = some (.int .i64 c.s) := hB6.cell 0
      have g1 : w3.cell? ⟨q, 1, none⟩ = some (.int .i64 c.g) := hB6.cell 1
      replace g2 : w3.cell? ⟨z, 2, none⟩ = some (.int .i64 x.g) := g2
      have HB := Lib.hid (hb0.trans (hb6.mono hb0.size))
      clear hB hB6 hb5 hb6 hth tS tC tX hx hb0 k0 k1 hb1
      by_cases s0 : c.s = 0
      · have u1 : (c.s == 0) = true := by simpa using s0
        have u2 : (c.s != 0) = false := by simpa using s0
        have e : M = false := by rw [EM.out, u1]; rfl
        subst e
        clear s0 u1 EM
        go_wp2
        go_ret
        exact ⟨rfl, HB.out⟩
      · have u1 : (c.s == 0) = false := by simpa using s0
        have u2 : (c.s != 0) = true := by simpa using s0
        have e : M = (c.g == x.g) := by rw [EM.out, u1]; rfl
        subst e
        clear s0 u1 EM
        go_wp2
        go_ret
        exact ⟨rfl, HB.out⟩
  · have t1 : decide (1 ≤ x.c) = false := decide_eq_false h1
    have t1' : decide ((0 : Int) < x.c) = false := decide_eq_false (by omega)
    rw [t1] at hI
    have e : (leads C x).isSome = false := by
      unfold leads
      rw [if_neg h1]
      rfl
    rw [e]
    clear e hx h0 h
    go_enter Try.func25, Try.ntmps25
    go_wp2_with fail
    rw [← eW0, ← ez]
    clear eW0
    have EZ := Lib.hid ez
    clear ez
    refine wp_region_noPanic ?_
    refine wp_region_held_drew (S := (fun W => Below W0.heap.size W0 W)) (by kernel_rfl) k0 (fun hHeld => ?_)
    refine wpAnyH_take (i := 0) (oi := ⟨some 6, _, _, _, _, _⟩) (v := .agg (List.toArray (x.cs))) rfl (by kernel_rfl) (by kernel_rfl) (by kernel_rfl) (fun _ _ _ h => h) (yieldsIf_load_mid (by rfl) 35 (.tmp 3) rfl z (0) rfl (x.cs) _ (fun W hW => tX W hW) Try.underlying35 rfl (load35 x)) (by assumption) ?_
    try simp only [Act.put, List.setIfInBounds_toArray, List.set_cons_zero, List.set_cons_succ]
    refine wpAnyH_ready (rs := [1]) (by kernel_rfl) (by simp) ?_
    refine AllReadyH.cons rfl (fun K hK => ?_) AllReadyH.nil
    go_simp
    refine (hI _).mono ?_
    rintro e w1 ⟨rfl, hb1⟩
    have k1 := k0.trans (hb1.mono k0.size)
    have hKeep := k1
    refine hK.out _ _ ?_ (fun hHeld1 => ?_)
    · exact hKeep
    clear hHeld hK K hKeep
    try simp only [Act.put, List.setIfInBounds_toArray, List.set_cons_zero, List.set_cons_succ]
    refine wpAnyH_take (i := 2) (oi := ⟨some 8, _, _, _, _, _⟩) (v := ?_) rfl (by kernel_rfl) (by kernel_rfl) (by kernel_rfl) (fun _ _ _ h => h) (Or.inl ⟨by rfl, ?_⟩) (by assumption) ?_
    rotate_left 1
    · (intro W hSw; obtain ⟨f0, f1, f2⟩ := tS W hSw; go_simp <;> with_reducible rfl)
    try simp only [Act.put, List.setIfInBounds_toArray, List.set_cons_zero, List.set_cons_succ]
    refine wpAnyH_take (i := 3) (oi := ⟨some 9, _, _, _, _, _⟩) (v := ?_) rfl (by kernel_rfl) (by kernel_rfl) (by kernel_rfl) (fun _ _ _ h => h) (Or.inl ⟨by rfl, ?_⟩) (by assumption) ?_
    rotate_left 1
    · (intro W hSw; obtain ⟨f0, f1, f2⟩ := tS W hSw; go_simp <;> with_reducible rfl)
    try simp only [Act.put, List.setIfInBounds_toArray, List.set_cons_zero, List.set_cons_succ]
    refine wpAnyH_take (i := 4) (oi := ⟨some 10, _, _, _, _, _⟩) (v := undef) rfl (by kernel_rfl) (by kernel_rfl) (by kernel_rfl) (fun _ _ _ h => h) (Or.inr ⟨by rfl, rfl⟩) (by assumption) ?_
    try simp only [Act.put, List.setIfInBounds_toArray, List.set_cons_zero, List.set_cons_succ]
    refine wpAnyH_take (i := 5) (oi := ⟨some 11, _, _, _, _, _⟩) (v := undef) rfl (by kernel_rfl) (by kernel_rfl) (by kernel_rfl) (fun _ _ _ h => h) (Or.inr ⟨by rfl, rfl⟩) (by assumption) ?_
    try simp only [Act.put, List.setIfInBounds_toArray, List.set_cons_zero, List.set_cons_succ]
    refine wpAnyH_take (i := 6) (oi := ⟨some 12, _, _, _, _, _⟩) (v := undef) rfl (by kernel_rfl) (by kernel_rfl) (by kernel_rfl) (fun _ _ _ h => h) (Or.inr ⟨by rfl, rfl⟩) (by assumption) ?_
    try simp only [Act.put, List.setIfInBounds_toArray, List.set_cons_zero, List.set_cons_succ]
    refine wpAnyH_take (i := 7) (oi := ⟨some 13, _, _, _, _, _⟩) (v := undef) rfl (by kernel_rfl) (by kernel_rfl) (by kernel_rfl) (fun _ _ _ h => h) (Or.inr ⟨by rfl, rfl⟩) (by assumption) ?_
    try simp only [Act.put, List.setIfInBounds_toArray, List.set_cons_zero, List.set_cons_succ]
    refine wpAnyH_take (i := 8) (oi := ⟨some 14, _, _, _, _, _⟩) (v := undef) rfl (by kernel_rfl) (by kernel_rfl) (by kernel_rfl) (fun _ _ _ h => h) (Or.inr ⟨by rfl, rfl⟩) (by assumption) ?_
    try simp only [Act.put, List.setIfInBounds_toArray, List.set_cons_zero, List.set_cons_succ]
    refine wpAnyH_take (i := 9) (oi := ⟨some 15, _, _, _, _, _⟩) (v := undef) rfl (by kernel_rfl) (by kernel_rfl) (by kernel_rfl) (fun _ _ _ h => h) (Or.inr ⟨by rfl, rfl⟩) (by assumption) ?_
    try simp only [Act.put, List.setIfInBounds_toArray, List.set_cons_zero, List.set_cons_succ]
    refine wpAnyH_take (i := 10) (oi := ⟨some 16, _, _, _, _, _⟩) (v := undef) rfl (by kernel_rfl) (by kernel_rfl) (by kernel_rfl) (fun _ _ _ h => h) (Or.inr ⟨by rfl, rfl⟩) (by assumption) ?_
    try simp only [Act.put, List.setIfInBounds_toArray, List.set_cons_zero, List.set_cons_succ]
    refine wpAnyH_take (i := 11) (oi := ⟨some 17, _, _, _, _, _⟩) (v := undef) rfl (by kernel_rfl) (by kernel_rfl) (by kernel_rfl) (fun _ _ _ h => h) (Or.inr ⟨by rfl, rfl⟩) (by assumption) ?_
    try simp only [Act.put, List.setIfInBounds_toArray, List.set_cons_zero, List.set_cons_succ]
    refine wpAnyH_take (i := 12) (oi := ⟨some 18, _, _, _, _, _⟩) (v := ?_) rfl (by kernel_rfl) (by kernel_rfl) (by kernel_rfl) (fun _ _ _ h => h) (Or.inl ⟨by rfl, ?_⟩) (by assumption) ?_
    rotate_left 1
    · (intro W hSw; obtain ⟨f0, f1, f2⟩ := tS W hSw; go_simp <;> with_reducible rfl)
    try simp only [Act.put, List.setIfInBounds_toArray, List.set_cons_zero, List.set_cons_succ]
    refine wpAnyH_done (by kernel_rfl) ?_ _
    refine NoPanic.normal ?_
    go_wp2
    go_ret
    exact ⟨rfl, hb0.trans (k1.mono hb0.size)⟩
end
end Go.Proofs.Ytenobgelhkpjcaa
