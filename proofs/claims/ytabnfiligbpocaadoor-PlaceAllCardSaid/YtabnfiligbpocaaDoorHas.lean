/- Whether a place is among some; a program of at most seven threads. Conditions: none. -/
import Derived.Test.YtabnfiligbpocaaDoorAll
namespace Go.Proofs.YtabnfiligbpocaaDoor
open Go.RowKit Go.ChangeShapes Go.WideShapes

theorem eq23 (x y : Pl) (w : World) : (binOp BinOp.eql 23 (.agg x.cs.toArray) (.agg y.cs.toArray)).run Tryd.prog w = .ok (.bool (decide (x = y))) w := by
  obtain ⟨a, b, c⟩ := x
  obtain ⟨a', b', c'⟩ := y
  have e : decide ((⟨a, b, c⟩ : Pl) = ⟨a', b', c'⟩) = (a == a' && (b == b' && c == c')) := by
    by_cases h1 : a = a' <;> by_cases h2 : b = b' <;> by_cases h3 : c = c' <;> simp [h1, h2, h3]
  rw [e]
  unfold Pl.cs
  go_simp
  clear e
  by_cases h1 : a = a' <;> by_cases h2 : b = b' <;> by_cases h3 : c = c' <;> simp [h1, h2, h3]
theorem neq23 (x y : Pl) (w : World) : (binOp BinOp.neq 23 (.agg x.cs.toArray) (.agg y.cs.toArray)).run Tryd.prog w = .ok (.bool (!decide (x = y))) w := by
  obtain ⟨a, b, c⟩ := x
  obtain ⟨a', b', c'⟩ := y
  have e : decide ((⟨a, b, c⟩ : Pl) = ⟨a', b', c'⟩) = (a == a' && (b == b' && c == c')) := by
    by_cases h1 : a = a' <;> by_cases h2 : b = b' <;> by_cases h3 : c = c' <;> simp [h1, h2, h3]
  rw [e]
  unfold Pl.cs
  go_simp
  clear e
  by_cases h1 : a = a' <;> by_cases h2 : b = b' <;> by_cases h3 : c = c' <;> simp [h1, h2, h3]
theorem ownB_below' {w w' : World} {B k n : Nat} {t : TypeId} {v : Value} {vs : List Value} (h : w.ownsRow B t k v n vs) (hb : Below w.heap.size w w') : w'.ownsRow B t k v n vs :=
  h.kept (row := none) ⟨hb.os, hb.tape, hb.output, hb.size, fun k hk _ => hb.block k hk⟩ (by cases v.ownBlock <;> simp)
theorem pl_len {w : World} {B n cap : Nat} {A : Option Addr} {l : List Pl} (h : w.ownsRow B 23 3 (.slice A n cap) n (flatP l)) : l.length = n := by
  have := h.1
  unfold flatP at this
  rw [flat_len Pl.len] at this
  omega
theorem pl_at {w : World} {B n cap : Nat} {A : Option Addr} {l : List Pl} (h : w.ownsRow B 23 3 (.slice A n cap) n (flatP l)) {i : Nat} {x : Pl} (hx : l[i]? = some x) : ∃ g, A = some ⟨g, 0, none⟩ ∧ w.rangeAt g (i * 3) x.cs := by
  obtain ⟨g', e, _, h1, _⟩ := own_at Pl.len (own_low h) hx (by omega)
  exact ⟨g', e, h1⟩
set_option maxRecDepth 100000 in
set_option maxHeartbeats 2000000 in
theorem has_any {w : World} {B n cap : Nat} {A : Option Addr} {l : List Pl} (h : w.ownsRow B 23 3 (.slice A n cap) n (flatP l)) (x : Pl) :
    Calls Tryd.prog 14 #[.slice A n cap, .agg x.cs.toArray] w fun e w' => e = .returned (.bool (decide (x ∈ l))) ∧ Below w.heap.size w w' := by
  obtain ⟨c1, c2, _⟩ := own_cap (own_low h)
  have hm := len_i64 c1 c2
  have hl := pl_len h
  obtain ⟨z, ez⟩ : ∃ z, z = w.heap.size := ⟨_, rfl⟩
  obtain ⟨W0, eW0⟩ : ∃ W, W = w.alloc (.cells x.cs.toArray 23) := ⟨_, rfl⟩
  have hb0 : Below w.heap.size w W0 := by rw [eW0]; exact (Below.refl _ w).alloc (Nat.le_refl _) _
  have hx0 : Blk W0 z 23 x.cs.toArray := by rw [eW0, ez]; exact heap_alloc_new w _
  have h0 := ownB_below' h hb0
  have HL := Lib.hid hl
  clear h hl
  go_enter Tryd.func14, Tryd.ntmps14
  go_wp2_with fail
  rw [← eW0, ← ez]
  clear eW0
  have EZ := Lib.hid ez
  clear ez
  go_loopw [5] (fun v wr => ∃ k : Nat, k ≤ n ∧ v = .int .i64 k ∧ (∀ j y, j < k → l[j]? = some y → y ≠ x) ∧ Below W0.heap.size W0 wr) (fun v _ => n - (intOf v).toNat)
  case atStart => exact ⟨0, Nat.zero_le _, rfl, fun j y hj => by omega, Below.refl _ _⟩
  case round =>
    obtain ⟨k, hk, rfl, hno, hb⟩ := hrel
    have HB := Lib.hid (hb0.trans (hb.mono hb0.size))
    have HNO := Lib.hid hno
    clear hno
    by_cases hlt : k < n
    · obtain ⟨y, hy⟩ : ∃ y, l[k]? = some y := ⟨_, List.getElem?_eq_getElem (by have := HL.out; omega)⟩
      obtain ⟨g, rfl, hr⟩ := pl_at (ownB_below' h0 hb) hy
      have t0 : decide ((k : Int) < (n : Int)) = true := decide_eq_true (by omega)
      have hf0 : wr.drew.rangeAt g (k * 3) y.cs ∧ wr.drew.rangeAt z 0 x.cs := ⟨hr, range_blk (hx0.on hb.drew)⟩
      have heq := eq23 y x
      obtain ⟨M, eM⟩ : ∃ M, M = decide (y = x) := ⟨_, rfl⟩
      rw [← eM] at heq
      have HY := Lib.hid (And.intro hy eM)
      have HB2 := Lib.hid hb
      clear hr hb hy eM hx0 h0
      go_wp2_with fail
      refine wp_region_noPanic ?_
      refine wp_region_held_drew (S := (fun W => W.rangeAt g (k * 3) y.cs ∧ W.rangeAt z 0 x.cs)) (by kernel_rfl) hf0 (fun hHeld => ?_)
      refine wpAnyH_take (i := 0) (oi := ⟨some 12, _, _, _, _, _⟩) (v := ?_) rfl (by kernel_rfl) (by kernel_rfl) (by kernel_rfl) (fun _ _ _ h => h) (Or.inl ⟨by rfl, ?_⟩) (by assumption) ?_
      rotate_left 1
      · (intro W hSw; go_simp <;> with_reducible rfl)
      try simp only [Act.put, List.setIfInBounds_toArray, List.set_cons_zero, List.set_cons_succ]
      refine wpAnyH_take (i := 1) (oi := ⟨some 13, _, _, _, _, _⟩) (v := ?_) rfl (by kernel_rfl) (by kernel_rfl) (by kernel_rfl) (fun _ _ _ h => h) (Or.inl ⟨by rfl, ?_⟩) (by assumption) ?_
      rotate_left 1
      · (intro W hSw; go_simp <;> with_reducible rfl)
      try simp only [Act.put, List.setIfInBounds_toArray, List.set_cons_zero, List.set_cons_succ]
      refine wpAnyH_take (i := 2) (oi := ⟨some 14, _, _, _, _, _⟩) (v := ?_) rfl (by kernel_rfl) (by kernel_rfl) (by kernel_rfl) (fun _ _ _ h => h) (Or.inl ⟨by rfl, ?_⟩) (by assumption) ?_
      rotate_left 1
      · (intro W hSw; go_simp <;> with_reducible rfl)
      try simp only [Act.put, List.setIfInBounds_toArray, List.set_cons_zero, List.set_cons_succ]
      refine wpAnyH_take (i := 3) (oi := ⟨some 15, _, _, _, _, _⟩) (v := .agg (List.toArray (y.cs))) rfl (by kernel_rfl) (by kernel_rfl) (by kernel_rfl) (fun _ _ _ h => h) (yieldsIf_load_mid (by rfl) 23 (.tmp 14) rfl g (k * 3) rfl (y.cs) _ (fun W hW => hW.1) Tryd.underlying23 rfl (load23 y)) (by assumption) ?_
      try simp only [Act.put, List.setIfInBounds_toArray, List.set_cons_zero, List.set_cons_succ]
      refine wpAnyH_take (i := 4) (oi := ⟨some 16, _, _, _, _, _⟩) (v := .agg (List.toArray (x.cs))) rfl (by kernel_rfl) (by kernel_rfl) (by kernel_rfl) (fun _ _ _ h => h) (yieldsIf_load_mid (by rfl) 23 (.tmp 3) rfl z (0) rfl (x.cs) _ (fun W hW => hW.2) Tryd.underlying23 rfl (load23 x)) (by assumption) ?_
      try simp only [Act.put, List.setIfInBounds_toArray, List.set_cons_zero, List.set_cons_succ]
      refine wpAnyH_take (i := 5) (oi := ⟨some 17, _, _, _, _, _⟩) (v := ?_) rfl (by kernel_rfl) (by kernel_rfl) (by kernel_rfl) (fun _ _ _ h => h) (Or.inl ⟨by rfl, ?_⟩) (by assumption) ?_
      rotate_left 1
      · (intro W hSw; go_simp <;> with_reducible rfl)
      try simp only [Act.put, List.setIfInBounds_toArray, List.set_cons_zero, List.set_cons_succ]
      refine wpAnyH_done (by kernel_rfl) ?_ _
      refine NoPanic.normal ?_
      cases M
      · go_wp2
        go_roundw
        case rel => exact ⟨k + 1, by omega, by go_num, fun j u hj hu => by
          by_cases e : j = k
          · subst e
            have := HY.out.1
            rw [hu] at this
            injection this with this
            subst this
            exact of_decide_eq_false HY.out.2.symm
          · exact HNO.out j u (by omega) hu, HB2.out.drew⟩
        case measure => simp [intOf]; omega
      · go_wp2
        go_ret
        refine ⟨?_, HB.out.drew⟩
        have h1 : x ∈ l := by
          have h2 := of_decide_eq_true HY.out.2.symm
          rw [← h2]
          exact List.mem_of_getElem? HY.out.1
        rw [decide_eq_true h1]
        rfl
    · obtain rfl : k = n := by omega
      have t0 : decide ((k : Int) < (k : Int)) = false := decide_eq_false (by omega)
      have h1 : ¬ x ∈ l := fun hx => by
        obtain ⟨j, hj⟩ := List.getElem?_of_mem hx
        exact HNO.out j x (by have := (List.getElem?_eq_some_iff.1 hj).1; have := HL.out; omega) hj rfl
      have H1 := Lib.hid h1
      clear h1
      go_wp2
      go_ret
      exact ⟨by rw [decide_eq_false H1.out]; rfl, HB.out⟩
/-- At most seven threads. -/
def fewP (p : Pg) : Pg := if 7 < p.n then ⟨p.r, p.c, p.s, p.A, 7, p.cap⟩ else p
theorem fewP_ok {p : Pg} (hp : p.Ok) : (fewP p).Ok := by
  unfold fewP
  split
  · exact ⟨by have := hp.room; simp only; omega, hp.most⟩
  · exact hp
theorem under24 : Tryd.prog.underlying 24 = some (.slice (Tryd.prog.elem 24)) := by kernel_rfl
theorem size24 (w : World) : (sizeOf (Tryd.prog.elem 24)).run Tryd.prog w = .ok 1 w := by kernel_rfl
theorem cut7 (A : Option Addr) (n cap : Nat) (hc : 7 ≤ cap) (w : World) :
    (Instr.slice 24 (.slice A n cap) none (some (.int .i64 7)) none).run Tryd.prog w = .ok (.slice A 7 cap) w := by
  rw [run_slice_h w 24 A n cap under24 .i64 _ (by omega) (by omega), size24]
  have e3 : ¬ cap = 0 := by omega
  simp only [Result.andThen, sliced, show (7 : Int).toNat = 7 from rfl, if_neg e3, Nat.sub_zero, Nat.zero_mul]
  rcases A with _ | ad
  · rfl
  · simp [Addr.add]
set_option maxRecDepth 100000 in
set_option maxHeartbeats 2000000 in
theorem few_big (r c s : Int) (A : Option Addr) (n cap : Nat) (hn : n ≤ cap) (hm : cap ≤ maxLen) (h7 : 7 < n) (w : World) :
    Calls Tryd.prog 8 #[.agg #[.int .i64 r, .int .i64 c, .int .i64 s, .slice A n cap]] w fun e w' => e = .returned (.agg #[.int .i64 r, .int .i64 c, .int .i64 s, .slice A 7 cap]) ∧ Below w.heap.size w w' := by
  have hmi := len_i64 hn hm
  have hcut := cut7 A n cap (by omega)
  have t0 : decide ((7 : Int) < (n : Int)) = true := decide_eq_true (by omega)
  go_enter Tryd.func8, Tryd.ntmps8
  go_wp2
  refine bodyPost_ret (results_cell_row (cs := #[.int .i64 r, .int .i64 c, .int .i64 s, .slice A 7 cap]) rfl _ _ (w.heap.size + 1) 26 (0, 0) _ rfl (blk_new _ _ 26 _ (by simp)) Tryd.underlying26 rfl size26) rfl ?_
  exact ⟨rfl, ((Below.refl _ w).alloc (Nat.le_refl _) _).alloc (by simp) _⟩
set_option maxRecDepth 100000 in
set_option maxHeartbeats 2000000 in
theorem few_small (r c s : Int) (A : Option Addr) (n cap : Nat) (hn : n ≤ cap) (hm : cap ≤ maxLen) (h7 : n ≤ 7) (w : World) :
    Calls Tryd.prog 8 #[.agg #[.int .i64 r, .int .i64 c, .int .i64 s, .slice A n cap]] w fun e w' => e = .returned (.agg #[.int .i64 r, .int .i64 c, .int .i64 s, .slice A n cap]) ∧ Below w.heap.size w w' := by
  have hmi := len_i64 hn hm
  have t0 : decide ((7 : Int) < (n : Int)) = false := decide_eq_false (by omega)
  go_enter Tryd.func8, Tryd.ntmps8
  go_wp2
  refine bodyPost_ret (results_cell_row (cs := #[.int .i64 r, .int .i64 c, .int .i64 s, .slice A n cap]) rfl _ _ (w.heap.size + 1) 26 (0, 0) _ rfl (blk_new _ _ 26 _ (by simp)) Tryd.underlying26 rfl size26) rfl ?_
  exact ⟨rfl, ((Below.refl _ w).alloc (Nat.le_refl _) _).alloc (by simp) _⟩
theorem few_any (p : Pg) (hp : p.Ok) (w : World) : Calls Tryd.prog 8 #[.agg p.cs.toArray] w fun e w' => e = .returned (.agg (fewP p).cs.toArray) ∧ Below w.heap.size w w' := by
  obtain ⟨r, c, s, A, n, cap⟩ := p
  by_cases h : 7 < n
  · have e : fewP ⟨r, c, s, A, n, cap⟩ = ⟨r, c, s, A, 7, cap⟩ := if_pos h
    rw [e]
    exact few_big r c s A n cap hp.room hp.most h w
  · have e : fewP ⟨r, c, s, A, n, cap⟩ = ⟨r, c, s, A, n, cap⟩ := if_neg h
    rw [e]
    exact few_small r c s A n cap hp.room hp.most (by omega) w
end Go.Proofs.YtabnfiligbpocaaDoor
