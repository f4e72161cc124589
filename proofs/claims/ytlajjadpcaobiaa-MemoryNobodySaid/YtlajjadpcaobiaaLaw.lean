/- A program of few threads; whether a place is one of its memory's; the word of a place behind some Puts: the plain answers. Conditions: lists have room. -/
import Derived.Test.YtlajjadpcaobiaaMClone
import Derived.Test.YtlajjadpcaobiaaRIs
namespace Go.Proofs.Ytlajjadpcaobiaa
open Go.RowKit Go.ChangeShapes Go.WideShapes

theorem under22 : Try.prog.underlying 22 = some (.slice (Try.prog.elem 22)) := by kernel_rfl
theorem sizeE22 (w : World) : (sizeOf (Try.prog.elem 22)).run Try.prog w = .ok 1 w := by kernel_rfl
theorem upto22 (A : Option Addr) (n cap k : Nat) (hk : k ≤ cap) (hA : A = none → cap = 0) (w : World) :
    (Instr.slice 22 (.slice A n cap) none (some (.int .i64 (k : Int))) none).run Try.prog w = .ok (.slice A k cap) w := by
  rw [run_slice_h w 22 _ n cap under22 .i64 _ (by omega) (by omega), sizeE22]
  simp only [Result.andThen, sliced, Int.toNat_natCast, Nat.sub_zero, Nat.zero_mul]
  rcases A with _ | ad
  · have := hA rfl
    subst this
    obtain rfl : k = 0 := by omega
    rfl
  · split <;> simp [Addr.add]
/-- A program of at most five threads. -/
def fewP (p : Pg) : Pg := if 5 < p.n then { p with n := 5 } else p
theorem fewP_ok {p : Pg} (h : p.Ok) : (fewP p).Ok := by
  unfold fewP
  split
  · exact ⟨by have := h.room; show 5 ≤ p.cap; omega, h.most⟩
  · exact h
theorem Pg.n63 {p : Pg} (h : p.Ok) : (p.n : Int) ≤ 9223372036854775807 := len_i64 h.room h.most
set_option maxRecDepth 100000 in
set_option maxHeartbeats 4000000 in
theorem few_any (p : Pg) (h : p.Ok) (hA : p.A = none → p.cap = 0) (w : World) : Calls Try.prog 8 #[.agg p.cs.toArray] w fun e w' => e = .returned (.agg (fewP p).cs.toArray) ∧ Below w.heap.size w w' := by
  have hn := Pg.n63 h
  have hr := h.room
  unfold fewP
  obtain ⟨p1, f1⟩ : ∃ p, w.heap.size = p := ⟨_, rfl⟩
  obtain ⟨W1, ea1⟩ : ∃ W, w.alloc (.cells p.cs.toArray 24) = W := ⟨_, rfl⟩
  have ka1 : Below w.heap.size w W1 := by rw [← ea1]; exact (Below.refl _ w).alloc (Nat.le_refl _) _
  have b1 : Blk W1 p1 24 p.cs.toArray := by rw [← ea1]; exact blk_new w _ 24 _ f1
  have kk : Below w.heap.size w W1 := ka1
  have hp1 : w.heap.size ≤ p1 := Nat.le_of_eq f1
  clear ka1
  obtain ⟨p2, f2⟩ : ∃ p, W1.heap.size = p := ⟨_, rfl⟩
  obtain ⟨W2, ea2⟩ : ∃ W, W1.alloc (.cells #[.int .i64 0, .int .i64 0, .int .i64 0, .slice none 0 0] 24) = W := ⟨_, rfl⟩
  have ka2 : Below W1.heap.size W1 W2 := by rw [← ea2]; exact (Below.refl _ W1).alloc (Nat.le_refl _) _
  have b2 : Blk W2 p2 24 #[.int .i64 0, .int .i64 0, .int .i64 0, .slice none 0 0] := by rw [← ea2]; exact blk_new W1 _ 24 _ f2
  have q1_2 : p1 < p2 := by rw [← f2]; exact b1.lt
  replace b1 := b1.on ka2
  have kk0 := kk
  replace kk := kk.trans (ka2.mono kk.size)
  have hp2 : w.heap.size ≤ p2 := by rw [← f2]; exact kk0.size
  clear ka2 kk0
  by_cases h5 : 5 < p.n
  · rw [if_pos h5]
    have t0 : decide ((5 : Int) < (p.n : Int)) = true := decide_eq_true (by omega)
    have c2_1_3 : W2.cell? ⟨p1, 3, none⟩ = some (.slice p.A p.n p.cap) := b1.cell 3
    have fr2_1_3 := b1.free 3
    have hcut : ∀ W, (Instr.slice 22 (.slice p.A p.n p.cap) none (some (.int .i64 5)) none).run Try.prog W = .ok (.slice p.A 5 p.cap) W := fun W => upto22 p.A p.n p.cap 5 (by omega) hA W
    obtain ⟨W3, es3⟩ : ∃ W, W2.setCell ⟨p1, 3, none⟩ (.slice p.A 5 p.cap) = W := ⟨_, rfl⟩
    replace b2 := set_far b2 es3 (by omega)
    replace b1 : Blk W3 p1 24 ({ p with n := 5 } : Pg).cs.toArray := set_named b1 es3 rfl
    replace kk := kk.trans (set_below es3 hp1 kk.size)
    have lb1 := b1
    obtain ⟨W4, es4⟩ : ∃ W, W3.setRow p2 ({ p with n := 5 } : Pg).cs.toArray = W := ⟨_, rfl⟩
    have bo2 := b2
    replace b1 := row_far b1 es4 (by omega)
    replace b2 : Blk W4 p2 24 ({ p with n := 5 } : Pg).cs.toArray := row_named b2 es4
    replace kk := kk.trans (row_below es4 hp2 kk.size)
    go_enter Try.func8, Try.ntmps8
    go_wp2_with (first | ((with_reducible refine at_load 24 (.tmp 1) ?_); refine wpList_load_row rfl 24 (.tmp 1) rfl p1 rfl 24 ({ p with n := 5 } : Pg).cs.toArray (0, 0) _ lb1 Try.underlying24 rfl size24 ?_) | ((with_reducible refine at_store 24 (.tmp 2) (.tmp 11) ?_); refine wpList_store_row rfl 24 (.tmp 2) (.tmp 11) rfl p2 ({ p with n := 5 } : Pg).cs.toArray rfl rfl 24 #[.int .i64 0, .int .i64 0, .int .i64 0, .slice none 0 0] bo2 size24 rfl (Pg.onea _) ?_; rw [es4]))
    refine bodyPost_ret (results_cell_row (cs := ({ p with n := 5 } : Pg).cs.toArray) rfl _ _ p2 24 (0, 0) _ rfl b2 Try.underlying24 rfl size24) rfl ?_
    exact ⟨rfl, kk⟩
  · rw [if_neg h5]
    have t0 : decide ((5 : Int) < (p.n : Int)) = false := decide_eq_false (by omega)
    have c2_1_3 : W2.cell? ⟨p1, 3, none⟩ = some (.slice p.A p.n p.cap) := b1.cell 3
    have fr2_1_3 := b1.free 3
    have lb1 := b1
    obtain ⟨W3, es3⟩ : ∃ W, W2.setRow p2 p.cs.toArray = W := ⟨_, rfl⟩
    have bo2 := b2
    replace b1 := row_far b1 es3 (by omega)
    replace b2 : Blk W3 p2 24 p.cs.toArray := row_named b2 es3
    replace kk := kk.trans (row_below es3 hp2 kk.size)
    go_enter Try.func8, Try.ntmps8
    go_wp2_with (first | ((with_reducible refine at_load 24 (.tmp 1) ?_); refine wpList_load_row rfl 24 (.tmp 1) rfl p1 rfl 24 p.cs.toArray (0, 0) _ lb1 Try.underlying24 rfl size24 ?_) | ((with_reducible refine at_store 24 (.tmp 2) (.tmp 11) ?_); refine wpList_store_row rfl 24 (.tmp 2) (.tmp 11) rfl p2 p.cs.toArray rfl rfl 24 #[.int .i64 0, .int .i64 0, .int .i64 0, .slice none 0 0] bo2 size24 rfl (Pg.onea _) ?_; rw [es3]))
    refine bodyPost_ret (results_cell_row (cs := p.cs.toArray) rfl _ _ p2 24 (0, 0) _ rfl b2 Try.underlying24 rfl size24) rfl ?_
    exact ⟨rfl, kk⟩
set_option maxRecDepth 100000 in
set_option maxHeartbeats 4000000 in
theorem there_any (p : Pg) (hp : p.Ok) (x : Pl) (w : World) : Calls Try.prog 25 #[.agg p.cs.toArray, .agg x.cs.toArray] w fun e w' => e = .returned (.bool (thereP p x)) ∧ Below w.heap.size w w' := by
  obtain ⟨p1, f1⟩ : ∃ p, w.heap.size = p := ⟨_, rfl⟩
  obtain ⟨W1, ea1⟩ : ∃ W, w.alloc (.cells p.cs.toArray 24) = W := ⟨_, rfl⟩
  have ka1 : Below w.heap.size w W1 := by rw [← ea1]; exact (Below.refl _ w).alloc (Nat.le_refl _) _
  have b1 : Blk W1 p1 24 p.cs.toArray := by rw [← ea1]; exact blk_new w _ 24 _ f1
  have kk : Below w.heap.size w W1 := ka1
  have hp1 : w.heap.size ≤ p1 := Nat.le_of_eq f1
  clear ka1
  obtain ⟨p2, f2⟩ : ∃ p, W1.heap.size = p := ⟨_, rfl⟩
  obtain ⟨W2, ea2⟩ : ∃ W, W1.alloc (.cells x.cs.toArray 27) = W := ⟨_, rfl⟩
  have ka2 : Below W1.heap.size W1 W2 := by rw [← ea2]; exact (Below.refl _ W1).alloc (Nat.le_refl _) _
  have b2 : Blk W2 p2 27 x.cs.toArray := by rw [← ea2]; exact blk_new W1 _ 27 _ f2
  have q1_2 : p1 < p2 := by rw [← f2]; exact b1.lt
  replace b1 := b1.on ka2
  have kk0 := kk
  replace kk := kk.trans (ka2.mono kk.size)
  have hp2 : w.heap.size ≤ p2 := by rw [← f2]; exact kk0.size
  clear ka2 kk0
  have c1 := ris_any x p hp W2
  have lb1 := b1
  have lb2 := b2
  obtain ⟨B, eB⟩ : ∃ B, thereP p x = B := ⟨_, rfl⟩
  rw [eB]
  unfold thereP at eB
  cases hh : isP x p with
  | false =>
    rw [hh] at c1 eB
    simp only [Bool.false_and] at eB
    subst eB
    clear hh
    go_enter Try.func25, Try.ntmps25
    go_wp2_with (first | (go_at_call 38; refine c1.mono ?_; rintro e w3 ⟨rfl, k3⟩; clear c1) | ((with_reducible refine at_load 24 (.tmp 2) ?_); refine wpList_load_row rfl 24 (.tmp 2) rfl p1 rfl 24 p.cs.toArray (0, 0) _ lb1 Try.underlying24 rfl size24 ?_) | ((with_reducible refine at_load 27 (.tmp 3) ?_); refine wpList_load_row rfl 27 (.tmp 3) rfl p2 rfl 27 x.cs.toArray (0, 0) _ lb2 Try.underlying27 rfl size27 ?_))
    go_ret
    exact ⟨rfl, kk.trans (k3.mono kk.size)⟩
  | true =>
    rw [hh] at c1 eB
    clear hh
    rw [Bool.true_and] at eB
    cases t2 : x.k == 2 with
    | true =>
      have t2' : (x.k != 2) = false := by unfold bne; rw [t2]; rfl
      rw [t2] at eB
      replace eB : false = B := by simpa using eB
      subst eB
      clear t2
      go_enter Try.func25, Try.ntmps25
      go_wp2_with (first | (go_at_call 38; refine c1.mono ?_; rintro e w3 ⟨rfl, k3⟩; clear c1; have y0 : w3.cell? ⟨p2, 0, none⟩ = some (.int .i64 x.k) := (b2.on k3).cell 0) | ((with_reducible refine at_load 24 (.tmp 2) ?_); refine wpList_load_row rfl 24 (.tmp 2) rfl p1 rfl 24 p.cs.toArray (0, 0) _ lb1 Try.underlying24 rfl size24 ?_) | ((with_reducible refine at_load 27 (.tmp 3) ?_); refine wpList_load_row rfl 27 (.tmp 3) rfl p2 rfl 27 x.cs.toArray (0, 0) _ lb2 Try.underlying27 rfl size27 ?_))
      go_ret
      exact ⟨rfl, kk.trans (k3.mono kk.size)⟩
    | false =>
      have t2' : (x.k != 2) = true := by unfold bne; rw [t2]; rfl
      rw [t2] at eB
      clear t2
      cases t3 : x.k == 3 with
      | true =>
        have t3' : (x.k != 3) = false := by unfold bne; rw [t3]; rfl
        rw [t3] at eB
        replace eB : false = B := by simpa using eB
        subst eB
        clear t3
        go_enter Try.func25, Try.ntmps25
        go_wp2_with (first | (go_at_call 38; refine c1.mono ?_; rintro e w3 ⟨rfl, k3⟩; clear c1; have y0 : w3.cell? ⟨p2, 0, none⟩ = some (.int .i64 x.k) := (b2.on k3).cell 0) | ((with_reducible refine at_load 24 (.tmp 2) ?_); refine wpList_load_row rfl 24 (.tmp 2) rfl p1 rfl 24 p.cs.toArray (0, 0) _ lb1 Try.underlying24 rfl size24 ?_) | ((with_reducible refine at_load 27 (.tmp 3) ?_); refine wpList_load_row rfl 27 (.tmp 3) rfl p2 rfl 27 x.cs.toArray (0, 0) _ lb2 Try.underlying27 rfl size27 ?_))
        go_ret
        exact ⟨rfl, kk.trans (k3.mono kk.size)⟩
      | false =>
        have t3' : (x.k != 3) = true := by unfold bne; rw [t3]; rfl
        rw [t3] at eB
        clear t3
        replace eB : (x.k != 4) = B := by rw [← eB]; rfl
        go_enter Try.func25, Try.ntmps25
        go_wp2_with (first | (go_at_call 38; refine c1.mono ?_; rintro e w3 ⟨rfl, k3⟩; clear c1; have y0 : w3.cell? ⟨p2, 0, none⟩ = some (.int .i64 x.k) := (b2.on k3).cell 0) | ((with_reducible refine at_load 24 (.tmp 2) ?_); refine wpList_load_row rfl 24 (.tmp 2) rfl p1 rfl 24 p.cs.toArray (0, 0) _ lb1 Try.underlying24 rfl size24 ?_) | ((with_reducible refine at_load 27 (.tmp 3) ?_); refine wpList_load_row rfl 27 (.tmp 3) rfl p2 rfl 27 x.cs.toArray (0, 0) _ lb2 Try.underlying27 rfl size27 ?_))
        go_ret
        exact ⟨by rw [← eB]; rfl, kk.trans (k3.mono kk.size)⟩
theorem cell_lt {w : World} {g i : Nat} {v : Value} (h : w.cell? ⟨g, i, none⟩ = some v) : g < w.heap.size := by
  rcases Nat.lt_or_ge g w.heap.size with h1 | h1
  · exact h1
  · simp [World.cell?, Array.getElem?_eq_none h1] at h
theorem range_kept {w W : World} {g o : Nat} {vs : List Value} (h : w.rangeAt g o vs) (hk : Kept (fun _ => False) w W) : W.rangeAt g o vs := fun j v hv => by
  have h1 := h j v hv
  exact (World.cell?_of_block (w := w) (hk.block g (cell_lt h1) (fun h => h))).trans h1
theorem last_next (L : List Ch) (x : Pl) {k : Nat} {e : Ch} (hx : L[k]? = some e) : lastW (L.take (k + 1)) x = if e.x = x then e.v else lastW (L.take k) x := by
  rw [List.take_add_one, hx]
  exact last_snoc _ _ _
set_option maxRecDepth 100000 in
set_option maxHeartbeats 4000000 in
theorem at_any {w : World} {A : Option Addr} {n cap : Nat} {L : List Ch} (h : SeesC w A n cap L) (x : Pl) (hn : n ≤ 1000000) : Calls Try.prog 26 #[.slice A n cap, .agg x.cs.toArray] w fun e w' => e = .returned (.agg (atP L x).cs.toArray) ∧ Below w.heap.size w w' := by
  obtain ⟨p1, f1⟩ : ∃ p, w.heap.size = p := ⟨_, rfl⟩
  obtain ⟨W1, ea1⟩ : ∃ W, w.alloc (.cells x.cs.toArray 27) = W := ⟨_, rfl⟩
  have ka1 : Below w.heap.size w W1 := by rw [← ea1]; exact (Below.refl _ w).alloc (Nat.le_refl _) _
  have b1 : Blk W1 p1 27 x.cs.toArray := by rw [← ea1]; exact blk_new w _ 27 _ f1
  have kk : Below w.heap.size w W1 := ka1
  have hp1 : w.heap.size ≤ p1 := Nat.le_of_eq f1
  clear ka1
  obtain ⟨p2, f2⟩ : ∃ p, W1.heap.size = p := ⟨_, rfl⟩
  obtain ⟨W2, ea2⟩ : ∃ W, W1.alloc (.cells #[.int .i64 0, .int .i64 0, .int .i64 0] 35) = W := ⟨_, rfl⟩
  have ka2 : Below W1.heap.size W1 W2 := by rw [← ea2]; exact (Below.refl _ W1).alloc (Nat.le_refl _) _
  have b2 : Blk W2 p2 35 #[.int .i64 0, .int .i64 0, .int .i64 0] := by rw [← ea2]; exact blk_new W1 _ 35 _ f2
  have q1_2 : p1 < p2 := by rw [← f2]; exact b1.lt
  replace b1 := b1.on ka2
  have kk0 := kk
  replace kk := kk.trans (ka2.mono kk.size)
  have hp2 : w.heap.size ≤ p2 := by rw [← f2]; exact kk0.size
  clear ka2 kk0
  obtain ⟨p3, f3⟩ : ∃ p, W2.heap.size = p := ⟨_, rfl⟩
  obtain ⟨W3, ea3⟩ : ∃ W, W2.alloc (.cells #[.int .i64 0, .int .i64 0, .int .i64 0] 35) = W := ⟨_, rfl⟩
  have ka3 : Below W2.heap.size W2 W3 := by rw [← ea3]; exact (Below.refl _ W2).alloc (Nat.le_refl _) _
  have b3 : Blk W3 p3 35 #[.int .i64 0, .int .i64 0, .int .i64 0] := by rw [← ea3]; exact blk_new W2 _ 35 _ f3
  have q1_3 : p1 < p3 := by rw [← f3]; exact b1.lt
  replace b1 := b1.on ka3
  have q2_3 : p2 < p3 := by rw [← f3]; exact b2.lt
  replace b2 := b2.on ka3
  have kk0 := kk
  replace kk := kk.trans (ka3.mono kk.size)
  have hp3 : w.heap.size ≤ p3 := by rw [← f3]; exact kk0.size
  clear ka3 kk0
  obtain ⟨W4, es4⟩ : ∃ W, W3.setRow p3 noW.cs.toArray = W := ⟨_, rfl⟩
  have bo3 := b3
  replace b1 := row_far b1 es4 (by omega)
  replace b2 := row_far b2 es4 (by omega)
  replace b3 : Blk W4 p3 35 noW.cs.toArray := row_named b3 es4
  replace kk := kk.trans (row_below es4 hp3 kk.size)
  have hl := h.len
  have hne : ∀ g, holds A n g → g ≠ p3 := fun g hg => by have := h.lt g hg; omega
  replace h : SeesC W4 A n cap L := h.on kk
  have HQ := Lib.hid (And.intro h hl)
  clear hl h
  go_enter Try.func26, Try.ntmps26
  go_wp2_with (((with_reducible refine at_store 35 (.tmp 5) (.tmp 7) ?_); refine wpList_store_row rfl 35 (.tmp 5) (.tmp 7) rfl p3 noW.cs.toArray rfl rfl 35 #[.int .i64 0, .int .i64 0, .int .i64 0] bo3 size35 rfl (Wd.onea _) ?_; rw [es4]))
  have h4 := kk.size
  generalize hW4 : W4 = WW at *
  clear hW4
  go_loopw [6] (fun i wr => ∃ k : Nat, k ≤ n ∧ i = .int .i64 (k : Int) ∧ Blk wr p1 27 x.cs.toArray ∧ Blk wr p2 35 #[.int .i64 0, .int .i64 0, .int .i64 0] ∧ Blk wr p3 35 (lastW (L.take k) x).cs.toArray ∧ SeesC wr A n cap L ∧ (∀ g, holds A n g → g ≠ p3) ∧ Below w.heap.size w wr) (fun i _ => n - (intOf i).toNat)
  case atStart => exact ⟨0, Nat.zero_le _, rfl, b1, b2, b3, HQ.out.1, hne, kk⟩
  case round =>
    clear b1 b2 b3 kk
    obtain ⟨k, hk, rfl, b1, b2, b3, hS, hne, kk⟩ := hrel
    by_cases hlt : k < n
    · obtain ⟨e, hx⟩ : ∃ e, L[k]? = some e := ⟨_, List.getElem?_eq_getElem (by have := HQ.out.2; omega)⟩
      obtain ⟨g, o, eA, hr⟩ := hS.at_ hx
      have hnx := last_next L x hx
      subst eA
      have hg3 : g ≠ p3 := hne g ⟨by omega, rfl⟩
      have hrX : wr.rangeAt g (o + k * 6) e.x.cs := fun j v hv => hr j v (by
        have hj := (List.getElem?_eq_some_iff.1 hv).1
        rw [Pl.len] at hj
        rw [← hv]
        obtain rfl | rfl | rfl : j = 0 ∨ j = 1 ∨ j = 2 := by omega
        all_goals rfl)
      have hrV : wr.rangeAt g (o + k * 6 + 3) e.v.cs := fun j v hv => by
        have hj := (List.getElem?_eq_some_iff.1 hv).1
        rw [Wd.len] at hj
        have := hr (3 + j) v (by
          rw [← hv]
          obtain rfl | rfl | rfl : j = 0 ∨ j = 1 ∨ j = 2 := by omega
          all_goals rfl)
        rw [← Nat.add_assoc] at this
        exact this
      have hkI : (k : Int) < (n : Int) := by omega
      have hk0 : (0 : Int) ≤ (k : Int) := by omega
      have hn63 : (n : Int) ≤ 9223372036854775807 := by omega
      obtain ⟨B, eB⟩ : ∃ B, decide (e.x = x) = B := ⟨_, rfl⟩
      have heq := fun W => eq27 e.x x W
      rw [eB] at heq
      have HX := Lib.hid hx
      clear hx hr
      replace hnx : lastW (L.take (k + 1)) x = if B = true then e.v else lastW (L.take k) x := by
        rw [hnx, ← eB]
        by_cases h : e.x = x <;> simp [h]
      clear eB
      have HN := Lib.hid hnx
      clear hnx
      generalize lastW (L.take k) x = U at *
      go_wp2_with fail
      have hd0 : Below wr.heap.size wr wr.drew := (Below.refl _ _).drew
      have hrX2 : wr.drew.rangeAt g (o + k * 6) e.x.cs := hrX
      have hrV2 : wr.drew.rangeAt g (o + k * 6 + 3) e.v.cs := hrV
      clear hrX hrV hd0
      obtain ⟨wd, ed⟩ : ∃ W, wr.drew = W := ⟨_, rfl⟩
      have hd : Below wr.heap.size wr wd := by rw [← ed]; exact (Below.refl _ _).drew
      rw [ed] at hrX2 hrV2
      replace b1 := b1.on hd
      replace b2 := b2.on hd
      replace b3 := b3.on hd
      replace hS := hS.on hd
      replace kk := kk.trans (hd.mono kk.size)
      clear hd
      have kS : Kept (fun g => False) wd wd := Kept.refl _ _
      refine wp_region_noPanic ?_
      refine wp_region_held_drew (S := (fun W => Kept (fun g => False) wd W)) (by kernel_rfl) (by rw [ed]; exact kS) (fun hHeld => ?_)
      rw [ed] at hHeld ⊢
      refine wpAnyH_take (i := 0) (oi := ⟨some 14, _, _, _, _, _⟩) (v := ?_) rfl (by kernel_rfl) (by kernel_rfl) (by kernel_rfl) (fun _ _ _ h => h) (Or.inl ⟨by rfl, ?_⟩) (by assumption) ?_
      rotate_left 1
      · (intro W hSw; go_simp <;> with_reducible rfl)
      try simp only [Act.put, List.setIfInBounds_toArray, List.set_cons_zero, List.set_cons_succ]
      refine wpAnyH_take (i := 1) (oi := ⟨some 15, _, _, _, _, _⟩) (v := ?_) rfl (by kernel_rfl) (by kernel_rfl) (by kernel_rfl) (fun _ _ _ h => h) (Or.inl ⟨by rfl, ?_⟩) (by assumption) ?_
      rotate_left 1
      · (intro W hSw; go_simp <;> with_reducible rfl)
      try simp only [Act.put, List.setIfInBounds_toArray, List.set_cons_zero, List.set_cons_succ]
      refine wpAnyH_take (i := 2) (oi := ⟨some 16, _, _, _, _, _⟩) (v := ?_) rfl (by kernel_rfl) (by kernel_rfl) (by kernel_rfl) (fun _ _ _ h => h) (Or.inl ⟨by rfl, ?_⟩) (by assumption) ?_
      rotate_left 1
      · (intro W hSw; go_simp <;> with_reducible rfl)
      try simp only [Act.put, List.setIfInBounds_toArray, List.set_cons_zero, List.set_cons_succ]
      refine wpAnyH_take (i := 3) (oi := ⟨some 17, _, _, _, _, _⟩) (v := ?_) rfl (by kernel_rfl) (by kernel_rfl) (by kernel_rfl) (fun _ _ _ h => h) (Or.inl ⟨by rfl, ?_⟩) (by assumption) ?_
      rotate_left 1
      · (intro W hSw; go_simp <;> with_reducible rfl)
      try simp only [Act.put, List.setIfInBounds_toArray, List.set_cons_zero, List.set_cons_succ]
      refine wpAnyH_take (i := 4) (oi := ⟨some 18, _, _, _, _, _⟩) (v := .agg (List.toArray (e.x.cs))) rfl (by kernel_rfl) (by kernel_rfl) (by kernel_rfl) (fun _ _ _ h => h) (yieldsIf_load_mid (by rfl) 27 (.tmp 17) rfl g (o + k * 6) rfl (e.x.cs) _ (fun W hW => range_kept hrX2 hW) Try.underlying27 rfl size27) (by assumption) ?_
      try simp only [Act.put, List.setIfInBounds_toArray, List.set_cons_zero, List.set_cons_succ]
      refine wpAnyH_take (i := 5) (oi := ⟨some 19, _, _, _, _, _⟩) (v := .agg (List.toArray (x.cs))) rfl (by kernel_rfl) (by kernel_rfl) (by kernel_rfl) (fun _ _ _ h => h) (yieldsIf_load_mid (by rfl) 27 (.tmp 3) rfl p1 (0) rfl (x.cs) _ (fun W hW => range_part (b1.kept hW (fun h => h)) 0 x.cs rfl) Try.underlying27 rfl size27) (by assumption) ?_
      try simp only [Act.put, List.setIfInBounds_toArray, List.set_cons_zero, List.set_cons_succ]
      refine wpAnyH_take (i := 6) (oi := ⟨some 20, _, _, _, _, _⟩) (v := ?_) rfl (by kernel_rfl) (by kernel_rfl) (by kernel_rfl) (fun _ _ _ h => h) (Or.inl ⟨by rfl, ?_⟩) (by assumption) ?_
      rotate_left 1
      · (intro W hSw; go_simp <;> with_reducible rfl)
      try simp only [Act.put, List.setIfInBounds_toArray, List.set_cons_zero, List.set_cons_succ]
      refine wpAnyH_done (by kernel_rfl) ?_ _
      refine NoPanic.normal ?_
      clear kS hHeld
      have hrV := hrV2
      cases B with
      | false =>
        go_wp2
        go_roundw
        case rel => exact ⟨k + 1, by omega, by go_num, b1, b2, by rw [HN.out]; exact b3, hS, hne, kk⟩
        case measure => simp [intOf]; omega
      | true =>
        obtain ⟨W7, es7⟩ : ∃ W, wd.setRow p3 e.v.cs.toArray = W := ⟨_, rfl⟩
        have bo3 := b3
        replace b1 := row_far b1 es7 (by omega)
        replace b2 := row_far b2 es7 (by omega)
        replace b3 : Blk W7 p3 35 e.v.cs.toArray := row_named b3 es7
        replace kk := kk.trans (row_below es7 hp3 kk.size)
        go_wp2_with (first | (refine wpList_load_mid rfl 35 (.tmp 24) rfl g (o + k * 6 + 3) rfl e.v.cs _ hrV Try.underlying35 rfl size35 ?_) | ((with_reducible refine at_store 35 (.tmp 5) (.tmp 25) ?_); refine wpList_store_row rfl 35 (.tmp 5) (.tmp 25) rfl p3 e.v.cs.toArray rfl rfl 35 U.cs.toArray bo3 size35 rfl (Wd.onea _) ?_; rw [es7]))
        replace hS : SeesC W7 (some ⟨g, o, none⟩) n cap L := Sees.kept hS (by rw [← es7]; exact kept_row _ _ _) (fun g1 h1 e => hne g1 h1 e)
        go_roundw
        case rel => exact ⟨k + 1, by omega, by go_num, b1, b2, by rw [HN.out]; exact b3, hS, hne, kk⟩
        case measure => simp [intOf]; omega
    · obtain rfl : k = n := by omega
      have et : L.take k = L := by rw [← HQ.out.2, List.take_length]
      rw [et] at b3
      have eV : atP L x = if 6 ≤ x.k then ⟨(lastW L x).n, 0, 0⟩ else lastW L x := rfl
      generalize lastW L x = U at *
      clear et hS hne
      have hn63 : (k : Int) ≤ 9223372036854775807 := by omega
      have x0 : wr.cell? ⟨p1, 0, none⟩ = some (.int .i64 x.k) := b1.cell 0
      by_cases h6 : 6 ≤ x.k
      · rw [if_pos h6] at eV
        have t6 : decide (6 ≤ x.k) = true := decide_eq_true h6
        have u0 : wr.cell? ⟨p3, 0, none⟩ = some (.int .i64 U.n) := b3.cell 0
        obtain ⟨W7, es7⟩ : ∃ W, wr.setRow p3 (Wd.mk U.n 0 0).cs.toArray = W := ⟨_, rfl⟩
        have bo3 := b3
        replace b1 := row_far b1 es7 (by omega)
        replace b2 := row_far b2 es7 (by omega)
        replace b3 : Blk W7 p3 35 (Wd.mk U.n 0 0).cs.toArray := row_named b3 es7
        replace kk := kk.trans (row_below es7 hp3 kk.size)
        have lb3 := b3
        obtain ⟨W8, es8⟩ : ∃ W, W7.setRow p2 (Wd.mk U.n 0 0).cs.toArray = W := ⟨_, rfl⟩
        have bo2 := b2
        replace b1 := row_far b1 es8 (by omega)
        replace b3 := row_far b3 es8 (by omega)
        replace b2 : Blk W8 p2 35 (Wd.mk U.n 0 0).cs.toArray := row_named b2 es8
        replace kk := kk.trans (row_below es8 hp2 kk.size)
        go_wp2_with (first | ((with_reducible refine at_store 35 (.tmp 5) (.tmp 31) ?_); refine wpList_store_row rfl 35 (.tmp 5) (.tmp 31) rfl p3 (Wd.mk U.n 0 0).cs.toArray rfl rfl 35 U.cs.toArray bo3 size35 rfl (Wd.onea _) ?_; rw [es7]) | ((with_reducible refine at_load 35 (.tmp 5) ?_); refine wpList_load_row rfl 35 (.tmp 5) rfl p3 rfl 35 (Wd.mk U.n 0 0).cs.toArray (0, 0) _ lb3 Try.underlying35 rfl size35 ?_) | ((with_reducible refine at_store 35 (.tmp 4) (.tmp 32) ?_); refine wpList_store_row rfl 35 (.tmp 4) (.tmp 32) rfl p2 (Wd.mk U.n 0 0).cs.toArray rfl rfl 35 #[.int .i64 0, .int .i64 0, .int .i64 0] bo2 size35 rfl (Wd.onea _) ?_; rw [es8]))
        refine bodyPost_ret (results_cell_row (cs := (Wd.mk U.n 0 0).cs.toArray) rfl _ _ p2 35 (0, 0) _ rfl b2 Try.underlying35 rfl size35) rfl ?_
        exact ⟨by rw [eV], kk⟩
      · rw [if_neg h6] at eV
        have t6 : decide (6 ≤ x.k) = false := decide_eq_false h6
        have HV := Lib.hid eV
        clear eV f1
        have lb3 := b3
        obtain ⟨W7, es7⟩ : ∃ W, wr.setRow p2 U.cs.toArray = W := ⟨_, rfl⟩
        have bo2 := b2
        replace b1 := row_far b1 es7 (by omega)
        replace b3 := row_far b3 es7 (by omega)
        replace b2 : Blk W7 p2 35 U.cs.toArray := row_named b2 es7
        replace kk := kk.trans (row_below es7 hp2 kk.size)
        go_wp2_with (first | ((with_reducible refine at_load 35 (.tmp 5) ?_); refine wpList_load_row rfl 35 (.tmp 5) rfl p3 rfl 35 U.cs.toArray (0, 0) _ lb3 Try.underlying35 rfl size35 ?_) | ((with_reducible refine at_store 35 (.tmp 4) (.tmp 32) ?_); refine wpList_store_row rfl 35 (.tmp 4) (.tmp 32) rfl p2 U.cs.toArray rfl rfl 35 #[.int .i64 0, .int .i64 0, .int .i64 0] bo2 size35 rfl (Wd.onea _) ?_; rw [es7]))
        refine bodyPost_ret (results_cell_row (cs := U.cs.toArray) rfl _ _ p2 35 (0, 0) _ rfl b2 Try.underlying35 rfl size35) rfl ?_
        exact ⟨by rw [HV.out], kk⟩
end Go.Proofs.Ytlajjadpcaobiaa
