/- The contract of prog's Clone. Conditions: at most 1000 threads, of each at most 1000 instructions. -/
import Derived.Test.YtcbekkbhhepeaaaDoorCopy
namespace Go.Proofs.YtcbekkbhhepeaaaDoor
open Go.RowKit

/-- Threads' code that a call has made anew, all of it: the list of lists below block B, each list from B on. -/
structure Own2 (w : World) (base : Nat) (A : Option Addr) (n cap : Nat) (xss : List (List Ins)) : Prop where
  len : xss.length = n
  ex : ∃ B vs, base ≤ B ∧ w.ownsRow base 46 1 (.slice A n cap) n vs ∧ (∀ g, (Value.slice A n cap).ownBlock = some g → g < B) ∧
    ∀ (i : Nat) (xs : List Ins), xss[i]? = some xs → ∃ A' n' cap', vs[i]? = some (.slice A' n' cap') ∧ w.ownsRow B 45 5 (.slice A' n' cap') n' (flat5 xs)
theorem Own2.mat {w : World} {base n cap : Nat} {A : Option Addr} {xss : List (List Ins)} (h : Own2 w base A n cap xss) : Mat w (From w base) A n cap xss := by
  obtain ⟨hl, B, vs, hB, ho, _, hall⟩ := h
  have hM : OwnM w base (From w base) (.slice A n cap) n xss := ⟨hl, vs, ho, fun i xs hx => by
    obtain ⟨A', n', cap', hv, hw⟩ := hall i xs hx
    obtain ⟨A2, cap2, e, hL⟩ := own_lst hw
    injection e with e1 e2 e3
    subst e1 e3
    exact ⟨A', n', cap', hv, hL.more fun g hg => ⟨Nat.le_trans hB hg.1, hg.2⟩⟩⟩
  obtain ⟨A2, cap2, e, hm⟩ := hM.mat
  injection e with e1 e2 e3
  subst e1 e3
  exact hm.more fun g hg => hg.elim id id

/-- Between two rounds of Clone: k threads are cloned. -/
structure Half (w : World) (S : Nat → Prop) (base B : Nat) (A : Option Addr) (n cap : Nat) (xss : List (List Ins)) (k : Nat) (wr : World) : Prop where
  len : xss.length = n
  size : B ≤ wr.heap.size
  low : ∀ g, (Value.slice A n cap).ownBlock = some g → g < B
  ex : ∃ vs, wr.ownsRow base 46 1 (.slice A n cap) n vs ∧ ∀ (i : Nat) (xs : List Ins), xss[i]? = some xs → ∃ A' n' cap', vs[i]? = some (.slice A' n' cap') ∧
    (i < k → wr.ownsRow B 45 5 (.slice A' n' cap') n' (flat5 xs)) ∧ (k ≤ i → Lst w S A' n' cap' xs)
theorem own_form {w : World} {base n cap sz : Nat} {e : TypeId} {A : Option Addr} {xs : List Value} (h : w.ownsRow base e sz (.slice A n cap) n xs) (hn : 0 < n) : ∃ g, A = some ⟨g, 0, none⟩ ∧ base ≤ g ∧ g < w.heap.size := by
  rcases h.2 with ⟨_, h0⟩ | ⟨g, cap', cur, e, hb, hg, _⟩
  · omega
  · injection e with e1 e2 e3
    exact ⟨g, e1, hb, (Array.getElem?_eq_some_iff.1 hg).1⟩
theorem Half.next {w : World} {S : Nat → Prop} {base B g n cap k : Nat} {xss : List (List Ins)} {wr w5 : World} {xs : List Ins} {A9 : Option Addr} {n9 cap9 : Nat} (h : Half w S base B (some ⟨g, 0, none⟩) n cap xss k wr) (hx : xss[k]? = some xs)
    (hb : Below wr.heap.size wr w5) (ho : w5.ownsRow wr.heap.size 45 5 (.slice A9 n9 cap9) n9 (flat5 xs)) : Half w S base B (some ⟨g, 0, none⟩) n cap xss (k + 1) (w5.setCell ⟨g, k, none⟩ (.slice A9 n9 cap9)) := by
  obtain ⟨hl, hs, hlow, vs, hown, hall⟩ := h
  have hgB : g < B := hlow g rfl
  obtain ⟨h1, _⟩ := (own_below hown hb).stored k (.slice A9 n9 cap9)
  have keep : ∀ {A' : Option Addr} {n' cap' : Nat} {ys : List Ins}, w5.ownsRow B 45 5 (.slice A' n' cap') n' (flat5 ys) → (w5.setCell ⟨g, k, none⟩ (.slice A9 n9 cap9)).ownsRow B 45 5 (.slice A' n' cap') n' (flat5 ys) := by
    intro A' n' cap' ys hy
    refine ⟨hy.1, ?_⟩
    rcases hy.2 with h2 | ⟨g', c', cur, e1, e2, h3, h4⟩
    · exact .inl h2
    · exact .inr ⟨g', c', cur, e1, e2, (heap_set w5 g k g' _ (by omega)).trans h3, h4⟩
  refine ⟨hl, by simp [World.setCell]; exact Nat.le_trans hs hb.size, hlow, _, h1, fun i ys hy => ?_⟩
  have hvl : vs.length = n := by have := hown.1; omega
  by_cases hik : i = k
  · subst hik
    obtain rfl := Option.some.inj (hx.symm.trans hy)
    have hin : i < vs.length := by rw [hvl, ← hl]; exact (List.getElem?_eq_some_iff.1 hx).1
    exact ⟨A9, n9, cap9, by rw [List.getElem?_set_self hin], fun _ => keep (own_mono5 ho hs), fun h => by omega⟩
  · obtain ⟨A', n', cap', hv, ha, hc⟩ := hall i ys hy
    exact ⟨A', n', cap', by rw [List.getElem?_set_ne (by omega)]; exact hv, fun h => keep (own_below (ha (by omega)) hb), fun h => hc (by omega)⟩
where own_mono5 {w5 : World} {b B : Nat} {v : Value} {m : Nat} {zs : List Value} (h : w5.ownsRow b 45 5 v m zs) (hb : B ≤ b) : w5.ownsRow B 45 5 v m zs := own_mono h hb

def CloneGives (r c s : Int) (xss : List (List Ins)) (w : World) (e : Ending) (w' : World) : Prop :=
  ∃ A n cap, e = .returned (.agg #[.int .i64 r, .int .i64 c, .int .i64 s, .slice A n cap]) ∧ Own2 w' w.heap.size A n cap xss ∧ Below w.heap.size w w'

set_option maxRecDepth 100000 in
set_option maxHeartbeats 2000000 in
theorem clone_prog {w : World} {S : Nat → Prop} {A : Option Addr} {n cap : Nat} {xss : List (List Ins)} (h : Mat w S A n cap xss) (hS : ∀ g, S g → g < w.heap.size) (r c s : Int) (hn : n ≤ 1000) (hall : ∀ xs ∈ xss, xs.length ≤ 1000) :
    Calls Tryd.prog 18 #[.agg #[.int .i64 r, .int .i64 c, .int .i64 s, .slice A n cap]] w (CloneGives r c s xss w) := by
  have hlen := Lib.hid h.len
  have HALL := Lib.hid hall
  clear hall
  obtain ⟨W0, eW0⟩ : ∃ W0, W0 = (w.alloc (.cells #[.int .i64 r, .int .i64 c, .int .i64 s, .slice A n cap] 24)).alloc (.cells #[.int .i64 0, .int .i64 0, .int .i64 0, .slice none 0 0] 24) := ⟨_, rfl⟩
  have b0 : Below w.heap.size w W0 := by rw [eW0]; exact ((Below.refl _ w).alloc (Nat.le_refl _) _).alloc (by simp) _
  have s0 : W0.heap.size = w.heap.size + 2 := by rw [eW0]; simp
  have p0 : Blk W0 w.heap.size 24 (prg r c s A n cap) := by rw [eW0]; exact Blk.below (heap_alloc_new w _) ((Below.refl _ _).alloc (Nat.le_refl _) _) (by simp)
  have p1 : Blk W0 (w.heap.size + 1) 24 (prg 0 0 0 none 0 0) := by rw [eW0]; exact heap_alloc2_new w _ _
  have h0 := h.below b0 hS
  have hSW : ∀ g, S g → g < W0.heap.size := fun g hg => Nat.lt_of_lt_of_le (hS g hg) b0.size
  have hC := clone_mat h0 hSW hn
  have z3 : W0.cell? ⟨w.heap.size, 3, none⟩ = some (.slice A n cap) := p0.cell 3
  clear h0
  go_enter Tryd.func18, Tryd.ntmps18
  go_wp2_with fail
  rw [← eW0]
  clear eW0
  go_wp2_with fail
  refine hC.mono ?_
  rintro e w1 ⟨A1, cap1, rfl, hO1, hb1⟩
  clear hC z3
  have P0 := p0.below hb1 p0.lt
  have P1 := p1.below hb1 p1.lt
  have f3 := P0.free 3
  have z3 : w1.cell? ⟨w.heap.size, 3, none⟩ = some (.slice A n cap) := P0.cell 3
  have Q0 : Blk (w1.setCell ⟨w.heap.size, 3, none⟩ (.slice A1 n cap1)) w.heap.size 24 (prg r c s A1 n cap1) := P0.set_ 3 _
  have Q1 : Blk (w1.setCell ⟨w.heap.size, 3, none⟩ (.slice A1 n cap1)) (w.heap.size + 1) 24 (prg 0 0 0 none 0 0) := (heap_set w1 w.heap.size 3 (w.heap.size + 1) _ (by omega)).trans P1
  have hbs1 := hb1.size
  have HH : Hid (Half w S W0.heap.size w1.heap.size A1 n cap1 xss 0 (w1.setCell ⟨w.heap.size, 3, none⟩ (.slice A1 n cap1))) := Lib.hid (by
    obtain ⟨hl, vs, ho, hv⟩ := hO1
    refine ⟨hl, by simp [World.setCell], fun g hg => (ho.lt g hg).2, vs, ?_, fun i xs hx => ?_⟩
    · refine ⟨ho.1, ?_⟩
      rcases ho.2 with h2 | ⟨g', c', cur, e1, e2, h3, h4⟩
      · exact .inl h2
      · exact .inr ⟨g', c', cur, e1, e2, (heap_set w1 w.heap.size 3 g' _ (by omega)).trans h3, h4⟩
    · obtain ⟨A', n', cap', hv', hL⟩ := hv i xs hx
      exact ⟨A', n', cap', hv', fun h => absurd h (Nat.not_lt_zero _), fun _ => hL.keep fun p hp => ((hb1.cell (hSW _ hp)).trans (b0.cell (hS _ hp))).symm⟩)
  have HB : Hid (Below w.heap.size w (w1.setCell ⟨w.heap.size, 3, none⟩ (.slice A1 n cap1))) := Lib.hid ((b0.trans (hb1.mono b0.size)).setCell (Nat.le_refl _) _)
  clear hO1 P0 P1
  go_wp2_with fail
  go_loopw [12] (fun i wr => ∃ k : Nat, i = .int .i64 k ∧ k ≤ n ∧ Half w S W0.heap.size w1.heap.size A1 n cap1 xss k wr ∧ Below w.heap.size w wr ∧ Blk wr w.heap.size 24 (prg r c s A1 n cap1) ∧ Blk wr (w.heap.size + 1) 24 (prg 0 0 0 none 0 0)) (fun i _ => n - (intOf i).toNat)
  case atStart => exact ⟨0, rfl, Nat.zero_le _, HH.out, HB.out, Q0, Q1⟩
  case round =>
    obtain ⟨k, rfl, hk, hH, hb, R0, R1⟩ := hrel
    clear HH HB Q0 Q1 z3 f3
    generalize wr = w4 at *
    by_cases hlt : k < n
    · obtain ⟨hl, hsz, hlow, vs, hown, hall⟩ := id hH
      have hx : xss[k]? = some (xss[k]'(by rw [hl]; exact hlt)) := List.getElem?_eq_getElem _
      generalize xss[k]'(by rw [hl]; exact hlt) = xs at hx
      obtain ⟨A', n', cap', hv, _, hc⟩ := hall k xs hx
      have hL := hc (Nat.le_refl _)
      obtain ⟨g, rfl, hg0, hg⟩ := own_form hown (by omega)
      have hcell : w4.cell? ⟨g, k, none⟩ = some (.slice A' n' cap') := (hown.cellAt k (by omega)).trans hv
      have hn' : n' ≤ 1000 := by rw [← hL.len]; exact HALL.out xs (List.mem_of_getElem? hx)
      have t0 : decide ((k : Int) < (n : Int)) = true := decide_eq_true (by omega)
      have i0 : (0 : Int) ≤ (k : Int) := by omega
      have i1 : (k : Int) < (n : Int) := by omega
      have r0 := Below.refl w4.heap.size w4
      have tz : ∀ W, Below w4.heap.size w4 W → W.cell? ⟨w.heap.size, 3, none⟩ = some (.slice (some ⟨g, 0, none⟩) n cap1) := fun W hW => (R0.below hW R0.lt).cell 3
      have hCl : ∀ W, Below w4.heap.size w4 W → Calls Tryd.prog 35 #[.slice A' n' cap'] W (Cloned n' xs W) := fun W hW => clone_ins (hL.keep fun p hp => ((hW.cell (Nat.lt_of_lt_of_le (hS _ hp) hb.size)).trans (hb.cell (hS _ hp)))) hn'
      have hTc : ∀ W, Below w4.heap.size w4 W → W.cell? ⟨g, k, none⟩ = some (.slice A' n' cap') := fun W hW => (hW.cell hg).trans hcell
      have hTf : ∀ W, Below w4.heap.size w4 W → W.frozen? ⟨g, k, none⟩ = false := fun W hW => (own_below hown hW).frozenAt k
      have HX := Lib.hid hx
      have gne : g ≠ w.heap.size := by omega
      clear hall hc hv hx hL hown hl
      go_wp2_with fail
      go_region_held3 (fun w' => w'.cell? ⟨w.heap.size, 3, none⟩ = some (.slice (some ⟨g, 0, none⟩) n cap1))
        (first
          | (exact tz _ r0.drew)
          | (exact tz _ hb9)
          | (exact m9))
        (first | (go_at_call 35; refine (hCl _ r0.drew).mono ?_; rintro e w5 ⟨A9, cap9, rfl, hown9, hb9'⟩; have hb9 := r0.drew.trans (hb9'.mono r0.drew.size); have e9 := hTc _ hb9; have f9 := hTf _ hb9; have m9 : (w5.setCell ⟨g, k, none⟩ (.slice A9 n' cap9)).cell? ⟨w.heap.size, 3, none⟩ = some (.slice (some ⟨g, 0, none⟩) n cap1) := (cell_same (heap_set w5 g k w.heap.size _ (Ne.symm gne)) 3).trans (tz _ hb9)))
      have hH2 := hH.next HX.out hb9 hown9
      have hb2 : Below w.heap.size w (w5.setCell ⟨g, k, none⟩ (.slice A9 n' cap9)) := (hb.trans (hb9.mono hb.size)).setCell (by show w.heap.size ≤ g; omega) _
      have R2 : Blk (w5.setCell ⟨g, k, none⟩ (.slice A9 n' cap9)) w.heap.size 24 (prg r c s (some ⟨g, 0, none⟩) n cap1) := (heap_set w5 g k w.heap.size _ (Ne.symm gne)).trans (R0.below hb9 R0.lt)
      have R3 : Blk (w5.setCell ⟨g, k, none⟩ (.slice A9 n' cap9)) (w.heap.size + 1) 24 (prg 0 0 0 none 0 0) := (heap_set w5 g k (w.heap.size + 1) _ (by omega)).trans (R1.below hb9 R1.lt)
      have HQ := Lib.hid (And.intro hH2 (And.intro hb2 (And.intro R2 R3)))
      clear hH2 hb2 R2 R3 tz hCl hTc hTf e9 f9 m9
      go_wp2
      go_roundw
      case rel => exact ⟨k + 1, by go_num, by omega, HQ.out.1, HQ.out.2.1, HQ.out.2.2.1, HQ.out.2.2.2⟩
      case measure => simp [intOf]; omega
    · have t0 : decide ((k : Int) < (n : Int)) = false := decide_eq_false (by omega)
      obtain rfl : k = n := by omega
      have x0 : w4.cell? ⟨w.heap.size, 0, none⟩ = some (.int .i64 r) := R0.cell 0
      have x1 : w4.cell? ⟨w.heap.size, 1, none⟩ = some (.int .i64 c) := R0.cell 1
      have x2 : w4.cell? ⟨w.heap.size, 2, none⟩ = some (.int .i64 s) := R0.cell 2
      have x3 : w4.cell? ⟨w.heap.size, 3, none⟩ = some (.slice A1 k cap1) := R0.cell 3
      have hfin : CloneGives r c s xss w (.returned (.agg (prg r c s A1 k cap1))) (w4.setRow (w.heap.size + 1) (prg r c s A1 k cap1)) := by
        refine ⟨A1, k, cap1, rfl, ?_, below_setRow hb (by omega) _⟩
        obtain ⟨hl, hsz, hlow, vs, hown, hall⟩ := hH
        have keep : ∀ {b sz m : Nat} {e : TypeId} {v : Value} {zs : List Value}, W0.heap.size ≤ b → w4.ownsRow b e sz v m zs → (w4.setRow (w.heap.size + 1) (prg r c s A1 k cap1)).ownsRow b e sz v m zs := by
          intro b sz m e v zs hb hy
          refine ⟨hy.1, ?_⟩
          rcases hy.2 with h2 | ⟨g', c', cur, e1, e2, h3, h4⟩
          · exact .inl h2
          · exact .inr ⟨g', c', cur, e1, e2, (setRow_other w4 (w.heap.size + 1) g' _ (by omega)).trans h3, h4⟩
        refine ⟨hl, w1.heap.size, vs, Nat.le_trans b0.size hbs1, own_mono (keep (Nat.le_refl _) hown) b0.size, hlow, fun i xs hx => ?_⟩
        obtain ⟨A', n', cap', hv, ha, _⟩ := hall i xs hx
        exact ⟨A', n', cap', hv, keep hbs1 (ha (by rw [← hl]; exact (List.getElem?_eq_some_iff.1 hx).1))⟩
      have HFIN := Lib.hid hfin
      clear hfin hH R0
      go_wp2_with (refine wpList_store_row rfl 24 (.tmp 2) (.tmp 24) rfl (w.heap.size + 1) (prg r c s A1 k cap1) rfl rfl 24 (prg 0 0 0 none 0 0) R1 info24 rfl (prg_one r c s A1 k cap1) ?_)
      refine bodyPost_ret (results_cell_row (cs := prg r c s A1 k cap1) rfl _ _ (w.heap.size + 1) 24 (0, 0) _ rfl (setRow_heap _ _ _ _ _ _ R1) Tryd.underlying24 rfl info24) rfl ?_
      exact HFIN.out
end Go.Proofs.YtcbekkbhhepeaaaDoor
