/- The contract of the law's Few: at most six threads, of each at most twenty instructions. Conditions: none. -/
import Derived.Test.YtodklfjoeehinaaDoorOwn
namespace Go.Proofs.YtodklfjoeehinaaDoor
open Go.RowKit

def few (xss : List (List Ins)) : List (List Ins) := (xss.take 6).map (·.take 20)
def few1 (k : Nat) (xss : List (List Ins)) : List (List Ins) := (xss.take k).map (·.take 20)
theorem few1_snoc {k : Nat} {xss : List (List Ins)} {xs : List Ins} (h : xss[k]? = some xs) : few1 (k + 1) xss = few1 k xss ++ [xs.take 20] := by
  rw [few1, take_snoc h, List.map_append]
  rfl
theorem OwnM.snoc {w w' : World} {base n : Nat} {S : Nat → Prop} {v' : Value} {xss : List (List Ins)} {xs : List Ins} {vs : List Value} {A' : Option Addr} {n' cap' : Nat} (hl : xss.length = n)
    (hall : ∀ (i : Nat) (xs : List Ins), xss[i]? = some xs → ∃ A' n' cap', vs[i]? = some (.slice A' n' cap') ∧ Lst w S A' n' cap' xs) (hlv : vs.length = n)
    (hk : ∀ p : Addr, S p.block → w'.cell? p = w.cell? p) (ho : w'.ownsRow base 50 1 v' (n + 1) (vs ++ [.slice A' n' cap'])) (hL : Lst w' S A' n' cap' xs) : OwnM w' base S v' (n + 1) (xss ++ [xs]) := by
  refine ⟨by rw [List.length_append, hl]; rfl, _, ho, fun i ys hy => ?_⟩
  rcases Nat.lt_or_ge i n with hi | hi
  · rw [List.getElem?_append_left (by omega)] at hy
    obtain ⟨B, m, c, hv, hB⟩ := hall i ys hy
    exact ⟨B, m, c, by rw [List.getElem?_append_left (by omega)]; exact hv, hB.keep hk⟩
  · have hi2 : i = n := by
      have := (List.getElem?_eq_some_iff.1 hy).1
      rw [List.length_append, hl] at this
      simp at this
      omega
    subst hi2
    rw [← hl, List.getElem?_concat_length] at hy
    injection hy with hy
    subst hy
    exact ⟨A', n', cap', by rw [← hlv, List.getElem?_concat_length], hL⟩

theorem cell_blk {w w' : World} (p : Addr) (h : w'.heap[p.block]? = w.heap[p.block]?) : w'.cell? p = w.cell? p := by
  unfold World.cell?
  simp only [h]

def Fews (S : Nat → Prop) (r c s : Int) (xss : List (List Ins)) (w : World) (e : Ending) (w' : World) : Prop :=
  ∃ A n cap, e = .returned (.agg #[.int .i64 r, .int .i64 c, .int .i64 s, .slice A n cap]) ∧ Mat w' (fun g => S g ∨ From w' w.heap.size g) A n cap xss ∧ Below w.heap.size w w'
theorem info24 : (Tryd.prog.info? 32).map (·.size) = some 4 := by kernel_rfl
theorem prg_one (r c s : Int) (A : Option Addr) (n cap : Nat) : (prg r c s A n cap).all (·.oneCell') = true := by simp [prg, Value.oneCell']

set_option maxRecDepth 100000 in
set_option maxHeartbeats 2000000 in
theorem few_any {w : World} {S : Nat → Prop} {A : Option Addr} {n cap : Nat} {xss : List (List Ins)} (h : Mat w S A n cap xss) (hS : ∀ g, S g → g < w.heap.size) (r c s : Int) :
    Calls Tryd.prog 10 #[.agg #[.int .i64 r, .int .i64 c, .int .i64 s, .slice A n cap]] w (Fews S r c s (few xss) w) := by
  obtain ⟨i0, hi0, hz0, hz1, hz2⟩ := info_parts info46
  have Z0 := Lib.hid hz0
  have Z1 := Lib.hid hz1
  have Z2 := Lib.hid hz2
  have I0 := Lib.hid hi0
  clear hz0 hz1 hz2 hi0
  have hm := len_i64 h.room h.most
  have hlen := Lib.hid h.len
  obtain ⟨W0, eW0⟩ : ∃ W0, W0 = (w.alloc (.cells #[.int .i64 r, .int .i64 c, .int .i64 s, .slice A n cap] 32)).alloc (.cells #[.int .i64 0, .int .i64 0, .int .i64 0, .slice none 0 0] 32) := ⟨_, rfl⟩
  have b0 : Below w.heap.size w W0 := by rw [eW0]; exact ((Below.refl _ w).alloc (Nat.le_refl _) _).alloc (by simp) _
  have s0 : W0.heap.size = w.heap.size + 2 := by rw [eW0]; simp
  have p0 : Blk W0 w.heap.size 32 (prg r c s A n cap) := by rw [eW0]; exact Blk.below (heap_alloc_new w _) ((Below.refl _ _).alloc (Nat.le_refl _) _) (by simp)
  have p1 : Blk W0 (w.heap.size + 1) 32 (prg 0 0 0 none 0 0) := by rw [eW0]; exact heap_alloc2_new w _ _
  have h0 := h.below b0 hS
  have hSW : ∀ g, S g → g < W0.heap.size := fun g hg => Nat.lt_of_lt_of_le (hS g hg) b0.size
  have z3 : W0.cell? ⟨w.heap.size, 3, none⟩ = some (.slice A n cap) := p0.cell 3
  go_enter Tryd.func10, Tryd.ntmps10
  go_wp2_with fail
  rw [← eW0]
  clear eW0
  go_wp2_with fail
  go_loopw [3, 4] (fun v i wr => ∃ k : Nat, i = .int .i64 k ∧ k ≤ n ∧ k ≤ 6 ∧ OwnM wr W0.heap.size S v k (few1 k xss) ∧ Below W0.heap.size W0 wr) (fun _ i _ => n - (intOf i).toNat)
  case atStart => exact ⟨0, rfl, Nat.zero_le _, Nat.zero_le _, OwnM.nil _ _ _, Below.refl _ _⟩
  case round =>
    obtain ⟨k, rfl, hk, hk6, hown, hb⟩ := hrel
    clear z3
    have z3 : wr.cell? ⟨w.heap.size, 3, none⟩ = some (.slice A n cap) := (hb.cell p0.lt).trans (p0.cell 3)
    by_cases hlt : k < n ∧ k < 6
    · obtain ⟨hlt, hl6⟩ := hlt
      have h3 := h0.below hb hSW
      obtain ⟨g, off, A1, n1, c1, xs, rfl, hg, hx, hc, hl⟩ := h3.at_ k hlt
      have t0 : decide ((k : Int) < (n : Int)) = true := decide_eq_true (by omega)
      have t1 : decide ((k : Int) < 6) = true := decide_eq_true (by omega)
      have j0 : (0 : Int) ≤ (k : Int) := by omega
      have j1 : (k : Int) < (n : Int) := by omega
      have hm1 := len_i64 hl.room hl.most
      have HF := Lib.hid (few1_snoc hx)
      have hbs := hb.size
      obtain ⟨hlv, vs, ho, hall⟩ := hown
      have HO := Lib.hid (And.intro hlv (And.intro ho hall))
      have hvs : vs.length = k := by have := ho.1; omega
      clear hlv ho hall h3 hx
      by_cases h20 : 20 < n1
      · have t2 : decide ((20 : Int) < (n1 : Int)) = true := decide_eq_true (by omega)
        have hcut := cutI A1 n1 c1 (by have := hl.room; omega)
        have HL := Lib.hid (hl.front (k := 20) (by omega))
        clear hl
        go_wp2_with (first
          | (at_builtin; refine wpList_append_own _ rfl (.tmp 27) (.tmp 29) 30 rfl W0.heap.size 50 i0 (.slice none 0 0) 1 24 Tryd.underlying30 I0.out Z0.out Z1.out Z2.out rfl (by decide) _ k vs rfl (HO.out.2.1.alloc _) ⟨wr.heap.size, 0, none⟩ 1 1 [.slice A1 20 c1] rfl rfl (cell_one_new _ _ _) (by simp [Value.oneCell']) (by unfold maxLen; omega) (by omega) (by rw [size_alloc]; omega) ?_; intro v5 w5 hown5 hg5 _))
        have hb5 : Below W0.heap.size W0 w5 := (hb.alloc hbs _).grown hg5 (by rw [size_alloc]; omega) (fun g hv => (HO.out.2.1.lt g hv).1)
        have hkeep : ∀ p : Addr, S p.block → w5.cell? p = wr.cell? p := fun p hp => (hb5.cell (hSW _ hp)).trans (hb.cell (hSW _ hp)).symm
        have hO5 : OwnM w5 W0.heap.size S v5 (k + 1) (few1 (k + 1) xss) := by
          rw [HF.out]
          exact OwnM.snoc HO.out.1 HO.out.2.2 hvs hkeep hown5 (HL.out.keep hkeep)
        have HQ := Lib.hid (And.intro hO5 hb5)
        clear hO5 hb5 hkeep hown5 hg5
        go_wp2
        go_roundw
        case rel => exact ⟨k + 1, by go_num, by omega, by omega, HQ.out.1, HQ.out.2⟩
        case measure => simp [intOf]; omega
      · have t2 : decide ((20 : Int) < (n1 : Int)) = false := decide_eq_false (by omega)
        have HL : Hid (Lst wr S A1 n1 c1 (xs.take 20)) := Lib.hid (by rw [List.take_of_length_le (by rw [hl.len]; omega)]; exact hl)
        clear hl
        go_wp2_with (first
          | (at_builtin; refine wpList_append_own _ rfl (.tmp 27) (.tmp 29) 30 rfl W0.heap.size 50 i0 (.slice none 0 0) 1 24 Tryd.underlying30 I0.out Z0.out Z1.out Z2.out rfl (by decide) _ k vs rfl (HO.out.2.1.alloc _) ⟨wr.heap.size, 0, none⟩ 1 1 [.slice A1 n1 c1] rfl rfl (cell_one_new _ _ _) (by simp [Value.oneCell']) (by unfold maxLen; omega) (by omega) (by rw [size_alloc]; omega) ?_; intro v5 w5 hown5 hg5 _))
        have hb5 : Below W0.heap.size W0 w5 := (hb.alloc hbs _).grown hg5 (by rw [size_alloc]; omega) (fun g hv => (HO.out.2.1.lt g hv).1)
        have hkeep : ∀ p : Addr, S p.block → w5.cell? p = wr.cell? p := fun p hp => (hb5.cell (hSW _ hp)).trans (hb.cell (hSW _ hp)).symm
        have hO5 : OwnM w5 W0.heap.size S v5 (k + 1) (few1 (k + 1) xss) := by
          rw [HF.out]
          exact OwnM.snoc HO.out.1 HO.out.2.2 hvs hkeep hown5 (HL.out.keep hkeep)
        have HQ := Lib.hid (And.intro hO5 hb5)
        clear hO5 hb5 hkeep hown5 hg5
        go_wp2
        go_roundw
        case rel => exact ⟨k + 1, by go_num, by omega, by omega, HQ.out.1, HQ.out.2⟩
        case measure => simp [intOf]; omega
    · have hE : few1 k xss = few xss := by
        unfold few few1
        rcases (by omega : k = n ∨ k = 6) with rfl | rfl
        · rw [List.take_of_length_le (show xss.length ≤ k by rw [hlen.out]; exact Nat.le_refl _), List.take_of_length_le (show xss.length ≤ 6 by rw [hlen.out]; omega)]
        · rfl
      rw [hE] at hown
      obtain ⟨A5, cap5, rfl, hM⟩ := hown.mat
      have P0 := p0.below hb p0.lt
      have P1 := p1.below hb p1.lt
      have x0 : wr.cell? ⟨w.heap.size, 0, none⟩ = some (.int .i64 r) := P0.cell 0
      have x1 : wr.cell? ⟨w.heap.size, 1, none⟩ = some (.int .i64 c) := P0.cell 1
      have x2 : wr.cell? ⟨w.heap.size, 2, none⟩ = some (.int .i64 s) := P0.cell 2
      have f3 := P0.free 3
      have R8 : Blk (wr.setCell ⟨w.heap.size, 3, none⟩ (.slice A5 k cap5)) (w.heap.size + 1) 32 (prg 0 0 0 none 0 0) := (heap_set wr w.heap.size 3 (w.heap.size + 1) _ (by omega)).trans P1
      have hfin : Fews S r c s (few xss) w (.returned (.agg (prg r c s A5 k cap5))) ((wr.setCell ⟨w.heap.size, 3, none⟩ (.slice A5 k cap5)).setRow (w.heap.size + 1) (prg r c s A5 k cap5)) := by
        refine ⟨A5, k, cap5, rfl, (hM.keep fun p hp => ?_).more fun g hg => ?_, ?_⟩
        · refine cell_blk p ?_
          have hne : p.block ≠ w.heap.size ∧ p.block ≠ w.heap.size + 1 := by
            rcases hp with hp | hp
            · have := hS _ hp; omega
            · have := hp.1; omega
          rw [setRow_other _ _ _ _ hne.2]
          exact heap_set wr w.heap.size 3 p.block _ hne.1
        · have hsz : ((wr.setCell ⟨w.heap.size, 3, none⟩ (.slice A5 k cap5)).setRow (w.heap.size + 1) (prg r c s A5 k cap5)).heap.size = wr.heap.size := by simp [World.setCell]
          rcases hg with hg | hg
          · exact .inl hg
          · refine .inr ⟨?_, by rw [hsz]; exact hg.2⟩
            have := hg.1
            have := b0.size
            omega
        · exact below_setRow ((b0.trans (hb.mono b0.size)).setCell (Nat.le_refl _) _) (by omega) _
      have HFIN := Lib.hid hfin
      clear hown hM hE P0 P1 hfin
      by_cases hkn : k < n
      · have t0 : decide ((k : Int) < (n : Int)) = true := decide_eq_true (by omega)
        have t1 : decide ((k : Int) < 6) = false := decide_eq_false (by omega)
        go_wp2_with (refine wpList_store_row rfl 32 (.tmp 2) (.tmp 33) rfl (w.heap.size + 1) (prg r c s A5 k cap5) rfl rfl 32 (prg 0 0 0 none 0 0) R8 info24 rfl (prg_one r c s A5 k cap5) ?_)
        refine bodyPost_ret (results_cell_row (cs := prg r c s A5 k cap5) rfl _ _ (w.heap.size + 1) 32 (0, 0) _ rfl (setRow_heap _ _ _ _ _ _ R8) Tryd.underlying32 rfl info24) rfl ?_
        exact HFIN.out
      · have t0 : decide ((k : Int) < (n : Int)) = false := decide_eq_false (by omega)
        go_wp2_with (refine wpList_store_row rfl 32 (.tmp 2) (.tmp 33) rfl (w.heap.size + 1) (prg r c s A5 k cap5) rfl rfl 32 (prg 0 0 0 none 0 0) R8 info24 rfl (prg_one r c s A5 k cap5) ?_)
        refine bodyPost_ret (results_cell_row (cs := prg r c s A5 k cap5) rfl _ _ (w.heap.size + 1) 32 (0, 0) _ rfl (setRow_heap _ _ _ _ _ _ R8) Tryd.underlying32 rfl info24) rfl ?_
        exact HFIN.out
end Go.Proofs.YtodklfjoeehinaaDoor
