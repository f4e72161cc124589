/- Lists of instructions, and of threads' code, that a call makes itself. Conditions: none. -/
import Derived.Test.YtfadfdfpocpelaaGreatDoorPRefProg
namespace Go.Proofs.YtfadfdfpocpelaaGreatDoor.P
open Go.RowKit

theorem info46 : (Tryz.prog.info? 45).map (fun i => (i.zero, i.size, i.bytes)) = some (some (.slice none 0 0), 1, 24) := by kernel_rfl
theorem info45 : (Tryz.prog.info? 49).map (fun i => (i.zero, i.size, i.bytes)) = some (some (.agg #[.int .i64 0, .int .i64 0, .int .i64 0, .int .i64 0, .int .i64 0]), 5, 40) := by kernel_rfl
/-- Instructions as cells. -/
def flat5 (xs : List Ins) : List Value := xs.flatMap fun x => [.int .i64 x.o, .int .i64 x.a, .int .i64 x.b, .int .i64 x.c, .int .i64 x.n]
theorem flat5_snoc (xs : List Ins) (x : Ins) : flat5 (xs ++ [x]) = flat5 xs ++ [.int .i64 x.o, .int .i64 x.a, .int .i64 x.b, .int .i64 x.c, .int .i64 x.n] := by simp [flat5]
theorem flat5_len : ∀ (xs : List Ins), (flat5 xs).length = xs.length * 5
  | [] => rfl
  | x :: t => by
    have := flat5_len t
    unfold flat5 at *
    rw [List.flatMap_cons, List.length_append, this]
    simp
    omega
theorem flat5_get : ∀ (xs : List Ins) (j : Nat) (x : Ins), xs[j]? = some x → (flat5 xs)[j * 5]? = some (.int .i64 x.o) ∧ (flat5 xs)[j * 5 + 1]? = some (.int .i64 x.a) ∧ (flat5 xs)[j * 5 + 2]? = some (.int .i64 x.b) ∧ (flat5 xs)[j * 5 + 3]? = some (.int .i64 x.c) ∧ (flat5 xs)[j * 5 + 4]? = some (.int .i64 x.n)
  | [], j, x, h => by simp at h
  | y :: r, 0, x, h => by
    simp at h
    subst h
    simp [flat5]
  | y :: r, j + 1, x, h => by
    have e1 : (j + 1) * 5 = j * 5 + 5 := by omega
    have e2 : flat5 (y :: r) = .int .i64 y.o :: .int .i64 y.a :: .int .i64 y.b :: .int .i64 y.c :: .int .i64 y.n :: flat5 r := by simp [flat5]
    have ih := flat5_get r j x (by simpa using h)
    rw [e1, e2]
    exact ih
/-- What the call owns from block base on. -/
def From (w : World) (base : Nat) : Nat → Prop := fun g => base ≤ g ∧ g < w.heap.size
theorem own_lst {w : World} {base n : Nat} {v : Value} {xs : List Ins} (h : w.ownsRow base 49 5 v n (flat5 xs)) : ∃ A cap, v = .slice A n cap ∧ Lst w (From w base) A n cap xs := by
  have hl : xs.length = n := by have := h.1; rw [flat5_len] at this; omega
  rcases h.2 with ⟨rfl, rfl⟩ | ⟨g, cap, cur, rfl, hb, hg, hnc, hcm, hcs, ht⟩
  · obtain rfl : xs = [] := List.eq_nil_of_length_eq_zero hl
    exact ⟨none, 0, rfl, Lst.nil _ _⟩
  · refine ⟨_, cap, rfl, hl, hnc, hcm, fun hh => (by cases hh), fun ad ha i x hx => ?_⟩
    injection ha with ha
    subst ha
    obtain ⟨f0, f1, f2, f3, f4⟩ := flat5_get xs i x hx
    have hi : i < n := by rw [← hl]; exact (List.getElem?_eq_some_iff.1 hx).1
    refine ⟨g, 0, rfl, ⟨hb, (Array.getElem?_eq_some_iff.1 hg).1⟩, ?_⟩
    rw [Nat.zero_add]
    exact ⟨(h.cellAt (g := g) _ (by omega)).trans f0, (h.cellAt (g := g) _ (by omega)).trans f1, (h.cellAt (g := g) _ (by omega)).trans f2, (h.cellAt (g := g) _ (by omega)).trans f3, (h.cellAt (g := g) _ (by omega)).trans f4⟩

/-- A list of lists that the call owns; what it leads to lies in blocks of S. -/
structure OwnM (w : World) (base : Nat) (S : Nat → Prop) (v : Value) (n : Nat) (xss : List (List Ins)) : Prop where
  len : xss.length = n
  ex : ∃ vs, w.ownsRow base 45 1 v n vs ∧ ∀ (i : Nat) (xs : List Ins), xss[i]? = some xs → ∃ A' n' cap', vs[i]? = some (.slice A' n' cap') ∧ Lst w S A' n' cap' xs
theorem OwnM.nil (w : World) (base : Nat) (S : Nat → Prop) : OwnM w base S (.slice none 0 0) 0 [] := ⟨rfl, [], World.ownsRow_nil _ _ _ _, fun i xs h => by simp at h⟩
theorem OwnM.mat {w : World} {base n : Nat} {S : Nat → Prop} {v : Value} {xss : List (List Ins)} (h : OwnM w base S v n xss) : ∃ A cap, v = .slice A n cap ∧ Mat w (fun g => S g ∨ From w base g) A n cap xss := by
  obtain ⟨hl, vs, ho, hall⟩ := h
  rcases id ho.2 with ⟨rfl, rfl⟩ | ⟨g, cap, cur, rfl, hb, hg, hnc, hcm, hcs, ht⟩
  · obtain rfl : xss = [] := List.eq_nil_of_length_eq_zero hl
    exact ⟨none, 0, rfl, Mat.nil _ _⟩
  · refine ⟨_, cap, rfl, hl, hnc, hcm, fun hh => (by cases hh), fun ad ha i xs hx => ?_⟩
    injection ha with ha
    subst ha
    have hi : i < n := by rw [← hl]; exact (List.getElem?_eq_some_iff.1 hx).1
    obtain ⟨A', n', cap', hv, hL⟩ := hall i xs hx
    refine ⟨g, 0, A', n', cap', rfl, .inr ⟨hb, (Array.getElem?_eq_some_iff.1 hg).1⟩, ?_, hL.more fun g hg => .inl hg⟩
    rw [Nat.zero_add]
    exact (ho.cellAt (g := g) i (by omega)).trans hv
theorem OwnM.lt {w : World} {base n : Nat} {S : Nat → Prop} {v : Value} {xss : List (List Ins)} (h : OwnM w base S v n xss) : ∀ g, v.ownBlock = some g → base ≤ g := by
  obtain ⟨_, vs, ho, _⟩ := h
  exact fun g hv => (ho.lt g hv).1
theorem OwnM.below {w w' : World} {base n : Nat} {S : Nat → Prop} {v : Value} {xss : List (List Ins)} (h : OwnM w base S v n xss) (hb : Below w.heap.size w w') (hS : ∀ g, S g → g < w.heap.size) : OwnM w' base S v n xss := by
  obtain ⟨hl, vs, ho, hall⟩ := h
  refine ⟨hl, vs, own_below ho hb, fun i xs hx => ?_⟩
  obtain ⟨A', n', cap', hv, hL⟩ := hall i xs hx
  exact ⟨A', n', cap', hv, hL.below hb hS⟩
theorem OwnM.more {w : World} {base n : Nat} {S S' : Nat → Prop} {v : Value} {xss : List (List Ins)} (h : OwnM w base S v n xss) (hS : ∀ g, S g → S' g) : OwnM w base S' v n xss := by
  obtain ⟨hl, vs, ho, hall⟩ := h
  refine ⟨hl, vs, ho, fun i xs hx => ?_⟩
  obtain ⟨A', n', cap', hv, hL⟩ := hall i xs hx
  exact ⟨A', n', cap', hv, hL.more hS⟩

/-- 'x[:k]', k not 0. -/
theorem under46 : Tryz.prog.underlying 45 = some (.slice (Tryz.prog.elem 45)) := by kernel_rfl
theorem size46 (w : World) : (sizeOf (Tryz.prog.elem 45)).run Tryz.prog w = .ok 5 w := by kernel_rfl
theorem cutI (A : Option Addr) (n cap : Nat) (hc : 20 ≤ cap) (w : World) :
    (Instr.slice 45 (.slice A n cap) none (some (.int .i64 20)) none).run Tryz.prog w = .ok (.slice A 20 cap) w := by
  rw [run_slice_h w 45 A n cap under46 .i64 _ (by omega) (by omega), size46]
  have e3 : ¬ cap = 0 := by omega
  simp only [Result.andThen, sliced, show (20 : Int).toNat = 20 from rfl, if_neg e3, Nat.sub_zero, Nat.zero_mul]
  rcases A with _ | ad
  · rfl
  · simp [Addr.add]
theorem Lst.front {w : World} {S : Nat → Prop} {A : Option Addr} {n cap : Nat} {xs : List Ins} (h : Lst w S A n cap xs) {k : Nat} (hk : k ≤ n) : Lst w S A k cap (xs.take k) :=
  ⟨by rw [List.length_take, h.len]; omega, Nat.le_trans hk h.room, h.most, h.none_, fun ad ha i x hx => by
    rw [List.getElem?_take] at hx
    split at hx
    · exact h.cell ad ha i x hx
    · cases hx⟩

end Go.Proofs.YtfadfdfpocpelaaGreatDoor.P
namespace Go.Proofs.YtfadfdfpocpelaaGreatDoor.P
open Go.RowKit

def few (xss : List (List Ins)) : List (List Ins) := (xss.take 6).map (·.take 20)
def few1 (k : Nat) (xss : List (List Ins)) : List (List Ins) := (xss.take k).map (·.take 20)
theorem few1_snoc {k : Nat} {xss : List (List Ins)} {xs : List Ins} (h : xss[k]? = some xs) : few1 (k + 1) xss = few1 k xss ++ [xs.take 20] := by
  rw [few1, take_snoc h, List.map_append]
  rfl
theorem OwnM.snoc {w w' : World} {base n : Nat} {S : Nat → Prop} {v' : Value} {xss : List (List Ins)} {xs : List Ins} {vs : List Value} {A' : Option Addr} {n' cap' : Nat} (hl : xss.length = n)
    (hall : ∀ (i : Nat) (xs : List Ins), xss[i]? = some xs → ∃ A' n' cap', vs[i]? = some (.slice A' n' cap') ∧ Lst w S A' n' cap' xs) (hlv : vs.length = n)
    (hk : ∀ p : Addr, S p.block → w'.cell? p = w.cell? p) (ho : w'.ownsRow base 45 1 v' (n + 1) (vs ++ [.slice A' n' cap'])) (hL : Lst w' S A' n' cap' xs) : OwnM w' base S v' (n + 1) (xss ++ [xs]) := by
  refine ⟨by rw [List.length_append, hl]; rfl, _, ho, fun i ys hy => ?_⟩
  rcases Nat.lt_or_ge i n with hi | hi
  · rw [List.getElem?_append_left (by omega)] at hy
    obtain ⟨B, m, c, hv, hB⟩ := hall i ys hy
    exact ⟨B, m, c, by rw [List.getElem?_append_left (by omega)]; exact hv, hB.keep hk⟩
  · have hi2 : i = n := by
      have := (List.getElem?_eq_some_iff.1 hy).1
      rw [List.length_append, hl] at this
      simp at this
      omega
    subst hi2
    rw [← hl, List.getElem?_concat_length] at hy
    injection hy with hy
    subst hy
    exact ⟨A', n', cap', by rw [← hlv, List.getElem?_concat_length], hL⟩

theorem cell_blk {w w' : World} (p : Addr) (h : w'.heap[p.block]? = w.heap[p.block]?) : w'.cell? p = w.cell? p := by
  unfold World.cell?
  simp only [h]

def Fews (S : Nat → Prop) (r c s : Int) (xss : List (List Ins)) (w : World) (e : Ending) (w' : World) : Prop :=
  ∃ A n cap, e = .returned (.agg #[.int .i64 r, .int .i64 c, .int .i64 s, .slice A n cap]) ∧ Mat w' (fun g => S g ∨ From w' w.heap.size g) A n cap xss ∧ Below w.heap.size w w'
theorem info24 : (Tryz.prog.info? 24).map (·.size) = some 4 := by kernel_rfl
theorem prg_one (r c s : Int) (A : Option Addr) (n cap : Nat) : (prg r c s A n cap).all (·.oneCell') = true := by simp [prg, Value.oneCell']

set_option maxRecDepth 100000 in
set_option maxHeartbeats 2000000 in
theorem few_any {w : World} {S : Nat → Prop} {A : Option Addr} {n cap : Nat} {xss : List (List Ins)} (h : Mat w S A n cap xss) (hS : ∀ g, S g → g < w.heap.size) (r c s : Int) :
    Calls Tryz.prog 5 #[.agg #[.int .i64 r, .int .i64 c, .int .i64 s, .slice A n cap]] w (Fews S r c s (few xss) w) := by
  obtain ⟨i0, hi0, hz0, hz1, hz2⟩ := info_parts info46
  have Z0 := Lib.hid hz0
  have Z1 := Lib.hid hz1
  have Z2 := Lib.hid hz2
  have I0 := Lib.hid hi0
  clear hz0 hz1 hz2 hi0
  have hm := len_i64 h.room h.most
  have hlen := Lib.hid h.len
  obtain ⟨W0, eW0⟩ : ∃ W0, W0 = (w.alloc (.cells #[.int .i64 r, .int .i64 c, .int .i64 s, .slice A n cap] 24)).alloc (.cells #[.int .i64 0, .int .i64 0, .int .i64 0, .slice none 0 0] 24) := ⟨_, rfl⟩
  have b0 : Below w.heap.size w W0 := by rw [eW0]; exact ((Below.refl _ w).alloc (Nat.le_refl _) _).alloc (by simp) _
  have s0 : W0.heap.size = w.heap.size + 2 := by rw [eW0]; simp
  have p0 : Blk W0 w.heap.size 24 (prg r c s A n cap) := by rw [eW0]; exact Blk.below (heap_alloc_new w _) ((Below.refl _ _).alloc (Nat.le_refl _) _) (by simp)
  have p1 : Blk W0 (w.heap.size + 1) 24 (prg 0 0 0 none 0 0) := by rw [eW0]; exact heap_alloc2_new w _ _
  have h0 := h.below b0 hS
  have hSW : ∀ g, S g → g < W0.heap.size := fun g hg => Nat.lt_of_lt_of_le (hS g hg) b0.size
  have z3 : W0.cell? ⟨w.heap.size, 3, none⟩ = some (.slice A n cap) := p0.cell 3
  go_enter Tryz.func5, Tryz.ntmps5
  go_wp2_with fail
  rw [← eW0]
  clear eW0
  go_wp2_with fail
  go_loopw [3, 4] (fun v i wr => ∃ k : Nat, i = .int .i64 k ∧ k ≤ n ∧ k ≤ 6 ∧ OwnM wr W0.heap.size S v k (few1 k xss) ∧ Below W0.heap.size W0 wr) (fun _ i _ => n - (intOf i).toNat)
  case atStart => exact ⟨0, rfl, Nat.zero_le _, Nat.zero_le _, OwnM.nil _ _ _, Below.refl _ _⟩
  case round =>
    obtain ⟨k, rfl, hk, hk6, hown, hb⟩ := hrel
    clear z3
    have z3 : wr.cell? ⟨w.heap.size, 3, none⟩ = some (.slice A n cap) := (hb.cell p0.lt).trans (p0.cell 3)
    by_cases hlt : k < n ∧ k < 6
    · obtain ⟨hlt, hl6⟩ := hlt
      have h3 := h0.below hb hSW
      obtain ⟨g, off, A1, n1, c1, xs, rfl, hg, hx, hc, hl⟩ := h3.at_ k hlt
      have t0 : decide ((k : Int) < (n : Int)) = true := decide_eq_true (by omega)
      have t1 : decide ((k : Int) < 6) = true := decide_eq_true (by omega)
      have j0 : (0 : Int) ≤ (k : Int) := by omega
      have j1 : (k : Int) < (n : Int) := by omega
      have hm1 := len_i64 hl.room hl.most
      have HF := Lib.hid (few1_snoc hx)
      have hbs := hb.size
      obtain ⟨hlv, vs, ho, hall⟩ := hown
      have HO := Lib.hid (And.intro hlv (And.intro ho hall))
      have hvs : vs.length = k := by have := ho.1; omega
      clear hlv ho hall h3 hx
      by_cases h20 : 20 < n1
      · have t2 : decide ((20 : Int) < (n1 : Int)) = true := decide_eq_true (by omega)
        have hcut := cutI A1 n1 c1 (by have := hl.room; omega)
        have HL := Lib.hid (hl.front (k := 20) (by omega))
        clear hl
        go_wp2_with (first
          | (at_builtin; refine wpList_append_own _ rfl (.tmp 27) (.tmp 29) 22 rfl W0.heap.size 45 i0 (.slice none 0 0) 1 24 Tryz.underlying22 I0.out Z0.out Z1.out Z2.out rfl (by decide) _ k vs rfl (HO.out.2.1.alloc _) ⟨wr.heap.size, 0, none⟩ 1 1 [.slice A1 20 c1] rfl rfl (cell_one_new _ _ _) (by simp [Value.oneCell']) (by unfold maxLen; omega) (by omega) (by rw [size_alloc]; omega) ?_; intro v5 w5 hown5 hg5 _))
        have hb5 : Below W0.heap.size W0 w5 := (hb.alloc hbs _).grown hg5 (by rw [size_alloc]; omega) (fun g hv => (HO.out.2.1.lt g hv).1)
        have hkeep : ∀ p : Addr, S p.block → w5.cell? p = wr.cell? p := fun p hp => (hb5.cell (hSW _ hp)).trans (hb.cell (hSW _ hp)).symm
        have hO5 : OwnM w5 W0.heap.size S v5 (k + 1) (few1 (k + 1) xss) := by
          rw [HF.out]
          exact OwnM.snoc HO.out.1 HO.out.2.2 hvs hkeep hown5 (HL.out.keep hkeep)
        have HQ := Lib.hid (And.intro hO5 hb5)
        clear hO5 hb5 hkeep hown5 hg5
        go_wp2
        go_roundw
        case rel => exact ⟨k + 1, by go_num, by omega, by omega, HQ.out.1, HQ.out.2⟩
        case measure => simp [intOf]; omega
      · have t2 : decide ((20 : Int) < (n1 : Int)) = false := decide_eq_false (by omega)
        have HL : Hid (Lst wr S A1 n1 c1 (xs.take 20)) := Lib.hid (by rw [List.take_of_length_le (by rw [hl.len]; omega)]; exact hl)
        clear hl
        go_wp2_with (first
          | (at_builtin; refine wpList_append_own _ rfl (.tmp 27) (.tmp 29) 22 rfl W0.heap.size 45 i0 (.slice none 0 0) 1 24 Tryz.underlying22 I0.out Z0.out Z1.out Z2.out rfl (by decide) _ k vs rfl (HO.out.2.1.alloc _) ⟨wr.heap.size, 0, none⟩ 1 1 [.slice A1 n1 c1] rfl rfl (cell_one_new _ _ _) (by simp [Value.oneCell']) (by unfold maxLen; omega) (by omega) (by rw [size_alloc]; omega) ?_; intro v5 w5 hown5 hg5 _))
        have hb5 : Below W0.heap.size W0 w5 := (hb.alloc hbs _).grown hg5 (by rw [size_alloc]; omega) (fun g hv => (HO.out.2.1.lt g hv).1)
        have hkeep : ∀ p : Addr, S p.block → w5.cell? p = wr.cell? p := fun p hp => (hb5.cell (hSW _ hp)).trans (hb.cell (hSW _ hp)).symm
        have hO5 : OwnM w5 W0.heap.size S v5 (k + 1) (few1 (k + 1) xss) := by
          rw [HF.out]
          exact OwnM.snoc HO.out.1 HO.out.2.2 hvs hkeep hown5 (HL.out.keep hkeep)
        have HQ := Lib.hid (And.intro hO5 hb5)
        clear hO5 hb5 hkeep hown5 hg5
        go_wp2
        go_roundw
        case rel => exact ⟨k + 1, by go_num, by omega, by omega, HQ.out.1, HQ.out.2⟩
        case measure => simp [intOf]; omega
    · have hE : few1 k xss = few xss := by
        unfold few few1
        rcases (by omega : k = n ∨ k = 6) with rfl | rfl
        · rw [List.take_of_length_le (show xss.length ≤ k by rw [hlen.out]; exact Nat.le_refl _), List.take_of_length_le (show xss.length ≤ 6 by rw [hlen.out]; omega)]
        · rfl
      rw [hE] at hown
      obtain ⟨A5, cap5, rfl, hM⟩ := hown.mat
      have P0 := p0.below hb p0.lt
      have P1 := p1.below hb p1.lt
      have x0 : wr.cell? ⟨w.heap.size, 0, none⟩ = some (.int .i64 r) := P0.cell 0
      have x1 : wr.cell? ⟨w.heap.size, 1, none⟩ = some (.int .i64 c) := P0.cell 1
      have x2 : wr.cell? ⟨w.heap.size, 2, none⟩ = some (.int .i64 s) := P0.cell 2
      have f3 := P0.free 3
      have R8 : Blk (wr.setCell ⟨w.heap.size, 3, none⟩ (.slice A5 k cap5)) (w.heap.size + 1) 24 (prg 0 0 0 none 0 0) := (heap_set wr w.heap.size 3 (w.heap.size + 1) _ (by omega)).trans P1
      have hfin : Fews S r c s (few xss) w (.returned (.agg (prg r c s A5 k cap5))) ((wr.setCell ⟨w.heap.size, 3, none⟩ (.slice A5 k cap5)).setRow (w.heap.size + 1) (prg r c s A5 k cap5)) := by
        refine ⟨A5, k, cap5, rfl, (hM.keep fun p hp => ?_).more fun g hg => ?_, ?_⟩
        · refine cell_blk p ?_
          have hne : p.block ≠ w.heap.size ∧ p.block ≠ w.heap.size + 1 := by
            rcases hp with hp | hp
            · have := hS _ hp; omega
            · have := hp.1; omega
          rw [setRow_other _ _ _ _ hne.2]
          exact heap_set wr w.heap.size 3 p.block _ hne.1
        · have hsz : ((wr.setCell ⟨w.heap.size, 3, none⟩ (.slice A5 k cap5)).setRow (w.heap.size + 1) (prg r c s A5 k cap5)).heap.size = wr.heap.size := by simp [World.setCell]
          rcases hg with hg | hg
          · exact .inl hg
          · refine .inr ⟨?_, by rw [hsz]; exact hg.2⟩
            have := hg.1
            have := b0.size
            omega
        · exact below_setRow ((b0.trans (hb.mono b0.size)).setCell (Nat.le_refl _) _) (by omega) _
      have HFIN := Lib.hid hfin
      clear hown hM hE P0 P1 hfin
      by_cases hkn : k < n
      · have t0 : decide ((k : Int) < (n : Int)) = true := decide_eq_true (by omega)
        have t1 : decide ((k : Int) < 6) = false := decide_eq_false (by omega)
        go_wp2_with (refine wpList_store_row rfl 24 (.tmp 2) (.tmp 33) rfl (w.heap.size + 1) (prg r c s A5 k cap5) rfl rfl 24 (prg 0 0 0 none 0 0) R8 info24 rfl (prg_one r c s A5 k cap5) ?_)
        refine bodyPost_ret (results_cell_row (cs := prg r c s A5 k cap5) rfl _ _ (w.heap.size + 1) 24 (0, 0) _ rfl (setRow_heap _ _ _ _ _ _ R8) Tryz.underlying24 rfl info24) rfl ?_
        exact HFIN.out
      · have t0 : decide ((k : Int) < (n : Int)) = false := decide_eq_false (by omega)
        go_wp2_with (refine wpList_store_row rfl 24 (.tmp 2) (.tmp 33) rfl (w.heap.size + 1) (prg r c s A5 k cap5) rfl rfl 24 (prg 0 0 0 none 0 0) R8 info24 rfl (prg_one r c s A5 k cap5) ?_)
        refine bodyPost_ret (results_cell_row (cs := prg r c s A5 k cap5) rfl _ _ (w.heap.size + 1) 24 (0, 0) _ rfl (setRow_heap _ _ _ _ _ _ R8) Tryz.underlying24 rfl info24) rfl ?_
        exact HFIN.out
end Go.Proofs.YtfadfdfpocpelaaGreatDoor.P
