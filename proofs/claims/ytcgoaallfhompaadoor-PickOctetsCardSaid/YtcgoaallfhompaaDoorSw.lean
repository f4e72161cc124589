/- What Swap answers. Conditions: lists have room for a copy. -/
import Derived.Test.YtcgoaallfhompaaDoorWo
namespace Go.Proofs.YtcgoaallfhompaaDoor
open Go.RowKit Go.ChangeShapes Go.WideShapes
set_option linter.unusedSimpArgs false
set_option linter.unusedVariables false

theorem own_row {w : World} {B n c : Nat} {A : Option Addr} {l : List Int} (h : w.ownsRow B 3 1 (.slice A n c) n (ints l)) (h0 : 0 < n) :
    ∃ g cur, A = some ⟨g, 0, none⟩ ∧ B ≤ g ∧ Blk w g 3 cur ∧ n ≤ c ∧ c ≤ maxLen ∧ cur.size = c ∧ cur.toList.take n = ints l := by
  rcases h.2 with ⟨e, e2⟩ | ⟨g, c', cur, e, hb, hh, hn, hm, hs, ht⟩
  · injection e with _ e3 _
    omega
  · injection e with e1 _ e3
    subst e3
    refine ⟨g, cur, e1, hb, hh, hn, hm, by omega, ?_⟩
    simpa using ht
theorem row_own {w : World} {B n c g : Nat} {cur : Array Value} {l : List Int} (hb : B ≤ g) (hh : Blk w g 3 cur) (hn : n ≤ c) (hm : c ≤ maxLen) (hs : cur.size = c) (ht : cur.toList.take n = ints l) (hl : l.length = n) : w.ownsRow B 3 1 (.slice (some ⟨g, 0, none⟩) n c) n (ints l) :=
  ⟨by rw [ints_len, hl], .inr ⟨g, c, cur, rfl, hb, hh, hn, hm, by omega, by rw [Nat.mul_one]; exact ht⟩⟩
theorem row_get {n : Nat} {cur : Array Value} {l : List Int} (ht : cur.toList.take n = ints l) (hl : l.length = n) {k : Nat} (hk : k < n) : cur[k]? = some (.int .i64 (l.getD k 0)) := by
  have h := congrArg (fun x => x[k]?) ht
  simp only [List.getElem?_take_of_lt hk, ints_map, List.getElem?_map, Array.getElem?_toList] at h
  rw [h, getI_at l k (by omega)]
  rfl
theorem row_set {n : Nat} {cur : Array Value} {l : List Int} (ht : cur.toList.take n = ints l) (k : Nat) (x : Int) : (cur.setIfInBounds k (.int .i64 x)).toList.take n = ints (l.set k x) := by
  rw [Array.toList_setIfInBounds, List.take_set, ht, ints_map, ints_map, List.map_set]
theorem frozen_set {w : World} {g : Nat} {cur : Array Value} (h : Blk w g 3 cur) (a b : Nat) (v : Value) : (w.setCell ⟨g, a, none⟩ v).frozen? ⟨g, b, none⟩ = false := (h.set_ a v).free b
/-- A row of the call's own with two exchanged. -/
theorem swapped {w1 : World} {B n c g : Nat} {cur : Array Value} {l : List Int} (hb : B ≤ g) (hh : Blk w1 g 3 cur) (hn : n ≤ c) (hm : c ≤ maxLen) (hs : cur.size = c) (ht : cur.toList.take n = ints l) (hl : l.length = n) (a : Nat) (x y : Int)
    (hx : l.getD a 0 = x) (hy : l.getD (a + 1) 0 = y) (ha : a + 1 < n) :
    ((w1.setCell ⟨g, a, none⟩ (.int .i64 y)).setCell ⟨g, a + 1, none⟩ (.int .i64 x)).ownsRow B 3 1 (.slice (some ⟨g, 0, none⟩) n c) n (ints (exL l a)) := by
  have h1 := (hh.set_ a (.int .i64 y)).set_ (a + 1) (.int .i64 x)
  refine row_own hb h1 hn hm (by simp [hs]) ?_ (by rw [ex_len, hl])
  rw [row_set (row_set ht a y) (a + 1) x]
  congr 1
  unfold exL
  rw [if_pos (by unfold exB; omega)]
  simp only [Int.toNat_natCast]
  rw [hx, hy]
theorem below_set {w w' : World} {B g a : Nat} {v : Value} (h : Below B w w') (hg : B ≤ g) : Below B w (w'.setCell ⟨g, a, none⟩ v) :=
  h.trans ⟨rfl, rfl, rfl, by simp [World.setCell], fun k hk => Below.heap_setCell _ _ _ _ (by simp; omega)⟩
set_option maxRecDepth 100000 in
set_option maxHeartbeats 2000000 in
theorem swap_any {w : World} {A : Option Addr} {n cap : Nat} {l : List Int} (h : SeesI w A n cap l) (hn : n ≤ 100000000000) (i : Int) : Calls Tryd.prog 12 #[.slice A n cap, .int .i64 i] w (OwnL (exL l i) w) := by
  have hl := h.len
  have hw0 : IntKind.i64.wrap ((n : Int) - 2) = (n : Int) - 2 := by rw [IntKind.wrap_i64]; omega
  have hc := concat1 h (by omega)
  have hb : Below w.heap.size w (w.alloc (.cells #[.slice A n cap] 28)) := (Below.refl _ w).alloc (Nat.le_refl _) _
  have HB := Lib.hid hb
  clear hb
  have hi := fun W => in_any i 0 ((n : Int) - 2) W
  rw [show OwnL l (w.alloc (.cells #[.slice A n cap] 28)) = fun e w' => OwnL l (w.alloc (.cells #[.slice A n cap] 28)) e w' from rfl] at hc
  by_cases hx : exB l i
  · obtain ⟨a, rfl⟩ := Int.eq_ofNat_of_zero_le hx.1
    have ha : a + 1 < n := by have := hx.2; omega
    have hin : inB (a : Int) 0 ((n : Int) - 2) = true := by
      unfold inB
      rw [decide_eq_true (by omega), decide_eq_true (by omega)]
      rfl
    rw [hin] at hi
    have hk1 : IntKind.i64.wrap ((a : Int) + 1) = ((a + 1 : Nat) : Int) := by rw [IntKind.wrap_i64]; omega
    have a0 : (0 : Int) ≤ (a : Int) := by omega
    have a1 : (a : Int) < (n : Int) := by omega
    have a2 : ((a + 1 : Nat) : Int) < (n : Int) := by omega
    have HL := Lib.hid (And.intro hl (And.intro hx ha))
    have hle := ex_len l (a : Int)
    rw [hl] at hle
    have HE := Lib.hid hle
    clear hl hx hin hle
    go_enter Tryd.func12, Tryd.ntmps12
    go_wp2_with fail
    refine hc.mono ?_
    intro e w1 hw
    have hw2 := hw.base HB.out
    obtain ⟨A1, c1, rfl, ho1, hb1⟩ := hw2
    rw [HL.out.1] at ho1 ⊢
    obtain ⟨g, cur, rfl, hg, hh, hnc, hmc, hs, ht⟩ := own_row ho1 (by omega)
    have x0 : w1.drew.cell? ⟨g, a, none⟩ = some (.int .i64 (l.getD a 0)) := (hh.cell a).trans (row_get ht HL.out.1 (by omega))
    have y0 : w1.drew.cell? ⟨g, a + 1, none⟩ = some (.int .i64 (l.getD (a + 1) 0)) := (hh.cell (a + 1)).trans (row_get ht HL.out.1 (by omega))
    have z0 := fun x y (hx : l.getD a 0 = x) (hy : l.getD (a + 1) 0 = y) => swapped hg hh hnc hmc hs ht HL.out.1 a x y hx hy HL.out.2.2
    have f0 : w1.drew.frozen? ⟨g, a, none⟩ = false := hh.free a
    have f1 : ∀ v, (w1.setCell ⟨g, a, none⟩ v).drew.frozen? ⟨g, a + 1, none⟩ = false := fun v => frozen_set hh a (a + 1) v
    have y1 : ∀ v, (w1.setCell ⟨g, a, none⟩ v).drew.cell? ⟨g, a + 1, none⟩ = some (.int .i64 (l.getD (a + 1) 0)) := fun v => by
      show (w1.setCell ⟨g, a, none⟩ v).cell? ⟨g, a + 1, none⟩ = _
      rw [World.cell?_setCell_other _ _ _ _ (by simp)]
      exact y0
    have z1 := z0 _ _ rfl rfl
    clear z0
    generalize l.getD a 0 = x at *
    generalize l.getD (a + 1) 0 = y at *
    have f2 := f1 (.int .i64 y)
    have y2 := y1 (.int .i64 y)
    have kk : Below w.heap.size w ((w1.setCell ⟨g, a, none⟩ (.int .i64 y)).setCell ⟨g, a + 1, none⟩ (.int .i64 x)).drew := (below_set (below_set hb1 hg) hg).drew
    have HZ := Lib.hid (And.intro z1 kk)
    clear z1 kk f1 y1 hh ho1 hb1 hg ht hs hw hmc
    have a3 : (a : Int) + 1 < (n : Int) := by omega
    have n1 : (n : Int) ≤ (c1 : Int) := by omega
    go_wp2_with fail
    refine (hi _).mono ?_
    rintro e w' ⟨rfl, rfl⟩
    go_wp2_with fail
    go_region
    go_wp2
    go_ret
    refine ⟨some ⟨g, 0, none⟩, c1, by rw [HE.out]; rfl, ?_, HZ.out.2⟩
    rw [HE.out]
    exact HZ.out.1
  · have hin : inB i 0 ((n : Int) - 2) = false := by
      unfold inB exB at *
      by_cases q : 0 ≤ i
      · rw [decide_eq_false (by omega : ¬ i ≤ (n : Int) - 2), Bool.and_false]
      · rw [decide_eq_false q]; rfl
    rw [hin] at hi
    have he : exL l i = l := by unfold exL; rw [if_neg hx]
    rw [he]
    have HL := Lib.hid hl
    clear hl hx hin he
    go_enter Tryd.func12, Tryd.ntmps12
    go_wp2_with fail
    refine hc.mono ?_
    intro e w1 hw
    have hw2 := hw.base HB.out
    obtain ⟨A1, c1, rfl, ho1, hb1⟩ := hw2
    rw [HL.out] at ho1 ⊢
    go_wp2_with fail
    refine (hi _).mono ?_
    rintro e w' ⟨rfl, rfl⟩
    go_wp2
    go_ret
    refine ⟨A1, c1, by rw [HL.out]; rfl, ?_, hb1⟩
    rw [HL.out]
    exact ho1
end Go.Proofs.YtcgoaallfhompaaDoor
