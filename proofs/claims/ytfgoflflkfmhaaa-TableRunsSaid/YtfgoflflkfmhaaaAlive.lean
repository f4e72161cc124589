/- The check of two texts under one sum that each law begins with. Conditions: none. -/
import Derived.Test.YtfgoflflkfmhaaaPut
namespace Go.Proofs.Ytfgoflflkfmhaaa
open Go.RowKit Go.Maps

set_option maxRecDepth 100000 in
theorem alive_any (w : World) : Calls Try.prog 5 #[] w fun e w' => e = .returned (.bool true) ∧ Below w.heap.size w w' := by
  go_enter Try.func5, Try.ntmps5
  go_wp2_with fail
  refine (new_any w).mono ?_
  rintro e w1 ⟨T, K, M, tv, D, rfl, h1, hb1⟩
  have p1 := put_new 5 ⟨#[97]⟩ w1 h1 ⟨by decide, by decide⟩ rfl (by simp)
  simp only [List.length_nil, List.nil_append, Int.natCast_zero] at p1
  go_wp2_with fail
  refine p1.mono ?_
  rintro e w2 ⟨rfl, ht2, tv2, D2, h2⟩
  have p2 := put_new 5 ⟨#[98]⟩ w2 h2 ⟨by decide, by decide⟩ (by decide) (by simp)
  simp only [List.length_cons, List.length_nil, Nat.zero_add, Int.natCast_one] at p2
  go_wp2_with fail
  refine p2.mono ?_
  rintro e w3 ⟨rfl, ht3, tv3, D3, h3⟩
  have p3 := clashes_tab w3 h3
  have e3 : (([(5, ⟨#[97]⟩)] ++ [(5, ⟨#[98]⟩)] : List Txt).length : Int) - (sumsN 5 [(5, ⟨#[97]⟩)] (sumsN 5 [] 0) : Nat) = 1 := by decide
  rw [e3] at p3
  have hb := (hb1.trans ht2.below).trans ht3.below
  have hs := hb1.trans ht2.below |>.size
  clear p1 p2 h1 h2 h3 e3
  go_wp2_with (go_at_call 12; refine p3.mono ?_; rintro e w4 ⟨rfl, hb4⟩)
  go_ret
  exact ⟨rfl, hb.trans (hb4.mono hb.size)⟩

/-! ### the law's own list -/
/-- The texts lie behind A, in three cells each. -/
def Lies (w : World) (A : Option Addr) (ws : List Txt) : Prop := ∀ (j : Nat) (x : Txt), ws[j]? = some x → ∃ g, A = some ⟨g, 0, none⟩ ∧ g < w.heap.size ∧ w.cell? ⟨g, j * 3, none⟩ = some (.int .u64 x.1) ∧ w.cell? ⟨g, j * 3 + 1, none⟩ = some (.string x.2)
theorem Lies.below {w w' : World} {A : Option Addr} {ws : List Txt} (h : Lies w A ws) (hb : Below w.heap.size w w') : Lies w' A ws := fun j x hx => by
  obtain ⟨g, h1, h2, h3, h4⟩ := h j x hx
  exact ⟨g, h1, Nat.lt_of_lt_of_le h2 hb.size, (hb.cell h2).trans h3, (hb.cell h2).trans h4⟩
/-- Where a text stands; -1: nowhere. -/
def placeN (o : Option Nat) : Int := match o with | some j => (j : Int) | none => -1

theorem spot_some {h : Int} {s : ByteArray} {ws : List Txt} {j : Nat} {x : Txt} (hx : ws[j]? = some x) (hs : same h s x = true) (hno : ∀ i y, i < j → ws[i]? = some y → same h s y = false) : spot h s ws = some j := by
  obtain ⟨hj, e⟩ := List.getElem?_eq_some_iff.1 hx
  refine List.findIdx?_eq_some_iff_getElem.2 ⟨hj, by rw [e]; exact hs, fun i hi => ?_⟩
  rw [hno i _ hi (List.getElem?_eq_getElem (by omega))]
  decide
theorem spot_none {h : Int} {s : ByteArray} {ws : List Txt} (hno : ∀ i y, i < ws.length → ws[i]? = some y → same h s y = false) : spot h s ws = none := by
  refine List.findIdx?_eq_none_iff.2 fun y hy => ?_
  obtain ⟨i, hi, e⟩ := List.mem_iff_getElem.1 hy
  exact hno i y hi (by rw [List.getElem?_eq_getElem hi, e])

set_option maxRecDepth 100000 in
set_option maxHeartbeats 2000000 in
theorem place_any (A : Option Addr) (cap : Nat) (ws : List Txt) (h : Int) (s : ByteArray) (f : Bool) (w : World) (hw : Lies w A ws) (hl : ws.length ≤ 4096) :
    Calls Try.prog 7 #[.slice A ws.length cap, .agg #[.int .u64 h, .string s, .bool f]] w fun e w' => e = .returned (.int .i64 (placeN (spot h s ws))) ∧ Below w.heap.size w w' := by
  have b0 : Below w.heap.size w (w.alloc (.cells #[.int .u64 h, .string s, .bool f] 29)) := (Below.refl _ w).alloc (Nat.le_refl _) _
  obtain ⟨n, hn⟩ : ∃ n, n = ws.length := ⟨_, rfl⟩
  rw [← hn] at hl ⊢
  have HN := Lib.hid hn
  clear hn
  have hn63 : (n : Int) ≤ 4096 := by omega
  obtain ⟨w0, hw0⟩ : ∃ w0, w0 = w.alloc (.cells #[.int .u64 h, .string s, .bool f] 29) := ⟨_, rfl⟩
  have x0 : w0.cell? ⟨w.heap.size, 0, none⟩ = some (.int .u64 h) := by rw [hw0]; exact cell_of_row _ _ 0 _ 29 (0, 0) (heap_alloc_new w _)
  have x1 : w0.cell? ⟨w.heap.size, 1, none⟩ = some (.string s) := by rw [hw0]; exact cell_of_row _ _ 1 _ 29 (0, 0) (heap_alloc_new w _)
  have l0 : w.heap.size < w0.heap.size := by rw [hw0]; simp
  rw [← hw0] at b0
  have hw1 := hw.below b0
  have e0 := hw0.symm
  clear hw0
  go_enter Try.func7, Try.ntmps7
  go_wp2
  go_loopw [5] (fun i wr => ∃ k : Nat, i = .int .i64 k ∧ k ≤ n ∧ (∀ j x, j < k → ws[j]? = some x → same h s x = false) ∧ Below w0.heap.size w0 wr) (fun i _ => n - (intOf i).toNat)
  case atStart => exact ⟨0, rfl, Nat.zero_le _, fun j x hj => absurd hj (Nat.not_lt_zero _), Below.refl _ _⟩
  case round =>
    obtain ⟨k, rfl, hkn, hno, hbr⟩ := hrel
    by_cases hk : k < n
    · have hk' : k < ws.length := by rw [← HN.out]; exact hk
      obtain ⟨x, hx⟩ : ∃ x, ws[k]? = some x := ⟨_, List.getElem?_eq_getElem hk'⟩
      obtain ⟨g, rfl, hg, c0, c1⟩ := hw1 k x hx
      have r0 := (hbr.cell (p := ⟨g, k * 3, none⟩) hg).trans c0
      have r1 := (hbr.cell (p := ⟨g, k * 3 + 1, none⟩) hg).trans c1
      have y0 := (hbr.cell (p := ⟨w.heap.size, 0, none⟩) l0).trans x0
      have y1 := (hbr.cell (p := ⟨w.heap.size, 1, none⟩) l0).trans x1
      have hk2 : (k : Int) < n := by omega
      obtain ⟨t, ht⟩ : ∃ t, t = (x.1 == h) := ⟨_, rfl⟩
      obtain ⟨u, hu⟩ : ∃ u, u = (x.2.toList == s.toList) := ⟨_, rfl⟩
      have HS : Hid (same h s x = (t && u)) := by
        rw [ht, hu, eq_txt]
        simp [Hid, same]
        rfl
      have ht' := ht.symm
      have hu' := hu.symm
      clear ht hu hw1 hw
      have next : same h s x = false → ∀ j y, j < k + 1 → ws[j]? = some y → same h s y = false := fun e j y hj hy => by
        by_cases ej : j = k
        · subst ej
          rw [hx] at hy
          injection hy with hy
          rw [← hy]
          exact e
        · exact hno j y (by omega) hy
      cases t with
      | false =>
        go_wp2
        go_quiet (fail)
        go_wp2
        go_roundw
        case rel => exact ⟨k + 1, by go_num, by omega, next HS.out, Below.drewN hbr _⟩
        case measure => simp [intOf]; omega
      | true =>
        cases u with
        | false =>
          go_wp2
          go_quiet (fail)
          go_wp2
          go_roundw
          case rel => exact ⟨k + 1, by go_num, by omega, next HS.out, Below.drewN hbr _⟩
          case measure => simp [intOf]; omega
        | true =>
          go_wp2
          go_quiet (fail)
          go_wp2
          go_ret
          exact ⟨by rw [spot_some hx HS.out hno]; rfl, b0.trans ((Below.drewN hbr _).mono b0.size)⟩
    · obtain rfl : k = n := by omega
      go_wp2
      go_ret
      have hp := spot_none (h := h) (s := s) (ws := ws) (by rw [← HN.out]; exact hno)
      exact ⟨by rw [hp]; rfl, b0.trans (hbr.mono b0.size)⟩

set_option maxRecDepth 100000 in
set_option maxHeartbeats 2000000 in
theorem under_any (A : Option Addr) (cap : Nat) (ws : List Txt) (h : Int) (w : World) (hw : Lies w A ws) (hl : ws.length ≤ 4096) :
    Calls Try.prog 10 #[.slice A ws.length cap, .int .u64 h] w fun e w' => e = .returned (.bool (isUnder h ws)) ∧ w = w' := by
  obtain ⟨n, hn⟩ : ∃ n, n = ws.length := ⟨_, rfl⟩
  rw [← hn] at hl ⊢
  have HN := Lib.hid hn
  clear hn
  have hn63 : (n : Int) ≤ 4096 := by omega
  go_enter Try.func10, Try.ntmps10
  go_wp2
  go_loop [5] (fun i => ∃ k : Nat, i = .int .i64 k ∧ k ≤ n ∧ ∀ j x, j < k → ws[j]? = some x → decide (x.1 = h) = false) (fun i => n - (intOf i).toNat)
  case atStart => exact ⟨0, rfl, Nat.zero_le _, fun j x hj => absurd hj (Nat.not_lt_zero _)⟩
  case round =>
    obtain ⟨k, rfl, hkn, hno⟩ := hrel
    by_cases hk : k < n
    · have hk' : k < ws.length := by rw [← HN.out]; exact hk
      obtain ⟨x, hx⟩ : ∃ x, ws[k]? = some x := ⟨_, List.getElem?_eq_getElem hk'⟩
      obtain ⟨g, rfl, hg, c0, _⟩ := hw k x hx
      have hk2 : (k : Int) < n := by omega
      obtain ⟨t, ht⟩ : ∃ t, t = (x.1 == h) := ⟨_, rfl⟩
      have HS : Hid (decide (x.1 = h) = t) := by
        rw [ht]
        simp [Hid]
        rfl
      have ht' := ht.symm
      clear ht hw
      cases t with
      | false =>
        go_wp2
        go_round
        case rel =>
          refine ⟨k + 1, by go_num, by omega, fun j y hj hy => ?_⟩
          by_cases ej : j = k
          · subst ej
            rw [hx] at hy
            injection hy with hy
            rw [← hy]
            exact HS.out
          · exact hno j y (by omega) hy
        case measure => simp [intOf]; omega
      | true =>
        go_wp2
        go_ret
        have hu : isUnder h ws = true := by
          unfold isUnder
          rw [List.any_eq_true]
          exact ⟨x, List.mem_of_getElem? hx, HS.out⟩
        exact ⟨by rw [hu]; rfl, rfl⟩
    · obtain rfl : k = n := by omega
      go_wp2
      go_ret
      have hu : isUnder h ws = false := by
        unfold isUnder
        rw [List.any_eq_false]
        intro x hx
        obtain ⟨j, hj, e⟩ := List.mem_iff_getElem.1 hx
        rw [hno j x (by rw [HN.out]; exact hj) (by rw [List.getElem?_eq_getElem hj, e])]
        decide
      exact ⟨by rw [hu]; rfl, rfl⟩
end Go.Proofs.Ytfgoflflkfmhaaa
