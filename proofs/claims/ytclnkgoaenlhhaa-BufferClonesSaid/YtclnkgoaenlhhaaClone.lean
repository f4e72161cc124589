/- A clone of a buffer: apart from it, of the same room and stores. Conditions: none. -/
import Derived.Test.YtclnkgoaenlhhaaRuns
namespace Go.Proofs.Ytclnkgoaenlhhaa
open Go.RowKit Go.Conc Go.ChangeShapes Go.WideShapes

/-- How it stands behind k rounds. -/
structure Cloned (w wr : World) (p c p2 c2 room : Nat) (A : Option Addr) (cp : Nat) (xs : List Ent) (k B : Nat) : Prop where
  old : Buf wr p c room xs
  new : Buf wr p2 c2 room (xs.take k)
  list : Own wr B A xs.length cp xs
  grown : w.grownBy wr (some c)
  far : w.heap.size ≤ p2 ∧ w.heap.size ≤ c2

set_option maxRecDepth 100000 in
set_option maxHeartbeats 4000000 in
theorem clone_any (p c room : Nat) (xs : List Ent) (w : World) (h : Buf w p c room xs) :
    Calls Try.prog 11 #[.pointer (some ⟨p, 0, none⟩)] w fun e w' => ∃ p2 c2, e = .returned (.pointer (some ⟨p2, 0, none⟩)) ∧ Buf w' p c room xs ∧ Buf w' p2 c2 room xs ∧ w.heap.size ≤ p2 ∧ w.heap.size ≤ c2 ∧ w.grownBy w' (some c) := by
  have hm := h.most
  have hclt := h.holds.lt
  have hplt := h.lt
  have hnear : near (room : Int) = room := by
    unfold near
    rw [if_neg (by omega), if_neg (by omega)]
    omega
  have hnew := fun w => new_any (room : Int) w
  rw [hnear] at hnew
  clear hnear
  have hf := h.holds.fits
  go_enter Try.func11, Try.ntmps11
  go_wp2_with fail
  refine h.row.mono ?_
  rintro e w' ⟨rfl, rfl⟩
  go_wp2_with fail
  refine (made_any c w).mono ?_
  rintro e w' ⟨rfl, rfl⟩
  go_wp2_with fail
  refine h.row.mono ?_
  rintro e w' ⟨rfl, rfl⟩
  go_wp2_with fail
  refine (size_any c room xs w h.holds).mono ?_
  rintro e w' ⟨rfl, rfl⟩
  go_wp2_with fail
  refine (hnew w).mono ?_
  rintro e w5 ⟨p2, c2, rfl, k5, hp2, hc2, hb5⟩
  have h5 := h.below hb5
  go_wp2_with fail
  refine (all_buf p c room xs w5 h5).mono ?_
  rintro e w6 ⟨A, cp, rfl, ho6, h6, hg6⟩
  have hl6 : Own w6 w5.heap.size A xs.length cp xs := by
    obtain ⟨A', cp', e1, h1⟩ := own_of ho6
    cases e1
    exact h1
  have HC : Cloned w w6 p c p2 c2 room A cp xs 0 w5.heap.size :=
    ⟨h6, by
      rw [List.take_zero]
      exact k5.kept hg6 (by intro e; injection e with e; omega) (by intro e; injection e with e; omega), hl6, (grown_below hb5 _).trans hg6, by omega, by omega⟩
  clear k5 h5 hg6 ho6 h6 hl6 hnew
  obtain ⟨n, hn⟩ : ∃ n, n = xs.length := ⟨_, rfl⟩
  rw [← hn]
  have hnI : (n : Int) ≤ 4 := by omega
  have HN := Lib.hid hn
  clear hn
  go_wp2_with fail
  go_loopw [17] (fun i wr => ∃ k : Nat, i = .int .i64 k ∧ k ≤ n ∧ Cloned w wr p c p2 c2 room A cp xs k w5.heap.size) (fun i _ => n - (intOf i).toNat)
  case atStart => exact ⟨0, rfl, Nat.zero_le _, HC⟩
  case round =>
    obtain ⟨k, rfl, hk, HCr⟩ := hrel
    clear HC
    by_cases hlt : k < n
    · have hl := HN.out
      obtain ⟨g, o, rfl, hr⟩ := sees_at' HCr.list.sees (show k < xs.length by omega)
      obtain ⟨x, hx⟩ : ∃ x, x = xs.getD k noE := ⟨_, rfl⟩
      rw [← hx] at hr
      have e3 : xs.take k ++ [x] = xs.take (k + 1) := by
        rw [hx]
        exact (round_one xs k (by omega)).2.2
      have d0 : wr.cell? ⟨g, o + k * 8, none⟩ = some (.int .i64 x.x.k) := hr 0 _ rfl
      have d1 : wr.cell? ⟨g, o + k * 8 + 1, none⟩ = some (.int .i64 x.x.i) := hr 1 _ rfl
      have d2 : wr.cell? ⟨g, o + k * 8 + 2, none⟩ = some (.int .i64 x.x.j) := hr 2 _ rfl
      have d3 : wr.cell? ⟨g, o + k * 8 + 3, none⟩ = some (.int .i64 x.v.n) := hr 3 _ rfl
      have d4 : wr.cell? ⟨g, o + k * 8 + 4, none⟩ = some (.int .i64 x.v.c) := hr 4 _ rfl
      have d5 : wr.cell? ⟨g, o + k * 8 + 5, none⟩ = some (.int .i64 x.v.g) := hr 5 _ rfl
      have d6 : wr.cell? ⟨g, o + k * 8 + 6, none⟩ = some (.int .i64 x.g) := hr 6 _ rfl
      have d7 : wr.cell? ⟨g, o + k * 8 + 7, none⟩ = some (.int .i64 x.p) := hr 7 _ rfl
      have hb : Below wr.heap.size wr (wr.alloc (.cells #[.int .i64 x.x.k, .int .i64 x.x.i, .int .i64 x.x.j, .int .i64 x.v.n, .int .i64 x.v.c, .int .i64 x.v.g, .int .i64 x.g, .int .i64 x.p] 35)) := (Below.refl _ _).alloc (Nat.le_refl _) _
      have hxn : Blk (wr.alloc (.cells #[.int .i64 x.x.k, .int .i64 x.x.i, .int .i64 x.x.j, .int .i64 x.v.n, .int .i64 x.v.c, .int .i64 x.v.g, .int .i64 x.g, .int .i64 x.p] 35)) wr.heap.size 35 #[.int .i64 x.x.k, .int .i64 x.x.i, .int .i64 x.x.j, .int .i64 x.v.n, .int .i64 x.v.c, .int .i64 x.v.g, .int .i64 x.g, .int .i64 x.p] := blk_new wr _ _ _ rfl
      have q0 : (wr.alloc (.cells #[.int .i64 x.x.k, .int .i64 x.x.i, .int .i64 x.x.j, .int .i64 x.v.n, .int .i64 x.v.c, .int .i64 x.v.g, .int .i64 x.g, .int .i64 x.p] 35)).cell? ⟨wr.heap.size, 0, none⟩ = some (.int .i64 x.x.k) := hxn.cell 0
      have q1 : (wr.alloc (.cells #[.int .i64 x.x.k, .int .i64 x.x.i, .int .i64 x.x.j, .int .i64 x.v.n, .int .i64 x.v.c, .int .i64 x.v.g, .int .i64 x.g, .int .i64 x.p] 35)).cell? ⟨wr.heap.size, 1, none⟩ = some (.int .i64 x.x.i) := hxn.cell 1
      have q2 : (wr.alloc (.cells #[.int .i64 x.x.k, .int .i64 x.x.i, .int .i64 x.x.j, .int .i64 x.v.n, .int .i64 x.v.c, .int .i64 x.v.g, .int .i64 x.g, .int .i64 x.p] 35)).cell? ⟨wr.heap.size, 2, none⟩ = some (.int .i64 x.x.j) := hxn.cell 2
      have q3 : (wr.alloc (.cells #[.int .i64 x.x.k, .int .i64 x.x.i, .int .i64 x.x.j, .int .i64 x.v.n, .int .i64 x.v.c, .int .i64 x.v.g, .int .i64 x.g, .int .i64 x.p] 35)).cell? ⟨wr.heap.size, 3, none⟩ = some (.int .i64 x.v.n) := hxn.cell 3
      have q4 : (wr.alloc (.cells #[.int .i64 x.x.k, .int .i64 x.x.i, .int .i64 x.x.j, .int .i64 x.v.n, .int .i64 x.v.c, .int .i64 x.v.g, .int .i64 x.g, .int .i64 x.p] 35)).cell? ⟨wr.heap.size, 4, none⟩ = some (.int .i64 x.v.c) := hxn.cell 4
      have q5 : (wr.alloc (.cells #[.int .i64 x.x.k, .int .i64 x.x.i, .int .i64 x.x.j, .int .i64 x.v.n, .int .i64 x.v.c, .int .i64 x.v.g, .int .i64 x.g, .int .i64 x.p] 35)).cell? ⟨wr.heap.size, 5, none⟩ = some (.int .i64 x.v.g) := hxn.cell 5
      have q6 : (wr.alloc (.cells #[.int .i64 x.x.k, .int .i64 x.x.i, .int .i64 x.x.j, .int .i64 x.v.n, .int .i64 x.v.c, .int .i64 x.v.g, .int .i64 x.g, .int .i64 x.p] 35)).cell? ⟨wr.heap.size, 6, none⟩ = some (.int .i64 x.g) := hxn.cell 6
      have q7 : (wr.alloc (.cells #[.int .i64 x.x.k, .int .i64 x.x.i, .int .i64 x.x.j, .int .i64 x.v.n, .int .i64 x.v.c, .int .i64 x.v.g, .int .i64 x.g, .int .i64 x.p] 35)).cell? ⟨wr.heap.size, 7, none⟩ = some (.int .i64 x.p) := hxn.cell 7
      have hput := push_buf p2 c2 room x (xs.take k) _ (HCr.new.below hb)
      have hlk : (xs.take k).length < room := by rw [List.length_take]; omega
      simp only [putN, hlk, decide_true, if_true, e3] at hput
      have hkI : (k : Int) < (n : Int) := by omega
      have hk0 : (0 : Int) ≤ (k : Int) := by omega
      have HX := Lib.hid hx
      clear hx e3 hlk hl hr
      go_wp2_with fail
      refine hput.mono ?_
      rintro e w7 ⟨rfl, k7, hg7⟩
      have hcc : c ≠ c2 := by have := HCr.far.2; omega
      have hl7 := HCr.list.below hb
      have hn7 := HCr.new.below hb
      have ho7 := HCr.old.below hb
      have HC7 : Cloned w w7 p c p2 c2 room (some ⟨g, o, none⟩) cp xs (k + 1) w5.heap.size :=
        ⟨ho7.kept hg7 (by intro e; injection e with e; have := HCr.far.2; omega) (by intro e; injection e with e; exact hcc e), k7, hl7.kept hg7 (hl7.chan hn7.holds),
          (HCr.grown.trans (grown_below hb _)).andThen hg7 (fun j hj => by injection hj with hj; rw [← hj]; exact .inl HCr.far.2), HCr.far⟩
      clear k7 hg7 HCr hl7 hn7 ho7 hput hxn hb
      go_wp2
      go_roundw
      case rel => exact ⟨k + 1, by go_num, by omega, HC7⟩
      case measure => simp [intOf]; omega
    · obtain rfl : k = n := by omega
      go_wp2
      go_ret
      have hnw := HCr.new
      rw [List.take_of_length_le (by rw [HN.out]; omega)] at hnw
      exact ⟨p2, c2, rfl, HCr.old, hnw, HCr.far.1, HCr.far.2, HCr.grown⟩
end Go.Proofs.Ytclnkgoaenlhhaa
