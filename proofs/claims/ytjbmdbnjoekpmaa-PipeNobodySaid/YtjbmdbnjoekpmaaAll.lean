/- All numbers of a pipe, as a list of the call's own: the row goes round once. Conditions: none. -/
import Derived.Test.YtjbmdbnjoekpmaaMake
import Derived.Maps.Range
import Derived.Below
import Derived.Deep.QuietTactic
import Derived.BigQuiet
namespace Go.Proofs.Ytjbmdbnjoekpmaa
open Go.RowKit Go.Conc

theorem info3 : (Try.prog.info? 3).map (fun i => (i.zero, i.size, i.bytes)) = some (some (.int .i64 0), 1, 8) := by kernel_rfl
theorem ints_snoc (xs : List Int) (x : Int) : ints xs ++ [Value.int .i64 x] = ints (xs ++ [x]) := by simp [ints]
/-- One number further round. -/
theorem round_one (xs : List Int) (k : Nat) (hk : k < xs.length) : xs.drop k ++ xs.take k = xs.getD k 0 :: (xs.drop (k + 1) ++ xs.take k) ∧ (xs.drop (k + 1) ++ xs.take k) ++ [xs.getD k 0] = xs.drop (k + 1) ++ xs.take (k + 1) ∧ xs.take k ++ [xs.getD k 0] = xs.take (k + 1) := by
  have e : xs.getD k 0 = xs[k] := by simp [List.getD, List.getElem?_eq_getElem hk]
  rw [e, List.drop_eq_getElem_cons hk, List.take_succ_eq_append_getElem hk]
  exact ⟨rfl, by simp, rfl⟩

theorem lower {w : World} {base base' : Nat} {e : TypeId} {size : Nat} {v : Value} {n : Nat} {xs : List Value} (h : w.ownsRow base e size v n xs) (hb : base' ≤ base) : w.ownsRow base' e size v n xs := by
  refine ⟨h.1, ?_⟩
  rcases h.2 with hn | ⟨g, cap, cur, hv, hg, rest⟩
  · exact .inl hn
  · exact .inr ⟨g, cap, cur, hv, Nat.le_trans hb hg, rest⟩
/-- How it stands behind k rounds: the call's own box of the row lies at the block behind all that was there. -/
structure Gone (w wr : World) (c cap : Nat) (xs : List Int) (k : Nat) (v : Value) : Prop where
  own : wr.ownsRow (w.heap.size + 1) 3 1 v k (ints (xs.take k))
  holds : Holds wr c cap (xs.drop k ++ xs.take k)
  grown : w.grownBy wr (some c)
  more : w.heap.size + 1 ≤ wr.heap.size
  cell : wr.cell? ⟨w.heap.size, 0, none⟩ = some (.chan (some c))
section
variable {w wr w' : World} {c cap k : Nat} {xs : List Int} {v : Value}
theorem Gone.far (h : Gone w wr c cap xs k v) (hc : c < w.heap.size) : v.ownBlock ≠ some c := fun e => by
  have := (h.own.lt c e).1
  omega
theorem Gone.chan (h : Gone w wr c cap xs k v) (hc : c < w.heap.size) (hg : wr.grownBy w' (some c)) :
    w'.ownsRow (w.heap.size + 1) 3 1 v k (ints (xs.take k)) ∧ w.grownBy w' (some c) ∧ w.heap.size + 1 ≤ w'.heap.size ∧ w'.cell? ⟨w.heap.size, 0, none⟩ = some (.chan (some c)) :=
  ⟨h.own.kept hg (.inr (h.far hc)), h.grown.trans hg, Nat.le_trans h.more hg.size, hg.cell h.cell (by simp; omega)⟩
end

set_option maxRecDepth 100000 in
theorem all_row (c cap : Nat) (xs : List Int) (w : World) (h : Holds w c cap xs) (hm : cap ≤ 256) :
    Calls Try.prog 26 #[.agg #[.chan (some c)]] w fun e w' => ∃ v, e = .returned v ∧ w'.ownsRow w.heap.size 3 1 v xs.length (ints xs) ∧ Holds w' c cap xs ∧ w.grownBy w' (some c) := by
  obtain ⟨i0, hi, hz0, hz1, hz2⟩ := info_parts info3
  have hlt := h.lt
  have hf := h.fits
  obtain ⟨n, hn⟩ : ∃ n, n = xs.length := ⟨_, rfl⟩
  have hl : ∀ w, Holds w c cap xs → Calls Try.prog 25 #[.agg #[.chan (some c)]] w fun e w' => e = .returned (.int .i64 (n : Int)) ∧ Below w.heap.size w w' := by
    rw [hn]
    exact fun w h => length_any c cap xs w h
  have hn256 : (n : Int) ≤ 256 := by omega
  have HN := Lib.hid hn
  have HF := Lib.hid hf
  have HM := Lib.hid hm
  clear hn hf hm
  have HI := Lib.hid hi
  have HZ0 := Lib.hid hz0
  have HZ1 := Lib.hid hz1
  have HZ2 := Lib.hid hz2
  clear hi hz0 hz1 hz2
  have hb0 : Below w.heap.size w (w.alloc (.cells #[.chan (some c)] 38)) := (Below.refl _ w).alloc (Nat.le_refl _) _
  have hx0 : (w.alloc (.cells #[.chan (some c)] 38)).heap[w.heap.size]? = some (.cells #[.chan (some c)] 38 (0, 0)) := heap_alloc_new w _
  go_enter Try.func26, Try.ntmps26
  go_wp2_with fail
  refine (hl _ (h.below hb0)).mono ?_
  rintro e w1 ⟨rfl, hb1⟩
  rw [World.size_alloc] at hb1
  have hs1 := hb1.size
  rw [World.size_alloc] at hs1
  have hB1 : Below w.heap.size w w1 := hb0.trans (hb1.mono (by omega))
  have hx1 : w1.cell? ⟨w.heap.size, 0, none⟩ = some (.chan (some c)) := cell_of_row w1 w.heap.size 0 _ 38 (0, 0) ((hb1.block _ (by omega)).trans hx0)
  go_wp2_with (first
    | (at_make; refine wpList_make_own _ rfl _ _ 27 rfl (w.heap.size + 1) 3 i0 (.int .i64 0) 1 Try.underlying27 HI.out HZ0.out HZ1.out .i64 .i64 _ n rfl rfl (by omega) (by rw [HZ2.out]; omega) (by unfold maxLen; omega) (by omega) ?_; intro w2 hown2 hg2; have hx2 := hg2.cell hx1 (by simp); have hB2 : Below w.heap.size w w2 := hB1.grown hg2 (by omega) (by simp); have hs2 := hg2.size))
  refine (hl _ (h.below hB2)).mono ?_
  rintro e w3 ⟨rfl, hb3⟩
  have hs3 := hb3.size
  have hx3 : w3.cell? ⟨w.heap.size, 0, none⟩ = some (.chan (some c)) := (grown_below hb3 none).cell hx2 (by simp)
  have hB3 : Below w.heap.size w w3 := hB2.trans (hb3.mono (by omega))
  have hown3 := hown2.kept (grown_below hb3 none) (.inr (by simp [Value.ownBlock]))
  have H0 : Gone w w3 c cap xs 0 (.slice (some ⟨w1.heap.size, 0, none⟩) 0 n) :=
    ⟨by simpa [ints] using hown3, by simpa using h.below hB3, grown_below hB3 _, by omega, hx3⟩
  clear hown3 hown2 hx3 hB3 hx2 hx1 hg2 hB2 hB1 hx0 hb0 hb1
  go_wp2_with fail
  go_loopw [3, 11] (fun v i wr => ∃ k : Nat, k ≤ n ∧ i = .int .i64 k ∧ Gone w wr c cap xs k v) (fun _ i _ => n - (intOf i).toNat)
  case atStart => exact ⟨0, Nat.zero_le _, rfl, H0⟩
  case round =>
    obtain ⟨k, hk, rfl, HG⟩ := hrel
    clear H0
    have hx := HG.cell
    by_cases hlk : k < n
    · obtain ⟨e1, e2, e3⟩ := round_one xs k (by rw [← HN.out]; exact hlk)
      have hh := HG.holds
      rw [e1] at hh
      have E2 := Lib.hid e2
      have E3 := Lib.hid e3
      clear e1 e2 e3
      obtain ⟨x, hxx⟩ : ∃ x, x = xs.getD k 0 := ⟨_, rfl⟩
      rw [← hxx] at hh E2 E3
      have HX := Lib.hid hxx
      clear hxx
      have hln : (xs.drop (k + 1) ++ xs.take k).length < cap := by
        have := hh.fits
        simp only [List.length_cons] at this
        omega
      go_wp2_with fail
      refine (take_first c cap x _ wr hh).mono ?_
      rintro e w4 ⟨rfl, hh4, hg4⟩
      obtain ⟨ho4, hB4, hm4, hx4⟩ := HG.chan hlt hg4
      have hf4 := HG.far hlt
      go_wp2_with fail
      refine (put_room c cap x _ w4 hh4 hln).mono ?_
      rintro e w5 ⟨rfl, hh5, hg5⟩
      rw [E2.out] at hh5
      have ho5 := ho4.kept hg5 (.inr hf4)
      have hB5 := hB4.trans hg5
      have hx5 := hg5.cell hx4 (by simp; omega)
      have hm5 := Nat.le_trans hm4 hg5.size
      clear hh hh4 hg4 hg5 hx4 hx ho4 hB4 hln
      go_wp2_with (first
        | (at_builtin; refine wpList_append_own _ rfl (.tmp 21) (.tmp 23) 27 rfl (w.heap.size + 1) 3 i0 (.int .i64 0) 1 8 Try.underlying27 HI.out HZ0.out HZ1.out HZ2.out rfl (by decide) _ _ _ rfl (ho5.alloc _) ⟨w5.heap.size, 0, none⟩ 1 1 [.int .i64 x] rfl rfl (cell_one_new _ _ _) (by simp [Value.oneCell']) (by unfold maxLen; omega) (by omega) (by simp; omega) ?_; intro v6 w6 ho6 hg6 _))
      rw [ints_snoc, E3.out] at ho6
      have hs6 := hg6.size
      rw [World.size_alloc] at hs6
      have HG6 : Gone w w6 c cap xs (k + 1) v6 := by
        have ha := World.grownBy_alloc w5 (.cells #[.int .i64 x] 3) none
        refine ⟨ho6, (hh5.kept ha (by simp)).kept hg6 (fun e => hf4 e.symm), ?_, by omega, hg6.cell (ha.cell hx5 (by simp)) (fun e => ?_)⟩
        · refine (hB5.trans (World.grownBy_alloc w5 _ _)).andThen hg6 (fun j hj => ?_)
          have := (ho5.lt j hj).1
          left
          omega
        · have := (ho5.lt _ e.symm).1
          simp at this
          omega
      clear hg6 ho6 hh5 ho5 hx5 hB5 HG
      go_wp2
      go_roundw
      case rel => exact ⟨k + 1, by omega, by go_num, HG6⟩
      case measure => simp [intOf]; omega
    · have ek : k = n := by omega
      subst ek
      go_wp2
      go_ret
      have hl := HN.out
      have e1 : xs.take k = xs := List.take_of_length_le (by omega)
      have e2 : xs.drop k = [] := List.drop_eq_nil_of_le (by omega)
      have ho := HG.own
      have hh := HG.holds
      rw [e1] at ho hh
      rw [e2] at hh
      refine ⟨_, rfl, ?_, by simpa using hh, HG.grown⟩
      rw [← hl]
      exact lower ho (by omega)

/-- The slice value '.slice A n cap' holds the numbers xs, and lies below block B. -/
structure Row (w : World) (B : Nat) (A : Option Addr) (n cap : Nat) (xs : List Int) : Prop where
  len : xs.length = n
  room : n ≤ cap
  most : cap ≤ maxLen
  none_ : A = none → cap = 0
  cell : ∀ ad, A = some ad → ∀ i, i < n → ad.block < B ∧ w.cell? (ad.add i) = some (.int .i64 (xs.getD i 0))
theorem add_block (a : Addr) (n : Nat) : (a.add n).block = a.block := by unfold Addr.add; split <;> rfl
section
variable {w w' : World} {B n cap : Nat} {A : Option Addr} {xs : List Int}
theorem Row.nil (w : World) (B : Nat) : Row w B none 0 0 [] := ⟨rfl, Nat.le_refl _, Nat.zero_le _, fun _ => rfl, fun _ h => (by cases h)⟩
theorem Row.below (h : Row w B A n cap xs) (hb : Below B w w') : Row w' B A n cap xs :=
  ⟨h.len, h.room, h.most, h.none_, fun ad ha i hi => ⟨(h.cell ad ha i hi).1, (hb.cell (by rw [add_block]; exact (h.cell ad ha i hi).1)).trans (h.cell ad ha i hi).2⟩⟩
theorem Row.drewN (h : Row w B A n cap xs) (q : Nat) : Row (w.drewN q) B A n cap xs :=
  ⟨h.len, h.room, h.most, h.none_, h.cell⟩
theorem Below.drewN {b : Nat} (h : Below b w w') (q : Nat) : Below b w (w'.drewN q) := ⟨h.os, h.tape, h.output, h.size, h.block⟩
theorem Row.zero (h : Row w B none n cap xs) : n = 0 ∧ cap = 0 ∧ xs = [] := by
  have hc := h.none_ rfl
  have hr := h.room
  have hl := h.len
  exact ⟨by omega, hc, List.eq_nil_of_length_eq_zero (by omega)⟩
/-- What the call owns reads so. -/
theorem Row.own {base : Nat} {v : Value} (h : w.ownsRow base 3 1 v n (ints xs)) : ∃ A cap, v = .slice A n cap ∧ Row w w.heap.size A n cap xs := by
  have hl : xs.length = n := by have := h.1; simp [ints] at this; omega
  rcases h.2 with ⟨rfl, rfl⟩ | ⟨g, cap, cur, rfl, _, hg, hnc, hcm, hcs, ht⟩
  · refine ⟨none, 0, rfl, ?_⟩
    obtain rfl : xs = [] := List.eq_nil_of_length_eq_zero hl
    exact Row.nil _ _
  · refine ⟨_, cap, rfl, hl, hnc, hcm, fun hh => (by cases hh), fun ad ha i hi => ?_⟩
    injection ha with ha
    subst ha
    refine ⟨(Array.getElem?_eq_some_iff.1 hg).1, h.cells (g := g) rfl i _ ?_⟩
    rw [ints, List.getElem?_map, List.getElem?_eq_getElem (by omega)]
    simp [List.getD, List.getElem?_eq_getElem (show i < xs.length by omega)]
end

theorem all_pipe (p c cap : Nat) (xs : List Int) (w : World) (h : Pip w p c cap xs) :
    Calls Try.prog 16 #[.pointer (some ⟨p, 0, none⟩)] w fun e w' => ∃ A cp, e = .returned (.slice A xs.length cp) ∧ Row w' w'.heap.size A xs.length cp xs ∧ Pip w' p c cap xs ∧ w.grownBy w' (some c) := by
  go_enter Try.func16, Try.ntmps16
  go_wp2_with (first
    | (go_at_call 20; refine h.row.mono ?_; rintro e w1 ⟨rfl, hb1, h1⟩)
    | (go_at_call 26; refine (all_row c cap xs _ h1.holds h.most).mono ?_; rintro e w2 ⟨v, rfl, ho2, h2, hg2⟩))
  go_ret
  obtain ⟨A, cp, rfl, hr⟩ := Row.own ho2
  exact ⟨A, cp, rfl, hr, h1.turned hg2 h2, below_grown hb1 hg2⟩
end Go.Proofs.Ytjbmdbnjoekpmaa
