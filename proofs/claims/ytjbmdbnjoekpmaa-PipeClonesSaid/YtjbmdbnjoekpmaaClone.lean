/- A clone of a pipe: apart from it, of the same room and numbers. Conditions: none. -/
import Derived.Test.YtjbmdbnjoekpmaaRuns
namespace Go.Proofs.Ytjbmdbnjoekpmaa
open Go.RowKit Go.Conc

theorem cell_chan {w : World} {c k : Nat} {ys : List Int} (h : Holds w c k ys) {a : Addr} (ha : a.block = c) : w.cell? a = none := by
  obtain ⟨s, r, hc⟩ := h.block
  simp [World.cell?, ha, hc]
section
variable {w w' : World} {B n cap : Nat} {A : Option Addr} {xs : List Int}
theorem Row.kept {row : Option Nat} (h : Row w B A n cap xs) (hg : w.grownBy w' row) (hne : ∀ ad, A = some ad → 0 < n → some ad.block ≠ row) : Row w' B A n cap xs :=
  ⟨h.len, h.room, h.most, h.none_, fun ad ha i hi => ⟨(h.cell ad ha i hi).1, hg.cell (h.cell ad ha i hi).2 (by rw [add_block]; exact hne ad ha (by omega))⟩⟩
theorem Row.chan {c k : Nat} {ys : List Int} (h : Row w B A n cap xs) (hc : Holds w c k ys) : ∀ ad, A = some ad → 0 < n → some ad.block ≠ some c := by
  intro ad ha hn e
  injection e with e
  have h1 := (h.cell ad ha 0 hn).2
  rw [cell_chan hc (by rw [add_block]; exact e)] at h1
  cases h1
end

/-- How it stands behind k rounds. -/
structure Cloned (w wr : World) (p c p2 c2 room : Nat) (A : Option Addr) (cp : Nat) (xs : List Int) (k B : Nat) : Prop where
  old : Pip wr p c room xs
  new : Pip wr p2 c2 room (xs.take k)
  list : Row wr B A xs.length cp xs
  grown : w.grownBy wr (some c)
  far : w.heap.size ≤ p2 ∧ w.heap.size ≤ c2

theorem clone_any (p c room : Nat) (xs : List Int) (w : World) (h : Pip w p c room xs) :
    Calls Try.prog 11 #[.pointer (some ⟨p, 0, none⟩)] w fun e w' => ∃ p2 c2, e = .returned (.pointer (some ⟨p2, 0, none⟩)) ∧ Pip w' p c room xs ∧ Pip w' p2 c2 room xs ∧ w.heap.size ≤ p2 ∧ w.heap.size ≤ c2 ∧ w.grownBy w' (some c) := by
  have hm := h.most
  have hclt := h.holds.lt
  have hnear : near (room : Int) = room := by
    unfold near
    rw [if_neg (by omega), if_neg (by omega)]
    omega
  have hnew := fun w => new_any (room : Int) w
  rw [hnear] at hnew
  clear hnear
  have hf := h.holds.fits
  go_enter Try.func11, Try.ntmps11
  go_wp2_with fail
  refine h.row.mono ?_
  rintro e w1 ⟨rfl, hb1, h1⟩
  go_wp2_with fail
  refine (made_any c w1).mono ?_
  rintro e w2 ⟨rfl, hb2⟩
  have h2 := h1.below hb2
  go_wp2_with fail
  refine h2.row.mono ?_
  rintro e w3 ⟨rfl, hb3, h3⟩
  go_wp2_with fail
  refine (size_any c room xs w3 h3.holds).mono ?_
  rintro e w4 ⟨rfl, hb4⟩
  have h4 := h3.below hb4
  go_wp2_with fail
  refine (hnew w4).mono ?_
  rintro e w5 ⟨p2, c2, rfl, k5, hp2, hc2, hb5⟩
  have h5 := h4.below hb5
  go_wp2_with fail
  refine (all_pipe p c room xs w5 h5).mono ?_
  rintro e w6 ⟨A, cp, rfl, hr6, h6, hg6⟩
  have hb15 : Below w.heap.size w w5 := (((hb1.trans (hb2.mono hb1.size)).trans (hb3.mono (Nat.le_trans hb1.size hb2.size))).trans (hb4.mono (Nat.le_trans (Nat.le_trans hb1.size hb2.size) hb3.size))).trans (hb5.mono (Nat.le_trans (Nat.le_trans (Nat.le_trans hb1.size hb2.size) hb3.size) hb4.size))
  have hs4 : w.heap.size ≤ w4.heap.size := Nat.le_trans (Nat.le_trans (Nat.le_trans hb1.size hb2.size) hb3.size) hb4.size
  have HC : Cloned w w6 p c p2 c2 room A cp xs 0 w6.heap.size :=
    ⟨h6, by
      rw [List.take_zero]
      exact k5.kept hg6 (by intro e; injection e with e; have := k5.lt; have := h4.holds.lt; have := h4.lt; omega) (by intro e; injection e with e; have := h4.holds.lt; omega), hr6, (grown_below hb15 _).trans hg6, by omega, by omega⟩
  clear k5 h5 hg6 hb15 hb5 h4 hb4 h3 hb3 h2 hb2 hb1 h1 hr6 h6 hnew hs4
  obtain ⟨n, hn⟩ : ∃ n, n = xs.length := ⟨_, rfl⟩
  rw [← hn]
  have hnI : (n : Int) ≤ 256 := by omega
  have HN := Lib.hid hn
  clear hn
  go_wp2_with fail
  go_loopw [17] (fun i wr => ∃ k : Nat, i = .int .i64 k ∧ k ≤ n ∧ Cloned w wr p c p2 c2 room A cp xs k w6.heap.size) (fun i _ => n - (intOf i).toNat)
  case atStart => exact ⟨0, rfl, Nat.zero_le _, HC⟩
  case round =>
    obtain ⟨k, rfl, hk, HCr⟩ := hrel
    clear HC
    by_cases hlt : k < n
    · obtain ⟨ad, rfl⟩ : ∃ ad, A = some ad := by
        cases A with
        | none => have := HCr.list.zero.1; have := HN.out; omega
        | some ad => exact ⟨ad, rfl⟩
      have hl := HN.out
      have hcy := (HCr.list.cell ad rfl k (by omega)).2
      obtain ⟨x, hx⟩ : ∃ x, x = xs.getD k 0 := ⟨_, rfl⟩
      rw [← hx] at hcy
      have e3 : xs.take k ++ [x] = xs.take (k + 1) := by
        rw [hx]
        exact (round_one xs k (by omega)).2.2
      have hput := put_pipe p2 c2 room x (xs.take k) wr HCr.new
      have hlk : (xs.take k).length < room := by rw [List.length_take]; omega
      simp only [putN, hlk, decide_true, if_true, e3] at hput
      have HX := Lib.hid hx
      clear hx e3 hlk hl
      go_wp2_with fail
      refine hput.mono ?_
      rintro e w7 ⟨rfl, k7, hg7⟩
      have hcc : c ≠ c2 := by have := HCr.far.2; omega
      have HC7 : Cloned w w7 p c p2 c2 room (some ad) cp xs (k + 1) w6.heap.size :=
        ⟨HCr.old.kept hg7 (by intro e; injection e with e; have := HCr.far.2; have := h.lt; omega) (by intro e; injection e with e; exact hcc e), k7, HCr.list.kept hg7 (HCr.list.chan HCr.new.holds),
          HCr.grown.andThen hg7 (fun j hj => by injection hj with hj; rw [← hj]; exact .inl HCr.far.2), HCr.far⟩
      clear k7 hg7 HCr
      go_wp2
      go_roundw
      case rel => exact ⟨k + 1, by go_num, by omega, HC7⟩
      case measure => simp [intOf]; omega
    · obtain rfl : k = n := by omega
      go_wp2
      go_ret
      have hnw := HCr.new
      rw [List.take_of_length_le (by rw [HN.out]; omega)] at hnw
      exact ⟨p2, c2, rfl, HCr.old, hnw, HCr.far.1, HCr.far.2, HCr.grown⟩
end Go.Proofs.Ytjbmdbnjoekpmaa
