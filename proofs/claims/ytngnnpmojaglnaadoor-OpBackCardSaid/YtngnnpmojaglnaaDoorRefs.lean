/- What the reference's Name, Shape and Op answer. Conditions: none. -/
import Derived.Test.YtngnnpmojaglnaaDoorAt
import Derived.Test.YtngnnpmojaglnaaDoorWords
namespace Go.Proofs.YtngnnpmojaglnaaDoor
open Go.RowKit

/-- The reference's words: each instruction's name and letters. -/
def pageL : List (List UInt8) := (tab.drop 1).flatMap fun x => [x.1, x.2]
def allL : List UInt8 := joinL pageL
theorem page_len : pageL.length = 50 := rfl
theorem all_words : wordsL allL = pageL := by decide +kernel
theorem all_size : (txt allL).size ≤ 1000 := by rw [txt_size]; decide +kernel
theorem page_name (k : Nat) (h1 : 1 ≤ k) (h2 : k ≤ 25) : pageL.getD (2 * k - 2) [] = nameAt k :=
  (by decide +kernel : ∀ k, k < 26 → 1 ≤ k → pageL.getD (2 * k - 2) [] = nameAt k) k (by omega) h1
theorem page_shape (k : Nat) (h1 : 1 ≤ k) (h2 : k ≤ 25) : pageL.getD (2 * k - 1) [] = shapeAt k :=
  (by decide +kernel : ∀ k, k < 26 → 1 ≤ k → pageL.getD (2 * k - 1) [] = shapeAt k) k (by omega) h1
theorem page_row (w : World) : Calls Tryd.prog 16 #[.string (txt allL)] w fun e w' => ∃ ad cap, e = .returned (.slice (some ad) 50 cap) ∧ 50 ≤ cap ∧ cap ≤ maxLen ∧ (∀ i, i < 50 → w'.cell? (ad.add i) = some (.string (txt (pageL.getD i [])))) ∧ Below w.heap.size w w' := by
  refine (refwords_any (txt allL) all_size w).mono ?_
  rintro e w' ⟨v, rfl, hr, hb⟩
  rw [oct_txt, all_words, page_len] at hr
  obtain ⟨A, cap, rfl, hrow⟩ := Row.own hr
  obtain ⟨ad, rfl, _, _⟩ := hrow.at_ 0 (by decide)
  exact ⟨ad, cap, rfl, hrow.room, hrow.most, fun i hi => (hrow.cell ad rfl i hi).2, hb⟩

set_option maxRecDepth 100000 in
theorem refname_some (k j : Nat) (h1 : 1 ≤ k) (h2 : k ≤ 25) (hj : 2 * k - 2 = j) (w : World) : Calls Tryd.prog 8 #[.int .i64 k] w fun e w' => e = .returned (.string (txt (nameAt k))) ∧ Below w.heap.size w w' := by
  have t0 : decide ((k : Int) < 1) = false := decide_eq_false (by omega)
  have t1 : decide ((25 : Int) < k) = false := decide_eq_false (by omega)
  have hn := page_name k h1 h2
  rw [hj] at hn
  have HN := Lib.hid hn
  have j0 : j < 50 := by omega
  have e1 : 2 * (k : Int) - 2 = j := by omega
  clear hn hj
  go_enter Tryd.func8, Tryd.ntmps8
  go_wp2_with fail
  refine (page_row w).mono ?_
  rintro e w1 ⟨ad, cap, rfl, hc1, hc2, hcell, hb⟩
  have hz := hcell j j0
  rw [HN.out] at hz
  clear hcell
  go_wp2
  go_ret
  exact ⟨rfl, hb⟩
set_option maxRecDepth 100000 in
theorem refshape_some (k j : Nat) (h1 : 1 ≤ k) (h2 : k ≤ 25) (hj : 2 * k - 1 = j) (w : World) : Calls Tryd.prog 10 #[.int .i64 k] w fun e w' => e = .returned (.string (txt (shapeAt k))) ∧ Below w.heap.size w w' := by
  have t0 : decide ((k : Int) < 1) = false := decide_eq_false (by omega)
  have t1 : decide ((25 : Int) < k) = false := decide_eq_false (by omega)
  have hn := page_shape k h1 h2
  rw [hj] at hn
  have HN := Lib.hid hn
  have j0 : j < 50 := by omega
  have e1 : 2 * (k : Int) - 1 = j := by omega
  clear hn hj
  go_enter Tryd.func10, Tryd.ntmps10
  go_wp2_with fail
  refine (page_row w).mono ?_
  rintro e w1 ⟨ad, cap, rfl, hc1, hc2, hcell, hb⟩
  have hz := hcell j j0
  rw [HN.out] at hz
  clear hcell
  go_wp2
  go_ret
  exact ⟨rfl, hb⟩
theorem ref_none (f : Nat) (hf : f = 8 ∨ f = 10) (n : Int) (hn : n < 1 ∨ 25 < n) (w : World) : Calls Tryd.prog f #[.int .i64 n] w fun e w' => e = .returned (.string ⟨#[]⟩) ∧ Below w.heap.size w w' := by
  rcases hn with h | h
  · have t0 : decide (n < 1) = true := decide_eq_true (by omega)
    rcases hf with rfl | rfl
    · go_enter Tryd.func8, Tryd.ntmps8
      go_wp2
      go_ret
      exact ⟨rfl, Below.refl _ _⟩
    · go_enter Tryd.func10, Tryd.ntmps10
      go_wp2
      go_ret
      exact ⟨rfl, Below.refl _ _⟩
  · have t0 : decide (n < 1) = false := decide_eq_false (by omega)
    have t1 : decide (25 < n) = true := decide_eq_true (by omega)
    rcases hf with rfl | rfl
    · go_enter Tryd.func8, Tryd.ntmps8
      go_wp2
      go_ret
      exact ⟨rfl, Below.refl _ _⟩
    · go_enter Tryd.func10, Tryd.ntmps10
      go_wp2
      go_ret
      exact ⟨rfl, Below.refl _ _⟩
theorem refname_any (n : Int) (w : World) : Calls Tryd.prog 8 #[.int .i64 n] w fun e w' => e = .returned (.string (txt (nameZ n))) ∧ Below w.heap.size w w' := by
  cases hn : isOp n with
  | false =>
    have e0 : nameZ n = [] := by simp [nameZ, hn]
    have := of_decide_eq_false hn
    rw [e0]
    exact ref_none 8 (.inl rfl) n (by omega) w
  | true =>
    have e0 : nameZ n = nameAt n.toNat := by simp [nameZ, hn]
    have hb := of_decide_eq_true hn
    obtain ⟨k, rfl⟩ : ∃ k : Nat, n = k := ⟨n.toNat, by omega⟩
    rw [e0]
    exact refname_some k _ (by omega) (by omega) rfl w
theorem refshape_any (n : Int) (w : World) : Calls Tryd.prog 10 #[.int .i64 n] w fun e w' => e = .returned (.string (txt (shapeZ n))) ∧ Below w.heap.size w w' := by
  cases hn : isOp n with
  | false =>
    have e0 : shapeZ n = [] := by simp [shapeZ, hn]
    have := of_decide_eq_false hn
    rw [e0]
    exact ref_none 10 (.inr rfl) n (by omega) w
  | true =>
    have e0 : shapeZ n = shapeAt n.toNat := by simp [shapeZ, hn]
    have hb := of_decide_eq_true hn
    obtain ⟨k, rfl⟩ : ∃ k : Nat, n = k := ⟨n.toNat, by omega⟩
    rw [e0]
    exact refshape_some k _ (by omega) (by omega) rfl w

set_option maxRecDepth 100000 in
theorem refop_any (s : ByteArray) (w : World) : Calls Tryd.prog 13 #[.string s] w fun e w' => e = .returned (.int .i64 (opOf (oct s) : Nat)) ∧ Below w.heap.size w w' := by
  go_enter Tryd.func13, Tryd.ntmps13
  go_wp2_with fail
  refine (page_row w).mono ?_
  rintro e w1 ⟨ad, cap, rfl, hc1, hc2, hcell, hb⟩
  have HC := Lib.hid hcell
  clear hcell
  go_wp2
  go_loop [4] (fun i => ∃ k : Nat, k ≤ 25 ∧ i = .int .i64 k ∧ ∀ j, 1 ≤ j → j ≤ k → nameAt j ≠ oct s) (fun i => 25 - (intOf i).toNat)
  case atStart => exact ⟨0, by decide, rfl, fun j h1 h2 => by omega⟩
  case round =>
    obtain ⟨k, hk, rfl, hno⟩ := hrel
    by_cases hlt : k < 25
    · have t0 : decide ((k : Int) < 25) = true := decide_eq_true (by omega)
      have hz := HC.out (2 * k) (by omega)
      have hp := page_name (k + 1) (by omega) (by omega)
      have ek : 2 * (k + 1) - 2 = 2 * k := by omega
      rw [ek] at hp
      rw [hp] at hz
      obtain ⟨j, hj⟩ : ∃ j, 2 * k = j := ⟨_, rfl⟩
      rw [hj] at hz
      have j0 : j < 50 := by omega
      have e1 : 2 * (k : Int) = j := by omega
      clear hp ek hj
      by_cases he : nameAt (k + 1) = oct s
      · have t1 : decide (txt (nameAt (k + 1)) = s) = true := decide_eq_true (by rw [he, txt_oct])
        rw [← eq_txt] at t1
        have hop : opOf (oct s) = k + 1 := by rw [← he]; exact opOf_some (by omega) (by omega)
        have HO := Lib.hid hop
        clear hop he hno
        go_wp2
        go_ret
        exact ⟨by rw [HO.out]; rfl, hb⟩
      · have t1 : decide (txt (nameAt (k + 1)) = s) = false := decide_eq_false (fun e => he (by rw [← e, oct_txt]))
        rw [← eq_txt] at t1
        have HN := Lib.hid hno
        have HE := Lib.hid he
        clear hno he
        go_wp2
        go_round
        case rel => exact ⟨k + 1, by omega, by go_num, fun j h1 h2 => by
          by_cases e : j = k + 1
          · subst e; exact HE.out
          · exact HN.out j h1 (by omega)⟩
        case measure => simp [intOf]; omega
    · have t0 : decide ((k : Int) < 25) = false := decide_eq_false (by omega)
      have hop : opOf (oct s) = 0 := opOf_none (fun j h1 h2 => hno j h1 (by omega))
      have HO := Lib.hid hop
      clear hop hno
      go_wp2
      go_ret
      exact ⟨by rw [HO.out]; rfl, hb⟩
end Go.Proofs.YtngnnpmojaglnaaDoor
