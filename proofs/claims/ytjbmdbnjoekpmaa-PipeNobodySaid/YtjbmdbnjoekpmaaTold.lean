/- Two lists that are the same; how a pipe stands, told by a list. Conditions: none. -/
import Derived.Test.YtjbmdbnjoekpmaaOwn
namespace Go.Proofs.Ytjbmdbnjoekpmaa
open Go.RowKit Go.Conc

/-- Two lists that are the same. -/
theorem ints_same (A A' : Option Addr) (n cap cap' : Nat) (xs : List Int) (B B' : Nat) (w : World) (h : Row w B A n cap xs) (h' : Row w B' A' n cap' xs) :
    Calls Try.prog 19 #[.slice A n cap, .slice A' n cap'] w fun e w' => e = .returned (.bool true) ∧ Below w.heap.size w w' := by
  have hmx := h.most
  have hrm := h.room
  unfold maxLen at hmx
  go_enter Try.func19, Try.ntmps19
  go_wp2
  go_loopw [5] (fun i wr => ∃ k : Nat, k ≤ n ∧ i = .int .i64 k ∧ Below w.heap.size w wr ∧ Row wr B A n cap xs ∧ Row wr B' A' n cap' xs) (fun i _ => n - (intOf i).toNat)
  case atStart => exact ⟨0, Nat.zero_le _, rfl, Below.refl _ _, h, h'⟩
  case round =>
    obtain ⟨k, hk, rfl, hb, r, r'⟩ := hrel
    by_cases hlt : k < n
    · obtain ⟨ad, rfl⟩ : ∃ ad, A = some ad := by
        cases A with
        | none => have := h.zero.1; omega
        | some ad => exact ⟨ad, rfl⟩
      obtain ⟨ad', rfl⟩ : ∃ ad, A' = some ad := by
        cases A' with
        | none => have := h'.zero.1; omega
        | some ad => exact ⟨ad, rfl⟩
      have hcy := (r.cell ad rfl k hlt).2
      have hcz := (r'.cell ad' rfl k hlt).2
      go_wp2
      go_quiet (fail)
      go_wp2
      go_roundw
      case rel => exact ⟨k + 1, by omega, by go_num, Ytjbmdbnjoekpmaa.Below.drewN hb _, r.drewN _, r'.drewN _⟩
      case measure => simp [intOf]; omega
    · go_wp2
      go_ret
      exact ⟨rfl, hb⟩

theorem told_any (p c room : Nat) (A : Option Addr) (cp B : Nat) (xs : List Int) (w : World) (h : Pip w p c room xs) (ho : Own w B A xs.length cp xs) :
    Calls Try.prog 10 #[.pointer (some ⟨p, 0, none⟩), .slice A xs.length cp, .int .i64 (room : Int)] w fun e w' => e = .returned (.bool true) ∧ Pip w' p c room xs ∧ w.grownBy w' (some c) := by
  have hm := h.most
  have hf := h.holds.fits
  have hmI : (room : Int) ≤ 256 := by omega
  have hfI : (xs.length : Int) ≤ room := by omega
  obtain ⟨n, hn⟩ : ∃ n, n = xs.length := ⟨_, rfl⟩
  have hl : ∀ w, Pip w p c room xs → Calls Try.prog 14 #[.pointer (some ⟨p, 0, none⟩)] w fun e w' => e = .returned (.int .i64 (n : Int)) ∧ Below w.heap.size w w' := by
    rw [hn]
    exact fun w h => len_pipe p c room xs w h
  have hr : ∀ w, Pip w p c room xs → Calls Try.prog 15 #[.pointer (some ⟨p, 0, none⟩)] w fun e w' => e = .returned (.int .i64 ((room : Int) - n)) ∧ Below w.heap.size w w' := by
    rw [hn]
    exact fun w h => room_pipe p c room xs w h
  have ha : ∀ w, Pip w p c room xs → Calls Try.prog 16 #[.pointer (some ⟨p, 0, none⟩)] w fun e w' => ∃ A cp, e = .returned (.slice A n cp) ∧ Row w' w'.heap.size A n cp xs ∧ Pip w' p c room xs ∧ w.grownBy w' (some c) := by
    rw [hn]
    exact fun w h => all_pipe p c room xs w h
  rw [← hn] at hfI ho ⊢
  clear hn hf
  go_enter Try.func10, Try.ntmps10
  go_wp2_with fail
  refine (hl _ h).mono ?_
  rintro e w1 ⟨rfl, hb1⟩
  go_wp2_with fail
  refine (hr _ (h.below hb1)).mono ?_
  rintro e w2 ⟨rfl, hb2⟩
  have h2 := (h.below hb1).below hb2
  go_wp2_with fail
  refine (ha _ h2).mono ?_
  rintro e w3 ⟨A3, cp3, rfl, hr3, h3, hg3⟩
  have ho3 := ((ho.below hb1).below hb2).kept hg3 (((ho.below hb1).below hb2).chan h2.holds)
  go_wp2_with fail
  refine (ints_same _ _ _ _ _ _ _ _ w3 hr3 ho3.row).mono ?_
  rintro e w4 ⟨rfl, hb4⟩
  go_wp2
  go_ret
  exact ⟨rfl, h3.below hb4, ((grown_below hb1 _).trans (grown_below hb2 _)).trans (hg3.trans (grown_below hb4 _))⟩
end Go.Proofs.Ytjbmdbnjoekpmaa
