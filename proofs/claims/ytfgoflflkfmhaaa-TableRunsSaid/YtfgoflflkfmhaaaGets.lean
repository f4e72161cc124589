/- A table tells what a list has, by numbers. Conditions: none. -/
import Derived.Test.YtfgoflflkfmhaaaAlive
namespace Go.Proofs.Ytfgoflflkfmhaaa
open Go.RowKit Go.Maps

section
variable {B T K M c : Nat} {tv : Value} {D : DataW Unit} {ws : List Txt}

set_option maxRecDepth 100000 in
set_option maxHeartbeats 4000000 in
theorem gets_any (A : Option Addr) (cap : Nat) (w : World) (hT : Tab w B T K M tv D ws c) (hw : Lies w A ws) :
    Calls Try.prog 13 #[.pointer (some ⟨T, 0, none⟩), .slice A ws.length cap] w fun e w' => e = .returned (.bool true) ∧ Below w.heap.size w w' := by
  have hl := hT.most
  have hmiss := fun (W : World) (hb : Below w.heap.size w W) (i : Int) => get_miss i W (hT.below hb)
  have hhit := fun (W : World) (hb : Below w.heap.size w W) (j : Nat) (x : Txt) => get_hit j x W (hT.below hb)
  have hw' := fun (W : World) (hb : Below w.heap.size w W) => hw.below hb
  obtain ⟨n, hn⟩ : ∃ n, n = ws.length := ⟨_, rfl⟩
  rw [← hn] at hl ⊢
  simp only [← hn] at hmiss
  have HN := Lib.hid hn
  clear hn hT hw
  have hn63 : (n : Int) ≤ 4096 := by omega
  go_enter Try.func13, Try.ntmps13
  go_wp2
  go_loopw [5, 6, 7, 8] (fun i _ _ _ wr => ∃ k : Int, i = .int .i64 k ∧ -1 ≤ k ∧ k ≤ n + 1 ∧ Below w.heap.size w wr) (fun i _ _ _ _ => (n + 1 - intOf i).toNat)
  case atStart => exact ⟨-1, rfl, by omega, by omega, Below.refl _ _⟩
  case round =>
    obtain ⟨k, rfl, hk1, hk2, hbr⟩ := hrel
    by_cases h1 : k = -1
    · subst h1
      have g := hmiss wr hbr (-1) (by omega)
      have hn0 : (-1 : Int) ≤ n := by omega
      go_wp2_with fail
      refine g.mono ?_
      rintro e w2 ⟨rfl, hb2⟩
      go_wp2
      go_roundw
      case rel => exact ⟨0, by go_num, by omega, by omega, hbr.trans (hb2.mono hbr.size)⟩
      case measure => simp [intOf]; omega
    · by_cases h2 : k = n
      · subst h2
        have g := hmiss wr hbr n (by omega)
        have hn0 : (0 : Int) ≤ n := by omega
        have hn1 : decide ((n : Int) < 0) = false := by simp
        go_wp2_with fail
        refine g.mono ?_
        rintro e w2 ⟨rfl, hb2⟩
        go_wp2
        go_roundw
        case rel => exact ⟨n + 1, by go_num, by omega, by omega, hbr.trans (hb2.mono hbr.size)⟩
        case measure => simp [intOf]
      · by_cases h3 : k = n + 1
        · subst h3
          have hn1 : decide ((n : Int) + 1 ≤ n) = false := decide_eq_false (by omega)
          go_wp2
          go_ret
          exact ⟨rfl, hbr⟩
        · obtain ⟨j, rfl⟩ : ∃ j : Nat, k = j := ⟨k.toNat, by omega⟩
          have hj : j < ws.length := by rw [← HN.out]; omega
          obtain ⟨x, hx⟩ : ∃ x, ws[j]? = some x := ⟨_, List.getElem?_eq_getElem hj⟩
          have g := hhit wr hbr j x hx
          have hj0 : (j : Int) < n := by omega
          have hj1 : (j : Int) ≤ n := by omega
          have hj2 : decide ((j : Int) < 0) = false := by simp
          have hj3 : ((j : Int) == n) = false := by simpa using h2
          clear h1 h2 h3
          go_wp2_with fail
          refine g.mono ?_
          rintro e w2 ⟨rfl, hb2⟩
          have hb := hbr.trans (hb2.mono hbr.size)
          obtain ⟨gb, rfl, hg, c0, c1⟩ := hw' w2 hb j x hx
          go_wp2
          go_roundw
          case rel => exact ⟨j + 1, by go_num, by omega, by omega, hb⟩
          case measure => simp [intOf]; omega
end
end Go.Proofs.Ytfgoflflkfmhaaa
