/- What Without answers where some picks are left out. Conditions: lists have room for a copy. -/
import Derived.Test.YtcgoaallfhompaaDoorList
namespace Go.Proofs.YtcgoaallfhompaaDoor
open Go.RowKit Go.ChangeShapes Go.WideShapes
set_option linter.unusedSimpArgs false
set_option linter.unusedVariables false

set_option maxRecDepth 100000 in
set_option maxHeartbeats 2000000 in
theorem without_some {w : World} {A : Option Addr} {n cap : Nat} {l : List Int} (h : SeesI w A n cap l) (hn : n ≤ 100000000000) (a : Nat) (k : Int) (ha : a < n) (h1 : 1 ≤ k) (hkw : k ≤ 9223372036854775807) :
    Calls Tryd.prog 11 #[.slice A n cap, .int .i64 (a : Int), .int .i64 k] w (OwnL (l.take a ++ l.drop (a + k.toNat)) w) := by
  have hl := h.len
  have hr := Sees.room h
  have hno := Sees.none_ h
  obtain ⟨b, hb⟩ : ∃ b : Nat, b = min (a + k.toNat) n := ⟨_, rfl⟩
  have hbn : b ≤ n := by omega
  have hd : l.drop (a + k.toNat) = l.drop b := by
    by_cases q : a + k.toNat ≤ n
    · rw [hb, Nat.min_eq_left q]
    · rw [hb, Nat.min_eq_right (by omega), List.drop_eq_nil_of_le (by omega), List.drop_eq_nil_of_le (by omega)]
  rw [hd]
  clear hd
  have hw0 : IntKind.i64.wrap ((n : Int) - 1) = (n : Int) - 1 := by rw [IntKind.wrap_i64]; omega
  have hw1 : IntKind.i64.wrap ((n : Int) - (a : Int)) = (n : Int) - (a : Int) := by rw [IntKind.wrap_i64]; omega
  have hi := fun W => in_any a 0 ((n : Int) - 1) W
  have hin : inB (a : Int) 0 ((n : Int) - 1) = true := by
    unfold inB
    rw [decide_eq_true (by omega), decide_eq_true (by omega)]
    rfl
  rw [hin] at hi
  have t0 : decide (k < 1) = false := decide_eq_false (by omega)
  have k0 : Below w.heap.size w w.drew := (Below.refl _ w).drew
  have s1 := upto_Lint64 A n cap a (by omega) hno
  have s2 := from28 A n cap b hbn
  have f1 : SeesI w A a cap (l.take a) := Sees.first int1_len h a (by omega) (by omega)
  have f2 := h.rest hbn
  have hlen : (l.take a ++ l.drop b).length * 8 ≤ 140737488355328 := by rw [List.length_append, List.length_take, List.length_drop]; omega
  have hc := concat2 (f1.on k0) (f2.on k0) hlen
  obtain ⟨A2, eA2⟩ : ∃ A2, tailA A b cap = A2 := ⟨_, rfl⟩
  obtain ⟨n2, en2⟩ : ∃ n2, n - b = n2 := ⟨_, rfl⟩
  obtain ⟨c2, ec2⟩ : ∃ c2, cap - b = c2 := ⟨_, rfl⟩
  rw [eA2, en2, ec2] at s2 hc
  clear eA2 en2 ec2 f1 f2 hin hlen
  generalize l.take a ++ l.drop b = L at *
  have a0 : (0 : Int) ≤ (a : Int) := by omega
  have a1 : (a : Int) ≤ (n : Int) := by omega
  have a2 : (n : Int) ≤ (cap : Int) := by omega
  by_cases q : k ≤ (n : Int) - (a : Int)
  · have hbk : (a : Int) + k = (b : Int) := by omega
    have hw2 : IntKind.i64.wrap ((a : Int) + k) = (b : Int) := by rw [IntKind.wrap_i64]; omega
    have m0 : min k ((n : Int) - (a : Int)) = k := by omega
    have HZ := Lib.hid (And.intro hl (And.intro hb (And.intro hbk hn)))
    clear hl hb hbk
    go_enter Tryd.func11, Tryd.ntmps11
    go_wp2_with fail
    refine (hi _).mono ?_
    rintro e w' ⟨rfl, rfl⟩
    go_wp2_with fail
    go_region_held3 (fun W => Below w.heap.size w W) (first | exact k0 | exact k0.alloc k0.size _ | exact k5)
      (first | (go_at_call 21; refine hc.mono ?_; intro e w5 hw; have hw5 := hw.base (k0.alloc k0.size _); obtain ⟨A5, c5, rfl, ho5, k5⟩ := hw5))
    go_wp2
    go_ret
    exact ⟨A5, c5, rfl, ho5, k5⟩
  · have hbk : b = n := by omega
    have hw2 : IntKind.i64.wrap ((a : Int) + ((n : Int) - (a : Int))) = (b : Int) := by rw [IntKind.wrap_i64]; omega
    have m0 : min k ((n : Int) - (a : Int)) = (n : Int) - (a : Int) := by omega
    have HZ := Lib.hid (And.intro hl (And.intro hb (And.intro hbk hn)))
    clear hl hb hbk
    go_enter Tryd.func11, Tryd.ntmps11
    go_wp2_with fail
    refine (hi _).mono ?_
    rintro e w' ⟨rfl, rfl⟩
    go_wp2_with fail
    go_region_held3 (fun W => Below w.heap.size w W) (first | exact k0 | exact k0.alloc k0.size _ | exact k5)
      (first | (go_at_call 21; refine hc.mono ?_; intro e w5 hw; have hw5 := hw.base (k0.alloc k0.size _); obtain ⟨A5, c5, rfl, ho5, k5⟩ := hw5))
    go_wp2
    go_ret
    exact ⟨A5, c5, rfl, ho5, k5⟩
end Go.Proofs.YtcgoaallfhompaaDoor
