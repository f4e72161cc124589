/- PickSwitches holds. Conditions: none. -/
import Derived.Test.YtcgoaallfhompaaDoorAlive
namespace Go.Proofs.YtcgoaallfhompaaDoor
open Go.RowKit Go.ChangeShapes Go.WideShapes
set_option linter.unusedSimpArgs false
set_option linter.unusedVariables false

theorem without_any {w : World} {A : Option Addr} {n cap : Nat} {l : List Int} (h : SeesI w A n cap l) (hn : n ≤ 100000000000) (i k : Int) (hk : k ≤ 9223372036854775807) :
    Calls Tryd.prog 11 #[.slice A n cap, .int .i64 i, .int .i64 k] w (OwnL (woL l i k) w) := by
  by_cases ho : outB l i k
  · have hl := h.len
    have e : woL l i k = l.take i.toNat ++ l.drop (i.toNat + k.toNat) := by unfold woL; rw [if_pos ho]
    rw [e]
    obtain ⟨h1, h0, h2⟩ := ho
    obtain ⟨a, rfl⟩ := Int.eq_ofNat_of_zero_le h0
    exact without_some h hn a k (by omega) h1 hk
  · have e : woL l i k = l := by unfold woL; rw [if_neg ho]
    rw [e]
    exact without_all h hn i k ho
theorem getJ {w : World} {A : Option Addr} {n cap : Nat} {l : List Int} (h : SeesI w A n cap l) {k : Nat} (hk : k + 1 < n) : ∃ g o, A = some ⟨g, o, none⟩ ∧ w.cell? ⟨g, o + k, none⟩ = some (.int .i64 (l.getD k 0)) ∧ w.cell? ⟨g, o + (k + 1), none⟩ = some (.int .i64 (l.getD (k + 1) 0)) := by
  obtain ⟨g, o, e, c0⟩ := h.get (k := k) (by omega)
  obtain ⟨g', o', e', d0⟩ := h.get hk
  rw [e] at e'
  injection e' with e'
  injection e' with e1 e2 _
  subst e1 e2
  exact ⟨g, o, e, c0, d0⟩
set_option maxRecDepth 100000 in
set_option maxHeartbeats 4000000 in
theorem switches_law {w : World} {A : Option Addr} {n cap : Nat} {l0 : List Int} (h0 : SeesI w A n cap l0) (i q : Int) (hq : q ≤ 9223372036854775807) : Calls Tryd.prog 5 #[.slice A n cap, .int .i64 i, .int .i64 q] w (Trial w) := by
  go_enter Tryd.func5, Tryd.ntmps5
  go_wp2_with fail
  refine (alive_any w).mono ?_
  rintro e w1 ⟨rfl, hb1⟩
  go_wp2_with fail
  refine (few_any (h0.on hb1)).mono ?_
  rintro e w1' ⟨⟨m, rfl, h, hm⟩, rfl⟩
  clear h0
  generalize l0.take 80 = l at h
  have hl := h.len
  have hsl := sw_len l
  have HE := Lib.hid hl
  clear hl
  go_wp2_with fail
  go_loopw [7, 8] (fun s i wr => ∃ (j c : Nat), i = .int .i64 ((j : Int) + 1) ∧ j ≤ m ∧ s = .int .i64 c ∧ c + swL (l.drop j) = swL l ∧ Below w1.heap.size w1 wr) (fun _ i _ => m + 2 - (intOf i).toNat)
  case atStart => exact ⟨0, 0, rfl, Nat.zero_le _, rfl, by simp, Below.refl _ _⟩
  case round =>
    obtain ⟨j, c, rfl, hj, rfl, hc, hb⟩ := hrel
    by_cases hlt : j + 1 < m
    · have t0 : decide ((j : Int) + 1 < (m : Int)) = true := decide_eq_true (by omega)
      have t1 : (j : Int) + 1 < (m : Int) := by omega
      have hjl : j + 1 < l.length := by rw [HE.out]; exact hlt
      have hst := sw_step l j hjl
      obtain ⟨g, o, rfl, c0, d0⟩ := getJ (h.on hb) hlt
      have hw1 : IntKind.i64.wrap ((j : Int) + 1 - 1) = (j : Int) := by rw [IntKind.wrap_i64]; omega
      have hw2 : IntKind.i64.wrap ((j : Int) + 1 + 1) = (j : Int) + 1 + 1 := by rw [IntKind.wrap_i64]; omega
      have hcn : c ≤ 80 := by have := HE.out; omega
      have hw3 : IntKind.i64.wrap ((c : Int) + 1) = (c : Int) + 1 := by rw [IntKind.wrap_i64]; omega
      generalize l.getD j 0 = x at c0 hst
      generalize l.getD (j + 1) 0 = y at d0 hst
      have b0 : (0 : Int) ≤ (j : Int) := by omega
      have b1 : (j : Int) < (m : Int) := by omega
      have b2 : (0 : Int) ≤ (j : Int) + 1 := by omega
      by_cases exy : x = y
      · have t2 : (y != x) = false := by simp [exy]
        rw [if_pos exy] at hst
        have HX := Lib.hid (And.intro exy (And.intro hst (And.intro hc hb)))
        clear exy hst hc
        go_wp2
        go_quiet (fail)
        go_wp2
        go_roundw
        case rel => exact ⟨j + 1, c, by simp, by omega, rfl, by have := HX.out.2.1; have := HX.out.2.2.1; omega, below_dn hb _⟩
        case measure => simp [intOf]; omega
      · have t2 : (y != x) = true := by simp [Ne.symm exy]
        rw [if_neg exy] at hst
        have HX := Lib.hid (And.intro exy (And.intro hst (And.intro hc hb)))
        clear exy hst hc
        go_wp2
        go_quiet (fail)
        go_wp2
        go_roundw
        case rel => exact ⟨j + 1, c + 1, by simp, by omega, by simp, by have := HX.out.2.1; have := HX.out.2.2.1; omega, below_dn hb _⟩
        case measure => simp [intOf]; omega
    · have t0 : decide ((j : Int) + 1 < (m : Int)) = false := decide_eq_false (by omega)
      have t1 : (m : Int) ≤ (j : Int) + 1 := by omega
      have hz := sw_last l j (by rw [HE.out]; omega)
      have hcc : c = swL l := by omega
      subst hcc
      have hs1 := switches_any (h.on hb) (by omega)
      have hwo := fun W (hW : Below w1.heap.size w1 W) => without_any (h.on hW) (by omega) i q hq
      have hle := sw_wo l i q
      have hwl := wo_len l i q
      rw [HE.out] at hwl
      generalize swL l = S at *
      obtain ⟨V, eV⟩ : ∃ V, swL (woL l i q) = V := ⟨_, rfl⟩
      rw [eV] at hle
      have hs2 := fun (W : World) (A2 : Option Addr) (c2 : Nat) (hh : SeesI W A2 (woL l i q).length c2 (woL l i q)) => switches_any hh (by omega)
      rw [eV] at hs2
      have t5 : decide ((V : Int) ≤ (S : Int)) = true := decide_eq_true (by omega)
      have t6 : (V : Int) ≤ (S : Int) := by omega
      have HX := Lib.hid (And.intro hle (And.intro hwl eV))
      clear hc hz hle hwl eV
      generalize woL l i q = L2 at *
      go_wp2_with fail
      refine hs1.mono ?_
      rintro e w3 ⟨rfl, hb3⟩
      have hb3' : Below w1.heap.size w1 w3 := hb.trans (hb3.mono hb.size)
      go_wp2_with fail
      refine (hwo w3 hb3').mono ?_
      rintro e w4 ⟨A4, c4, rfl, ho4, hb4⟩
      go_wp2_with fail
      refine (hs2 w4 A4 c4 (own_sees ho4)).mono ?_
      rintro e w5 ⟨rfl, hb5⟩
      go_wp2
      go_ret
      refine ⟨by simp [t6], ?_⟩
      have x1 := hb1.trans (hb3'.mono hb1.size)
      have x2 := x1.trans (hb4.mono x1.size)
      exact x2.trans (hb5.mono x2.size)
end Go.Proofs.YtcgoaallfhompaaDoor
