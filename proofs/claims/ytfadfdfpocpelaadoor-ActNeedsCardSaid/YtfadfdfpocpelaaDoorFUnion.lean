/- All places of some lists, rising, each once, in a list of the call's own. Conditions: at most 12 places in all, at most ten lists. -/
import Derived.Test.YtfadfdfpocpelaaDoorFSort
namespace Go.Proofs.YtfadfdfpocpelaaDoor
open Go.ChangeShapes Go.WideShapes Go.RowKit Go.Sort

set_option maxRecDepth 100000 in
theorem compact_nil (w : World) : Calls Tryd.prog 50 #[.slice none 0 0] w fun e w' => e = .returned (.slice none 0 0) ∧ w = w' := by
  go_enter Tryd.func50, Tryd.ntmps50
  go_wp2
  go_ret
  exact ⟨rfl, rfl⟩
set_option maxRecDepth 100000 in
set_option maxHeartbeats 1000000 in
theorem union_any {w : World} {g : Nat} {H : List (Sl × List Pl)} {L : List Pl} (h : Head w g H) (hL : H.flatMap (·.2) = L) (hn : L.length ≤ 12) (hm : H.length ≤ 10) :
    Calls Tryd.prog 35 #[.slice (some ⟨g, 0, none⟩) H.length H.length] w fun e w' => ∃ A n cap, e = .returned (.slice A n cap) ∧ SeesP w' ⟨A, n, cap⟩ (normP L) ∧ (∀ g, holds A n g → w.heap.size ≤ g) ∧ Below w.heap.size w w' := by
  have hc := concat_any h hL (by omega) hm
  generalize H.length = m at hc
  clear h hm hL
  go_enter Tryd.func35, Tryd.ntmps35
  go_wp2_with fail
  refine hc.mono ?_
  rintro e w1 ⟨A, cap, rfl, ho, hb⟩
  clear hc
  cases A with
  | none =>
    obtain ⟨c1, c2, c3⟩ := own_cap (own_low ho)
    obtain rfl : cap = 0 := c3 rfl
    obtain rfl : L = [] := List.eq_nil_of_length_eq_zero (by omega)
    have hs := sort_nil
    have hk := compact_nil
    clear ho c1 c2 c3 hn
    go_wp2_with fail
    refine (hs w1).mono ?_
    rintro e w2 ⟨rfl, rfl⟩
    go_wp2_with fail
    refine (hk w1).mono ?_
    rintro e w2 ⟨rfl, rfl⟩
    go_wp2
    go_ret
    exact ⟨none, 0, 0, rfl, sees_nil _, fun g h => (by cases h.2), hb⟩
  | some ad =>
    obtain ⟨g', rfl, hgB⟩ : ∃ g', ad = ⟨g', 0, none⟩ ∧ w.heap.size ≤ g' := by
      rcases id ho.2 with ⟨e, _⟩ | ⟨g', c, cur, e, hB, _⟩
      · cases e
      · injection e with e1 e2 e3
        injection e1 with e1
        exact ⟨g', e1, hB⟩
    have hs := sort_some ho hn
    obtain ⟨n, en⟩ : ∃ n, n = L.length := ⟨_, rfl⟩
    rw [← en] at hs hn
    rw [← en]
    have HB := Lib.hid (And.intro hb (And.intro hgB en))
    clear ho hb hgB en
    go_wp2_with fail
    refine hs.mono ?_
    rintro e w2 ⟨rfl, l', hp, hso, ho, hk⟩
    obtain ⟨hb, hgB, en⟩ := HB.out
    have hl' : l'.length = n := by rw [en]; exact hp.length_eq
    have hcp := compact_some ho (by omega)
    have hd : dedTo l' n = normP L := by
      rw [← hl']
      exact ded_norm (fun i j x y h1 h2 h3 h4 => absurd ((cmpP_neg _ _).2 h4) (by have := hso i j x y h1 h2 h3; omega)) hp
    rw [hd] at hcp
    have hb2 : Below w.heap.size w w2 := hb.trans (hk.under _ hb.size (fun k e => by subst e; exact hgB))
    obtain ⟨NL, eNL⟩ : ∃ NL, NL = normP L := ⟨_, rfl⟩
    rw [← eNL] at hcp
    have HB2 := Lib.hid (And.intro hb2 (And.intro hgB eNL))
    clear eNL ho hso hp hl' hd hb hgB en hk hb2
    go_wp2_with fail
    refine hcp.mono ?_
    rintro e w3 ⟨rfl, hse, hk3⟩
    have HS := Lib.hid (And.intro hse (HB2.out.1.trans (hk3.under _ HB2.out.1.size (fun k e => by subst e; exact HB2.out.2.1))))
    clear hse hk3
    go_wp2
    go_ret
    rw [← HB2.out.2.2]
    exact ⟨_, _, _, rfl, HS.out.1, fun g h => (by
      have e := h.2
      injection e with e
      subst e
      exact HB2.out.2.1), HS.out.2⟩
end Go.Proofs.YtfadfdfpocpelaaDoor
