/- What is reached, plainly, round by round. Conditions: at most 8 cells, at most 1000 words. -/
import Derived.Test.YtenobgelhkpjcaaFrom
import Derived.Test.YtenobgelhkpjcaaReached
namespace Go.Proofs.Ytenobgelhkpjcaa
open Go.ChangeShapes Go.WideShapes Go.RowKit
section
variable {w : World} {C : List Cel} {l : List Wd} {A Ac : Option Addr} {n cap nc cc : Nat}
theorem ownB_below {w' : World} {B n k : Nat} {t : TypeId} {v : Value} {vs : List Value} (h : w.ownsRow B t k v n vs) (hb : Below w.heap.size w w') : w'.ownsRow B t k v n vs := by
  refine ⟨h.1, ?_⟩
  rcases h.2 with hn | ⟨g, c, cur, e, hB, hg, rest⟩
  · exact .inl hn
  · exact .inr ⟨g, c, cur, e, hB, (hb.block g (Array.getElem?_eq_some_iff.1 hg).1).trans hg, rest⟩
/-- A cell of a list of bools is set. -/
theorem bool_put {A : Option Addr} {n cap j g B : Nat} {G : List Bool} (b : Bool) (h : w.ownsRow B 4 1 (.slice A n cap) n (bools G)) (hA : A = some ⟨g, 0, none⟩) (hj : j < G.length) :
    (w.setCell ⟨g, j, none⟩ (.bool b)).ownsRow B 4 1 (.slice A n cap) n (bools (G.set j b)) := by
  have := own_put (x := b) bool_len (by omega) h hA hj
  rw [show j * 1 = j by omega] at this
  exact this
set_option maxRecDepth 100000 in
set_option maxHeartbeats 2000000 in
theorem rounds_any (hw : Sees w 3 A n cap (flatW l)) (hc : Sees w 10 Ac nc cc (flatC C)) (hn : n ≤ 1000) (hnc : nc ≤ 8) : Calls Try.prog 11 #[.slice A n cap, .slice Ac nc cc] w (Tells C l w) := by
  obtain ⟨i0, hi, hz0, hz1, hz2⟩ := info_parts info4
  have hlC : C.length = nc := by
    have := hc.len
    unfold flatC at this
    rw [flat_len Cel.len] at this
    omega
  go_enter Try.func11, Try.ntmps11
  go_wp2_with fail
  go_loopw [5, 6] (fun v i wr => ∃ (j : Nat) (A' : Option Addr) (c' : Nat), v = .slice A' j c' ∧ i = .int .i64 j ∧ j ≤ nc ∧ wr.ownsRow w.heap.size 4 1 (.slice A' j c') j (bools (List.replicate j false)) ∧ Below w.heap.size w wr) (fun _ i _ => nc - (intOf i).toNat)
  case atStart => exact ⟨0, none, 0, rfl, rfl, Nat.zero_le _, World.ownsRow_nil _ _ _ _, Below.refl _ _⟩
  case round =>
    obtain ⟨j, A', c', rfl, rfl, hj, ho, hb⟩ := hrel
    by_cases hlt : j < nc
    · have t0 : decide ((j : Int) < (nc : Int)) = true := decide_eq_true (by omega)
      have ho1 := ho.alloc (.cells #[.bool false] 4)
      have hsz := hb.size
      go_wp2_with (at_builtin; refine wpList_append_lies _ rfl _ _ 28 rfl w.heap.size 4 i0 (.bool false) 1 1 Try.underlying28 hi hz0 hz1 hz2 rfl (by decide) (.slice A' j c') j (bools (List.replicate j false)) rfl ho1 ⟨wr.heap.size, 0, none⟩ 1 1 [.bool false] rfl rfl (World.news_of_block (cs := #[.bool false]) (t := 4) (fr := (0, 0)) (heap_alloc_new wr _)) (by simp [Value.oneCell']) (by decide) (by unfold maxLen; omega) (by omega) (by simp; omega) (wr.heap.size + 1) (by simp) ?_; intro gg cp w5 hown hgrow hat hlt2)
      go_roundw
      case rel =>
        refine ⟨j + 1, some ⟨gg, 0, none⟩, cp, rfl, by simp, by omega, ?_, ?_⟩
        · rw [show bools (List.replicate (j + 1) false) = bools (List.replicate j false) ++ [.bool false] by rw [List.replicate_succ']; simp [bools]]
          exact hown
        · have h1 := hb.alloc hb.size (.cells #[.bool false] 4)
          exact h1.trans ((kept_grown hgrow).under _ h1.size (fun k e => own_new ho1 k ((own_lies _ _ _ _).1 e.symm.symm)))
      case measure => simp [intOf]; omega
    · obtain rfl : j = nc := by omega
      have t0 : decide ((j : Int) < (j : Int)) = false := decide_eq_false (by omega)
      clear hlt
      have hstart : Rnd C l (List.replicate j false) 0 := by rw [← hlC]; exact rnd0 C l
      go_wp2_with fail
      generalize wr = w1 at ho hb ⊢
      go_loopw [19] (fun v wx => ∃ (t : Nat) (G : List Bool), v = .int .i64 t ∧ t ≤ j ∧ wx.ownsRow w.heap.size 4 1 (.slice A' j c') j (bools G) ∧ Below w.heap.size w wx ∧ Rnd C l G t) (fun v _ => j - (intOf v).toNat)
      case atStart => exact ⟨0, _, rfl, Nat.zero_le _, ho, hb, hstart⟩
      case round =>
        obtain ⟨t, G, rfl, ht, hoG, hbG, hR⟩ := hrel
        clear ho hb hstart
        by_cases hlt : t < j
        · have t0 : decide ((t : Int) < (j : Int)) = true := decide_eq_true (by omega)
          have HR := Lib.hid hR
          have hwt : IntKind.i64.wrap ((t : Int) + 1) = ((t + 1 : Nat) : Int) := by rw [IntKind.wrap_i64]; omega
          go_wp2_with fail
          generalize wr = w2 at hoG hbG ⊢
          go_loopw [7] (fun v wx => ∃ (i : Nat) (G' : List Bool), v = .int .i64 i ∧ i ≤ j ∧ wx.ownsRow w.heap.size 4 1 (.slice A' j c') j (bools G') ∧ Below w.heap.size w wx ∧ Mid C l G G' i) (fun v _ => j - (intOf v).toNat)
          case atStart => exact ⟨0, G, rfl, Nat.zero_le _, hoG, hbG, hR.mid⟩
          case round =>
            obtain ⟨i, G', rfl, hi', hoM, hbM, hM⟩ := hrel
            clear hoG hbG hR
            by_cases hil : i < j
            · have t1 : decide ((i : Int) < (j : Int)) = true := decide_eq_true (by omega)
              have hiG : i < G'.length := by rw [hM.len]; omega
              obtain ⟨b, hbi⟩ : ∃ b, G'[i]? = some b := ⟨_, List.getElem?_eq_getElem hiG⟩
              obtain ⟨gA, eA, ⟨csA, hBA⟩, hr, hth⟩ := own_at bool_len (own_low hoM) hbi (by omega)
              subst eA
              have hgn := own_new hoM gA rfl
              have q0 : wr.cell? ⟨gA, i, none⟩ = some (.bool b) := by have := hr 0 _ rfl; simpa using this
              have f0 : wr.frozen? ⟨gA, i, none⟩ = false := by have := (hth 0 (by omega)).2; simpa using this
              have hM' := Lib.hid hM
              have HO := Lib.hid hoM
              have HB := Lib.hid hbM
              clear hr hth hM hoM hbM
              cases b with
              | true =>
                have hN := hM'.out.next (b := true) (j := i) (by omega) (by simp [hbi])
                have hO := bool_put true HO.out rfl hiG
                have hBx := HB.out.setCell (p := ⟨gA, i, none⟩) hgn (.bool true)
                have HX := Lib.hid (And.intro hN (And.intro hO hBx))
                clear hN hO hBx hbi hBA HO
                go_wp2
                go_roundw
                case rel =>
                  obtain ⟨hN, hO, hBx⟩ := HX.out
                  exact ⟨i + 1, _, by simp, by omega, hO, hBx, hN⟩
                case measure => simp [intOf]; omega
              | false =>
                have hfr := from_any (hw.below HB.out) (hc.below HB.out) (own_sees HO.out) hn (by omega) hil
                go_wp2_with fail
                refine hfr.mono ?_
                rintro e w3 ⟨b, rfl, hbb, hb3⟩
                have hN := hM'.out.next (b := b) (j := i) (by omega) (by rw [hbb, hbi]; simp)
                have hoW := ownB_below HO.out hb3
                have hO := bool_put b hoW rfl hiG
                have hBw := HB.out.trans (hb3.mono HB.out.size)
                have hBx := hBw.setCell (p := ⟨gA, i, none⟩) hgn (.bool b)
                have f3 : w3.frozen? ⟨gA, i, none⟩ = false := (hb3.frozen (p := ⟨gA, i, none⟩) hBA.lt).trans f0
                have q3 : w3.cell? ⟨gA, i, none⟩ = some (.bool false) := (hb3.cell (p := ⟨gA, i, none⟩) hBA.lt).trans q0
                have HX := Lib.hid (And.intro hN (And.intro hO hBx))
                clear hN hO hBx hbi hBA HO hoW hBw hb3 hbb hfr
                go_wp2
                go_roundw
                case rel =>
                  obtain ⟨hN, hO, hBx⟩ := HX.out
                  exact ⟨i + 1, _, by simp, by omega, hO, hBx, hN⟩
                case measure => simp [intOf]; omega
            · obtain rfl : i = j := by omega
              have t1 : decide ((i : Int) < (i : Int)) = false := decide_eq_false (by omega)
              have hRn : Rnd C l G' (t + 1) := by
                refine Mid.round (G0 := G) ?_ HR.out
                rw [hlC]
                exact hM
              clear hM
              go_wp2
              go_roundw
              case rel => exact ⟨t + 1, G', by simp, by omega, hoM, hbM, hRn⟩
              case measure => simp [intOf]; omega
        · obtain rfl : t = j := by omega
          have t0 : decide ((t : Int) < (t : Int)) = false := decide_eq_false (by omega)
          have hD : IsReach C l G := by
            refine Rnd.done ?_
            rw [hlC]
            exact hR
          go_wp2
          go_ret
          refine ⟨A', c', G, by rw [hlC]; rfl, hD, ?_, hbG, own_new hoG⟩
          rw [hlC]
          exact own_sees hoG
end
end Go.Proofs.Ytenobgelhkpjcaa
