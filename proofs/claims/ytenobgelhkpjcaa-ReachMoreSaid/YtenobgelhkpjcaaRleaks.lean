/- The leaks, plainly. Conditions: at most 8 cells, at most 1000 words. -/
import Derived.Test.YtenobgelhkpjcaaAdd
namespace Go.Proofs.Ytenobgelhkpjcaa
open Go.ChangeShapes Go.WideShapes Go.RowKit
theorem sees_nil (w : World) (k : Nat) : Sees w k none 0 0 [] := ⟨by simp, Nat.le_refl _, Nat.zero_le _, fun _ => rfl, fun ad h => by cases h⟩
/-- A list of keys, new: the leaks. -/
def Leaky (C : List Cel) (l : List Wd) (w : World) (e : Ending) (w' : World) : Prop :=
  ∃ A cap R, IsReach C l R ∧ e = .returned (.slice A (leaksTo C R C.length).length cap) ∧ Sees w' 3 A (leaksTo C R C.length).length cap (flatK (leaksTo C R C.length)) ∧ Below w.heap.size w w' ∧ ∀ g, lies A g → w.heap.size ≤ g
section
variable {w : World} {C : List Cel} {l : List Wd} {A Ac : Option Addr} {n cap nc cc : Nat}
set_option maxRecDepth 100000 in
set_option maxHeartbeats 4000000 in
theorem rleaks_any (hw : Sees w 3 A n cap (flatW l)) (hc : Sees w 10 Ac nc cc (flatC C)) (hn : n ≤ 1000) (hnc : nc ≤ 8) : Calls Try.prog 14 #[.slice A n cap, .slice Ac nc cc] w (Leaky C l w) := by
  have hlC : C.length = nc := by
    have := hc.len
    unfold flatC at this
    rw [flat_len Cel.len] at this
    omega
  have hr := rounds_any hw hc hn hnc
  go_enter Try.func14, Try.ntmps14
  go_wp2_with fail
  refine hr.mono ?_
  rintro e w1 ⟨Ag, cg, R, rfl, hR, hG, hb1, hng⟩
  have HR := Lib.hid hR
  have hlR : R.length = nc := by rw [hR.len, hlC]
  rw [hlC] at hG ⊢
  have HLC := Lib.hid hlC
  clear hR hlC hr
  go_wp2_with fail
  go_loopw [6, 7] (fun v i wr => ∃ (j : Nat) (A' : Option Addr) (cp : Nat), v = .slice A' (leaksTo C R j).length cp ∧ i = .int .i64 j ∧ j ≤ nc ∧ Sees wr 3 A' (leaksTo C R j).length cp (flatK (leaksTo C R j)) ∧ (∀ g, lies A' g → w.heap.size ≤ g) ∧ Below w1.heap.size w1 wr) (fun _ i _ => nc - (intOf i).toNat)
  case atStart => exact ⟨0, none, 0, rfl, rfl, Nat.zero_le _, sees_nil _ _, fun g h => (by cases h), Below.refl _ _⟩
  case round =>
    obtain ⟨j, A', cp, rfl, rfl, hj, hs, hnew, hb⟩ := hrel
    have hbw := hb1.trans (hb.mono hb1.size)
    by_cases hlt : j < nc
    · obtain ⟨c, hx⟩ : ∃ x, C[j]? = some x := ⟨_, List.getElem?_eq_getElem (by have := HLC.out; omega)⟩
      obtain ⟨b, hy⟩ : ∃ x, R[j]? = some x := ⟨_, List.getElem?_eq_getElem (by omega)⟩
      obtain ⟨g, o, rfl, hrc⟩ := sees_at Cel.len (hc.below hbw) hx (by omega)
      obtain ⟨g', o', rfl, hrg⟩ := sees_at bool_len (hG.below hb) hy (by omega)
      have t0 : decide ((j : Int) < (nc : Int)) = true := decide_eq_true (by omega)
      have q0 : wr.cell? ⟨g', o' + j, none⟩ = some (.bool b) := by have := hrg 0 _ rfl; simpa using this
      have c0 : wr.cell? ⟨g, o + j * 10, none⟩ = some (.int .i64 c.s) := hrc 0 _ rfl
      have hgl : g < wr.heap.size := World.block_lt_of_cell? _ _ c0
      have tS : ∀ W, Below wr.heap.size wr W → W.cell? ⟨g, o + j * 10 + 2, none⟩ = some (.int .i64 c.b) ∧ W.cell? ⟨g, o + j * 10 + 3, none⟩ = some (.int .i64 c.p) := fun W hW =>
        ⟨(hW.cell (p := ⟨g, o + j * 10 + 2, none⟩) hgl).trans (hrc 2 _ rfl), (hW.cell (p := ⟨g, o + j * 10 + 3, none⟩) hgl).trans (hrc 3 _ rfl)⟩
      have hwj : IntKind.i64.wrap ((j : Int) + 1) = ((j + 1 : Nat) : Int) := by rw [IntKind.wrap_i64]; omega
      have b1 : (0 : Int) ≤ (j : Int) := by omega
      have b2 : (j : Int) < (nc : Int) := by omega
      have hkey : keyAt C R j = if b = false then (if c.s = 1 then some ⟨6, c.b, c.p⟩ else none) else none := by
        unfold keyAt
        rw [hx, hy]
        cases b <;> rfl
      have hsucc : leaksTo C R (j + 1) = match keyAt C R j with
        | some k => addK k (leaksTo C R j)
        | none => leaksTo C R j := rfl
      have hl8 := leaksTo_len C R j
      obtain ⟨O, eO⟩ : ∃ O, O = leaksTo C R j := ⟨_, rfl⟩
      rw [← eO] at hs hl8 hsucc ⊢
      clear eO
      have HNO := Lib.hid (show keyAt C R j = none → leaksTo C R (j + 1) = O from fun e => by rw [hsucc, e])
      have HYE := Lib.hid (show keyAt C R j = some ⟨6, c.b, c.p⟩ → leaksTo C R (j + 1) = addK ⟨6, c.b, c.p⟩ O from fun e => by rw [hsucc, e])
      clear hsucc hrg hrc hx hy
      have HB := Lib.hid hb
      have HN := Lib.hid hnew
      clear hb hnew hbw
      by_cases s1 : c.s = 1
      · have t1 : (c.s == 1) = true := by simpa using s1
        cases b with
        | true =>
          have HE := Lib.hid (HNO.out (by rw [hkey]; rfl))
          clear s1 hkey HNO HYE tS
          go_wp2
          go_roundw
          case rel =>
            rw [← HE.out] at hs ⊢
            exact ⟨j + 1, A', cp, rfl, by simp, by omega, hs, HN.out, HB.out⟩
          case measure => simp [intOf]; omega
        | false =>
          have HE := Lib.hid (HYE.out (by rw [hkey, if_pos rfl, if_pos s1]))
          clear s1 hkey HNO HYE
          go_wp2_with fail
          have k0 : Below wr.heap.size wr wr.drew := (Below.refl _ wr).drew
          refine wp_region_noPanic ?_
          refine wp_region_held_drew (S := (fun W => Below wr.heap.size wr W)) (by kernel_rfl) k0 (fun hHeld => ?_)
          refine wpAnyH_take (i := 0) (oi := ⟨some 30, _, _, _, _, _⟩) (v := ?_) rfl (by kernel_rfl) (by kernel_rfl) (by kernel_rfl) (fun _ _ _ h => h) (Or.inl ⟨by rfl, ?_⟩) (by assumption) ?_
          rotate_left 1
          · (intro W hSw; obtain ⟨f0, f1⟩ := tS W hSw; go_simp <;> with_reducible rfl)
          try simp only [Act.put, List.setIfInBounds_toArray, List.set_cons_zero, List.set_cons_succ]
          refine wpAnyH_take (i := 1) (oi := ⟨some 31, _, _, _, _, _⟩) (v := ?_) rfl (by kernel_rfl) (by kernel_rfl) (by kernel_rfl) (fun _ _ _ h => h) (Or.inl ⟨by rfl, ?_⟩) (by assumption) ?_
          rotate_left 1
          · (intro W hSw; obtain ⟨f0, f1⟩ := tS W hSw; go_simp <;> with_reducible rfl)
          try simp only [Act.put, List.setIfInBounds_toArray, List.set_cons_zero, List.set_cons_succ]
          refine wpAnyH_take (i := 2) (oi := ⟨some 32, _, _, _, _, _⟩) (v := ?_) rfl (by kernel_rfl) (by kernel_rfl) (by kernel_rfl) (fun _ _ _ h => h) (Or.inl ⟨by rfl, ?_⟩) (by assumption) ?_
          rotate_left 1
          · (intro W hSw; obtain ⟨f0, f1⟩ := tS W hSw; go_simp <;> with_reducible rfl)
          try simp only [Act.put, List.setIfInBounds_toArray, List.set_cons_zero, List.set_cons_succ]
          refine wpAnyH_take (i := 3) (oi := ⟨some 33, _, _, _, _, _⟩) (v := ?_) rfl (by kernel_rfl) (by kernel_rfl) (by kernel_rfl) (fun _ _ _ h => h) (Or.inl ⟨by rfl, ?_⟩) (by assumption) ?_
          rotate_left 1
          · (intro W hSw; obtain ⟨f0, f1⟩ := tS W hSw; go_simp <;> with_reducible rfl)
          try simp only [Act.put, List.setIfInBounds_toArray, List.set_cons_zero, List.set_cons_succ]
          refine wpAnyH_take (i := 4) (oi := ⟨some 34, _, _, _, _, _⟩) (v := ?_) rfl (by kernel_rfl) (by kernel_rfl) (by kernel_rfl) (fun _ _ _ h => h) (Or.inl ⟨by rfl, ?_⟩) (by assumption) ?_
          rotate_left 1
          · (intro W hSw; obtain ⟨f0, f1⟩ := tS W hSw; go_simp <;> with_reducible rfl)
          try simp only [Act.put, List.setIfInBounds_toArray, List.set_cons_zero, List.set_cons_succ]
          refine wpAnyH_take (i := 5) (oi := ⟨some 35, _, _, _, _, _⟩) (v := ?_) rfl (by kernel_rfl) (by kernel_rfl) (by kernel_rfl) (fun _ _ _ h => h) (Or.inl ⟨by rfl, ?_⟩) (by assumption) ?_
          rotate_left 1
          · (intro W hSw; obtain ⟨f0, f1⟩ := tS W hSw; go_simp <;> with_reducible rfl)
          try simp only [Act.put, List.setIfInBounds_toArray, List.set_cons_zero, List.set_cons_succ]
          refine wpAnyH_take (i := 6) (oi := ⟨some 36, _, _, _, _, _⟩) (v := ?_) rfl (by kernel_rfl) (by kernel_rfl) (by kernel_rfl) (fun _ _ _ h => h) (Or.inl ⟨by rfl, ?_⟩) (by assumption) ?_
          rotate_left 1
          · (intro W hSw; obtain ⟨f0, f1⟩ := tS W hSw; go_simp <;> with_reducible rfl)
          try simp only [Act.put, List.setIfInBounds_toArray, List.set_cons_zero, List.set_cons_succ]
          refine wpAnyH_take (i := 7) (oi := ⟨some 37, _, _, _, _, _⟩) (v := ?_) rfl (by kernel_rfl) (by kernel_rfl) (by kernel_rfl) (fun _ _ _ h => h) (Or.inl ⟨by rfl, ?_⟩) (by assumption) ?_
          rotate_left 1
          · (intro W hSw; obtain ⟨f0, f1⟩ := tS W hSw; go_simp <;> with_reducible rfl)
          try simp only [Act.put, List.setIfInBounds_toArray, List.set_cons_zero, List.set_cons_succ]
          refine wpAnyH_take (i := 8) (oi := ⟨some 38, _, _, _, _, _⟩) (v := ?_) rfl (by kernel_rfl) (by kernel_rfl) (by kernel_rfl) (fun _ _ _ h => h) (Or.inl ⟨by rfl, ?_⟩) (by assumption) ?_
          rotate_left 1
          · (intro W hSw; obtain ⟨f0, f1⟩ := tS W hSw; go_simp <;> with_reducible rfl)
          try simp only [Act.put, List.setIfInBounds_toArray, List.set_cons_zero, List.set_cons_succ]
          refine wpAnyH_take (i := 9) (oi := ⟨some 39, _, _, _, _, _⟩) (v := ?_) rfl (by kernel_rfl) (by kernel_rfl) (by kernel_rfl) (fun _ _ _ h => h) (Or.inl ⟨by rfl, ?_⟩) (by assumption) ?_
          rotate_left 1
          · (intro W hSw; obtain ⟨f0, f1⟩ := tS W hSw; go_simp <;> with_reducible rfl)
          try simp only [Act.put, List.setIfInBounds_toArray, List.set_cons_zero, List.set_cons_succ]
          refine wpAnyH_take (i := 10) (oi := ⟨some 40, _, _, _, _, _⟩) (v := ?_) rfl (by kernel_rfl) (by kernel_rfl) (by kernel_rfl) (fun _ _ _ h => h) (Or.inl ⟨by rfl, ?_⟩) (by assumption) ?_
          rotate_left 1
          · (intro W hSw; obtain ⟨f0, f1⟩ := tS W hSw; go_simp <;> with_reducible rfl)
          try simp only [Act.put, List.setIfInBounds_toArray, List.set_cons_zero, List.set_cons_succ]
          refine wpAnyH_take (i := 11) (oi := ⟨some 41, _, _, _, _, _⟩) (v := ?_) rfl (by kernel_rfl) (by kernel_rfl) (by kernel_rfl) (fun _ _ _ h => h) (Or.inl ⟨by rfl, ?_⟩) (by assumption) ?_
          rotate_left 1
          · (intro W hSw; obtain ⟨f0, f1⟩ := tS W hSw; go_simp <;> with_reducible rfl)
          try simp only [Act.put, List.setIfInBounds_toArray, List.set_cons_zero, List.set_cons_succ]
          refine wpAnyH_ready (rs := [12]) (by kernel_rfl) (by simp) ?_
          refine AllReadyH.cons rfl (fun K hK => ?_) AllReadyH.nil
          go_simp
          refine (add_any (hs.below k0) ⟨6, c.b, c.p⟩ (by omega)).mono ?_
          rintro e w2 ⟨A2, cp2, rfl, hs2, hb2, hn2⟩
          replace hb2 := k0.trans (hb2.mono k0.size)
          refine hK.out _ _ hb2 (fun hHeld1 => ?_)
          clear hHeld hK K
          try simp only [Act.put, List.setIfInBounds_toArray, List.set_cons_zero, List.set_cons_succ]
          refine wpAnyH_take (i := 13) (oi := ⟨some 6, _, _, _, _, _⟩) (v := ?_) rfl (by kernel_rfl) (by kernel_rfl) (by kernel_rfl) (fun _ _ _ h => h) (Or.inl ⟨by rfl, ?_⟩) (by assumption) ?_
          rotate_left 1
          · (intro W hSw; obtain ⟨f0, f1⟩ := tS W hSw; go_simp <;> with_reducible rfl)
          try simp only [Act.put, List.setIfInBounds_toArray, List.set_cons_zero, List.set_cons_succ]
          refine wpAnyH_done (by kernel_rfl) ?_ _
          refine NoPanic.normal ?_
          go_wp2
          go_roundw
          case rel =>
            rw [← HE.out] at hs2 ⊢
            refine ⟨j + 1, A2, cp2, rfl, by simp, by omega, hs2, fun g hg => ?_, HB.out.trans (hb2.mono HB.out.size)⟩
            have h1 := hn2 g hg
            have h2 := hb1.size
            have h3 := HB.out.size
            exact Nat.le_trans (Nat.le_trans h2 h3) h1
          case measure => simp [intOf]; omega
      · have t1 : (c.s == 1) = false := by simpa using s1
        have HE := Lib.hid (HNO.out (by rw [hkey]; cases b <;> simp [s1]))
        clear s1 hkey HNO HYE tS
        go_wp2
        go_roundw
        case rel =>
          rw [← HE.out] at hs ⊢
          exact ⟨j + 1, A', cp, rfl, by simp, by omega, hs, HN.out, HB.out⟩
        case measure => simp [intOf]; omega
    · obtain rfl : j = nc := by omega
      have t0 : decide ((j : Int) < (j : Int)) = false := decide_eq_false (by omega)
      go_wp2
      go_ret
      refine ⟨A', cp, R, HR.out, ?_, ?_, hbw, hnew⟩
      · rw [HLC.out]; rfl
      · rw [HLC.out]; exact hs
end
end Go.Proofs.Ytenobgelhkpjcaa
