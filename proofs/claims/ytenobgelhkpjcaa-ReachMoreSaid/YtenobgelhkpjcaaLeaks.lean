/- The leaks, by the program. Conditions: at most 8 cells, at most 1000 words. -/
import Derived.Test.YtenobgelhkpjcaaRleaks
import Derived.Test.YtenobgelhkpjcaaSortNil
namespace Go.Proofs.Ytenobgelhkpjcaa
open Go.ChangeShapes Go.WideShapes Go.RowKit
theorem compact_nil (w : World) : Calls Try.prog 23 #[.slice none 0 0] w fun e w' => e = .returned (.slice none 0 0) ∧ w = w' := by
  go_enter Try.func23, Try.ntmps23
  go_wp2
  go_ret
  exact ⟨rfl, rfl⟩
/-- Sorted, and struck, it is the leaks. -/
theorem ded_leaks {C : List Cel} {R : List Bool} {n : Nat} {l : List Ky} (hp : l.Perm (keysTo C R n)) (hs : ∀ (i j : Nat) (x y : Ky), i < j → l[i]? = some x → l[j]? = some y → ¬ (cmpK y x < 0)) : dedTo l l.length = leaksTo C R n := by
  have hk : ∀ x ∈ l, x.k = 6 := fun x hx => keysTo_kind C R n x (hp.mem_iff.1 hx)
  refine rises_eq _ _ (dedTo_rises l (fun i j x y hij hx hy hL => ?_) l.length (Nat.le_refl _)) (leaksTo_rises C R n) fun x => ?_
  · refine hs i j x y hij hx hy ((cmpK_neg y x).2 ?_)
    have h1 := hk x (List.mem_of_getElem? hx)
    have h2 := hk y (List.mem_of_getElem? hy)
    unfold Less at hL
    omega
  · rw [leaksTo_mem, ← hp.mem_iff]
    constructor
    · intro h
      obtain ⟨i, _, hi⟩ := dedTo_in _ _ _ h
      exact List.mem_of_getElem? hi
    · intro h
      obtain ⟨i, hi⟩ := List.getElem?_of_mem h
      exact dedTo_all l l.length i x (List.getElem?_eq_some_iff.1 hi).1 hi
section
variable {w : World} {C : List Cel} {l : List Wd} {A Ac : Option Addr} {n cap nc cc : Nat}
set_option maxRecDepth 100000 in
set_option maxHeartbeats 4000000 in
theorem leaks_any (hw : Sees w 3 A n cap (flatW l)) (hc : Sees w 10 Ac nc cc (flatC C)) (hn : n ≤ 1000) (hnc : nc ≤ 8) : Calls Try.prog 13 #[.slice A n cap, .slice Ac nc cc] w (Leaky C l w) := by
  obtain ⟨i0, hi, hz0, hz1, hz2⟩ := info_parts info41
  have hlC : C.length = nc := by
    have := hc.len
    unfold flatC at this
    rw [flat_len Cel.len] at this
    omega
  have hr := reached_any hw hc hn hnc
  go_enter Try.func13, Try.ntmps13
  go_wp2_with fail
  refine hr.mono ?_
  rintro e w1 ⟨Ag, cg, R, rfl, hR, hG, hb1, hng⟩
  have HR := Lib.hid hR
  have hlR : R.length = nc := by rw [hR.len, hlC]
  rw [hlC] at hG ⊢
  have HLC := Lib.hid hlC
  clear hR hlC hr
  go_wp2_with fail
  go_loopw [5, 13] (fun v i wr => ∃ (j : Nat) (A' : Option Addr) (cp : Nat), v = .slice A' (keysTo C R j).length cp ∧ i = .int .i64 j ∧ j ≤ nc ∧ wr.ownsRow w1.heap.size 41 3 (.slice A' (keysTo C R j).length cp) (keysTo C R j).length (flatK (keysTo C R j)) ∧ Below w1.heap.size w1 wr) (fun _ i _ => nc - (intOf i).toNat)
  case atStart => exact ⟨0, none, 0, rfl, rfl, Nat.zero_le _, World.ownsRow_nil _ _ _ _, Below.refl _ _⟩
  case round =>
    obtain ⟨j, A', cp, rfl, rfl, hj, ho, hb⟩ := hrel
    have hbw := hb1.trans (hb.mono hb1.size)
    by_cases hlt : j < nc
    · obtain ⟨c, hx⟩ : ∃ x, C[j]? = some x := ⟨_, List.getElem?_eq_getElem (by have := HLC.out; omega)⟩
      obtain ⟨b, hy⟩ : ∃ x, R[j]? = some x := ⟨_, List.getElem?_eq_getElem (by omega)⟩
      obtain ⟨g, o, rfl, hrc⟩ := sees_at Cel.len (hc.below hbw) hx (by omega)
      obtain ⟨g', o', rfl, hrg⟩ := sees_at bool_len (hG.below hb) hy (by omega)
      have t0 : decide ((j : Int) < (nc : Int)) = true := decide_eq_true (by omega)
      have q0 : wr.cell? ⟨g', o' + j, none⟩ = some (.bool b) := by have := hrg 0 _ rfl; simpa using this
      have hwj : IntKind.i64.wrap ((j : Int) + 1) = ((j + 1 : Nat) : Int) := by rw [IntKind.wrap_i64]; omega
      have b1 : (0 : Int) ≤ (j : Int) := by omega
      have b2 : (j : Int) < (nc : Int) := by omega
      have hkey : keyAt C R j = if b = false then (if c.s = 1 then some ⟨6, c.b, c.p⟩ else none) else none := by
        unfold keyAt
        rw [hx, hy]
        cases b <;> rfl
      have hsucc := keysTo_succ C R j
      have hl8 := keysTo_len C R j
      obtain ⟨O, eO⟩ : ∃ O, O = keysTo C R j := ⟨_, rfl⟩
      rw [← eO] at ho hl8 hsucc ⊢
      clear eO
      have HNO := Lib.hid (show keyAt C R j = none → keysTo C R (j + 1) = O from fun e => by rw [hsucc, e]; simp)
      have HYE := Lib.hid (show keyAt C R j = some ⟨6, c.b, c.p⟩ → keysTo C R (j + 1) = O ++ [⟨6, c.b, c.p⟩] from fun e => by rw [hsucc, e]; rfl)
      obtain ⟨m, em⟩ : ∃ m, m = O.length := ⟨_, rfl⟩
      rw [← em] at ho hl8 ⊢
      have EM := Lib.hid em
      have hBk : Blk (wr.alloc (.cells noC.cs.toArray 38)) wr.heap.size 38 noC.cs.toArray := heap_alloc_new wr _
      obtain ⟨w5, ew5⟩ : ∃ W, W = (wr.alloc (.cells noC.cs.toArray 38)).setRow wr.heap.size c.cs.toArray := ⟨_, rfl⟩
      have hb5 : Below wr.heap.size wr w5 := by rw [ew5]; exact below_setRow ((Below.refl _ wr).alloc (Nat.le_refl _) _) (Nat.le_refl _) _
      have hB5 : Blk w5 wr.heap.size 38 c.cs.toArray := by rw [ew5]; exact setRow_heap _ _ _ _ _ _ hBk
      have g0 : w5.cell? ⟨wr.heap.size, 0, none⟩ = some (.int .i64 c.s) := hB5.cell 0
      have g2 : w5.cell? ⟨wr.heap.size, 2, none⟩ = some (.int .i64 c.b) := hB5.cell 2
      have g3 : w5.cell? ⟨wr.heap.size, 3, none⟩ = some (.int .i64 c.p) := hB5.cell 3
      have ho5 := ownB_below ho hb5
      have hbq := hb.trans (hb5.mono hb.size)
      clear hsucc hrg hx hy em hB5 hb5 ho hbw
      have HB := Lib.hid hbq
      have hqs := hbq.size
      clear hbq hb
      cases b with
      | true =>
        have HE := Lib.hid (HNO.out (by rw [hkey]; rfl))
        clear hkey HNO HYE
        go_wp2_with (first
          | (refine wpList_load_mid rfl 38 (.tmp 20) rfl g (o + j * 10) rfl c.cs _ hrc Try.underlying38 rfl (load38 c) ?_)
          | (refine wpList_store_row rfl 38 (.tmp 8) (.tmp 21) rfl wr.heap.size c.cs.toArray rfl rfl 38 noC.cs.toArray hBk size38 rfl c.onea ?_
             show wpList _ _ _ _ _ ((wr.alloc (.cells noC.cs.toArray 38)).setRow wr.heap.size c.cs.toArray)
             rw [← ew5]
             clear ew5 hBk hrc))
        go_roundw
        case rel => exact ⟨j + 1, A', cp, by rw [HE.out, ← EM.out], by simp, by omega, by rw [HE.out, ← EM.out]; exact ho5, HB.out⟩
        case measure => simp [intOf]; omega
      | false =>
        by_cases s1 : c.s = 1
        · have t1 : (c.s == 1) = true := by simpa using s1
          have HE := Lib.hid (HYE.out (by rw [hkey, if_pos rfl, if_pos s1]))
          have ho6 := ho5.alloc (.cells #[.int .i64 6, .int .i64 c.b, .int .i64 c.p] 41)
          have hnw : Blk (w5.alloc (.cells #[.int .i64 6, .int .i64 c.b, .int .i64 c.p] 41)) w5.heap.size 41 #[.int .i64 6, .int .i64 c.b, .int .i64 c.p] := heap_alloc_new w5 _
          clear s1 hkey HNO HYE
          go_wp2_with (first
            | (refine wpList_load_mid rfl 38 (.tmp 20) rfl g (o + j * 10) rfl c.cs _ hrc Try.underlying38 rfl (load38 c) ?_)
            | (refine wpList_store_row rfl 38 (.tmp 8) (.tmp 21) rfl wr.heap.size c.cs.toArray rfl rfl 38 noC.cs.toArray hBk size38 rfl c.onea ?_
               show wpList _ _ _ _ _ ((wr.alloc (.cells noC.cs.toArray 38)).setRow wr.heap.size c.cs.toArray)
               rw [← ew5]
               clear ew5 hBk hrc)
            | (at_builtin; refine wpList_append_lies _ rfl _ _ 32 rfl w1.heap.size 41 i0 (.agg noK.cs.toArray) 3 24 Try.underlying32 hi hz0 hz1 hz2 rfl (by decide) (.slice A' m cp) m (flatK O) rfl ho6 ⟨w5.heap.size, 0, none⟩ 1 1 [.int .i64 6, .int .i64 c.b, .int .i64 c.p] rfl rfl (World.news_of_block (cs := #[.int .i64 6, .int .i64 c.b, .int .i64 c.p]) (t := 41) (fr := (0, 0)) hnw) (Ky.one ⟨6, c.b, c.p⟩) (by decide) (by unfold maxLen; omega) (by omega) (by simp; omega) (w5.heap.size + 1) (by simp) ?_; intro gg cq w7 hown hgrow hat hlt2))
          go_roundw
          case rel =>
            have hbn := grown_from hqs (.cells #[.int .i64 6, .int .i64 c.b, .int .i64 c.p] 41) ho5 hgrow
            replace hown := own_snoc (O := O) ⟨6, c.b, c.p⟩ hown
            have e : m + 1 = (O ++ [(⟨6, c.b, c.p⟩ : Ky)]).length := by rw [List.length_append, List.length_singleton, ← EM.out]
            exact ⟨j + 1, some ⟨gg, 0, none⟩, cq, by rw [HE.out, ← e], by simp, by omega, by rw [HE.out, ← e]; exact hown, HB.out.trans hbn⟩
          case measure => simp [intOf]; omega
        · have t1 : (c.s == 1) = false := by simpa using s1
          have HE := Lib.hid (HNO.out (by rw [hkey, if_pos rfl, if_neg s1]))
          clear s1 hkey HNO HYE
          go_wp2_with (first
            | (refine wpList_load_mid rfl 38 (.tmp 20) rfl g (o + j * 10) rfl c.cs _ hrc Try.underlying38 rfl (load38 c) ?_)
            | (refine wpList_store_row rfl 38 (.tmp 8) (.tmp 21) rfl wr.heap.size c.cs.toArray rfl rfl 38 noC.cs.toArray hBk size38 rfl c.onea ?_
               show wpList _ _ _ _ _ ((wr.alloc (.cells noC.cs.toArray 38)).setRow wr.heap.size c.cs.toArray)
               rw [← ew5]
               clear ew5 hBk hrc))
          go_roundw
          case rel => exact ⟨j + 1, A', cp, by rw [HE.out, ← EM.out], by simp, by omega, by rw [HE.out, ← EM.out]; exact ho5, HB.out⟩
          case measure => simp [intOf]; omega
    · obtain rfl : j = nc := by omega
      have t0 : decide ((j : Int) < (j : Int)) = false := decide_eq_false (by omega)
      have hl8 := keysTo_len C R j
      have hB := Lib.hid hbw
      cases A' with
      | none =>
        have h0 := (own_cap (own_low ho)).2.2 rfl
        have h1 := (own_cap (own_low ho)).1
        have hK : keysTo C R j = [] := List.eq_nil_of_length_eq_zero (by omega)
        have hL : leaksTo C R j = [] := by
          have := ded_leaks (C := C) (R := R) (n := j) (l := []) (by rw [hK]) (fun i k x y _ h => by simp at h)
          rw [← this]
          rfl
        subst h0
        rw [hK]
        have HL := Lib.hid hL
        have hsn := sort_nil wr
        have hcn := compact_nil wr
        clear hK hL ho hl8 h1 hbw
        go_wp2_with (first
          | (go_at_call 19; refine hsn.mono ?_; rintro e w' ⟨rfl, rfl⟩)
          | (go_at_call 23; refine hcn.mono ?_; rintro e w' ⟨rfl, rfl⟩))
        go_ret
        refine ⟨none, 0, R, HR.out, ?_, ?_, hB.out, fun g hg => by cases hg⟩
        · rw [HLC.out, HL.out]; rfl
        · rw [HLC.out, HL.out]; exact sees_nil _ _
      | some ad =>
        obtain ⟨g, rfl⟩ : ∃ g, ad = ⟨g, 0, none⟩ := by
          rcases id ho.2 with ⟨e, _⟩ | ⟨g, c, cur, e, _⟩
          · cases e
          · injection e with e
            injection e with e
            exact ⟨g, e⟩
        have hgn := own_new ho g rfl
        obtain ⟨m, em⟩ : ∃ m, m = (keysTo C R j).length := ⟨_, rfl⟩
        rw [← em] at ho hl8 ⊢
        have EM := Lib.hid em
        have hst := sort_some ho (by omega)
        clear em hbw
        go_wp2_with fail
        refine hst.mono ?_
        rintro e w2 ⟨rfl, l', hp, hsd, ho2, hk2⟩
        have hm' : l'.length = m := by rw [hp.length_eq, EM.out]
        have hd := ded_leaks hp (fun i k x y a b c => by have := hsd i k x y a b c; omega)
        rw [hm'] at hd
        have hcp := compact_some ho2 (by omega)
        rw [hd] at hcp
        have HX := Lib.hid hd
        clear hd hst hsd hp ho ho2 hm'
        go_wp2_with fail
        refine hcp.mono ?_
        rintro e w3 ⟨rfl, hs3, hk3⟩
        clear hcp
        go_wp2
        go_ret
        have h1 := hb1.size
        have h2 := hk2.size
        refine ⟨some ⟨g, 0, none⟩, cp, R, HR.out, ?_, ?_, (hB.out.trans (hk2.under _ hB.out.size (fun k e => ?_))).trans (hk3.under _ (Nat.le_trans hB.out.size h2) (fun k e => ?_)), fun g' hg' => ?_⟩
        · rw [HLC.out]; rfl
        · rw [HLC.out]; exact hs3
        · have e : k = g := e
          omega
        · have e : k = g := e
          omega
        · have e2 : g = g' := by simpa [lies] using hg'
          omega
end
end Go.Proofs.Ytenobgelhkpjcaa
