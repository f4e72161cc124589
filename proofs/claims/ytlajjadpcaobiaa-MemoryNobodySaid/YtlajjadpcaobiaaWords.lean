/- The words of all places of a kind, rising; their numbers. Conditions: none. -/
import Derived.Test.YtlajjadpcaobiaaPut
import Derived.Test.YtlajjadpcaobiaaOne
namespace Go.Proofs.Ytlajjadpcaobiaa
open Go.RowKit Go.ChangeShapes Go.WideShapes

def kindW (p : Pg) (L : List Ch) (K : Int) (k : Nat) : List Wd := (((placesM p).take k).filter fun x => x.k == K).map (atP L)
theorem kindW_all (p : Pg) (L : List Ch) (K : Int) : kindW p L K (placesM p).length = allW p L K := by
  unfold kindW allW kindM
  rw [List.take_length]
theorem kindW_next (p : Pg) (L : List Ch) (K : Int) {k : Nat} {x : Pl} (hx : (placesM p)[k]? = some x) : kindW p L K (k + 1) = if x.k == K then kindW p L K k ++ [atP L x] else kindW p L K k := by
  unfold kindW
  rw [List.take_add_one, hx, List.filter_append, List.map_append]
  cases h : x.k == K <;> simp [h]
theorem kindW_len (p : Pg) (L : List Ch) (K : Int) (k : Nat) : (kindW p L K k).length ≤ 100 := by
  unfold kindW
  rw [List.length_map]
  refine Nat.le_trans (List.length_filter_le _ _) (Nat.le_trans ?_ (places_few p))
  rw [List.length_take]
  omega
theorem allW_len (p : Pg) (L : List Ch) (K : Int) : (allW p L K).length ≤ 100 := by
  rw [← kindW_all]
  exact kindW_len _ _ _ _
/-- A list of words of the call's own. -/
structure OwnW (B : Nat) (w : World) (v : Value) (n : Nat) (l : List Wd) : Prop where
  h : w.ownsRow B 35 3 v n (flatW l)
theorem OwnW.on {B n : Nat} {w w' : World} {v : Value} {l : List Wd} (h : OwnW B w v n l) (hb : Below w.heap.size w w') : OwnW B w' v n l := ⟨ownB_below h.h hb⟩
set_option maxRecDepth 100000 in
set_option maxHeartbeats 4000000 in
theorem words_any {w : World} {m h b : Nat} {sp sq : Sl} {p : Pg} {L : List Ch} (q : Mem w m h b sp sq p L) (K : Int) : Calls Try.prog 34 #[.pointer (some ⟨m, 0, none⟩), .int .i64 K] w fun e w' => ∃ A c, e = .returned (.slice A (allW p L K).length c) ∧ w'.ownsRow w.heap.size 35 3 (.slice A (allW p L K).length c) (allW p L K).length (flatW (allW p L K)) ∧ Below w.heap.size w w' := by
  have q0 := q
  have hl : (placesM p).length = sp.n := by
    have := (own_seesP (A := sp.A) (cap := sp.cap) q.places).len
    exact this
  have hfew := places_few p
  rw [hl] at hfew
  have c1 := made_any q.mem
  have m0 : w.cell? ⟨m, 0, none⟩ = some (.pointer (some ⟨h, 0, none⟩)) := q.mem.cell 0
  have h0 : w.cell? ⟨h, 0, none⟩ = some (.slice sp.A sp.n sp.cap) := q.held.cell 0
  have HQ := Lib.hid (And.intro q hl)
  clear hl
  go_enter Try.func34, Try.ntmps34
  go_wp2_with fail
  refine c1.mono ?_
  rintro e w' ⟨rfl, rfl⟩
  clear c1 q
  go_wp2_with fail
  clear m0 h0
  go_loopw [5, 19] (fun f i wr => ∃ k : Nat, k ≤ sp.n ∧ i = .int .i64 (k : Int) ∧ ∃ A c, f = .slice A (kindW p L K k).length c ∧ wr.ownsRow w.heap.size 35 3 (.slice A (kindW p L K k).length c) (kindW p L K k).length (flatW (kindW p L K k)) ∧ Below w.heap.size w wr) (fun _ i _ => sp.n - (intOf i).toNat)
  case atStart => exact ⟨0, Nat.zero_le _, rfl, none, 0, rfl, World.ownsRow_nil _ _ _ _, Below.refl _ _⟩
  case round =>
    obtain ⟨k, hk, rfl, A, c, rfl, hrow, hb⟩ := hrel
    obtain ⟨q, hl⟩ := HQ.out
    by_cases hlt : k < sp.n
    · obtain ⟨x, hx⟩ : ∃ x, (placesM p)[k]? = some x := ⟨_, List.getElem?_eq_getElem (by omega)⟩
      have hth : thereP p x = true := mem_places.1 (List.mem_of_getElem? hx)
      have hwx := there_wide hth
      have hq := q.on hb
      obtain ⟨g, o, eA, hr⟩ := (own_seesP (A := sp.A) (cap := sp.cap) hq.places).at_ hx
      rw [eA]
      have hr' : wr.rangeAt g (o + k * 3) [.int .i64 x.k, .int .i64 x.i, .int .i64 x.j] := hr
      have hkI : (k : Int) < (sp.n : Int) := by omega
      have hk0 : (0 : Int) ≤ (k : Int) := by omega
      have hnx := kindW_next p L K hx
      have hlen := kindW_len p L K k
      have HB := Lib.hid hb.size
      obtain ⟨Wx, eWx⟩ : ∃ W, wr.alloc (.cells #[.int .i64 x.k, .int .i64 x.i, .int .i64 x.j] 27) = W := ⟨_, rfl⟩
      obtain ⟨p1, f1⟩ : ∃ p, wr.heap.size = p := ⟨_, rfl⟩
      have hbx : Below wr.heap.size wr Wx := by rw [← eWx]; exact (Below.refl _ wr).alloc (Nat.le_refl _) _
      have b1 : Blk Wx p1 27 #[.int .i64 x.k, .int .i64 x.i, .int .i64 x.j] := by rw [← eWx]; exact blk_new wr _ 27 _ f1
      replace hq := hq.on hbx
      replace hrow := ownB_below hrow hbx
      have hs0 : w.heap.size ≤ p1 := by rw [← f1]; exact hb.size
      replace hb := hb.trans (hbx.mono hb.size)
      have x0 : Wx.cell? ⟨p1, 0, none⟩ = some (.int .i64 x.k) := b1.cell 0
      have eU := getP_there (L := L) hth
      have HX := Lib.hid (And.intro hx (And.intro hl (And.intro hlen hth)))
      clear hx hl hlen hth hr hbx q
      generalize kindW p L K k = F at *
      obtain ⟨U, eUU⟩ : ∃ U, atP L x = U := ⟨_, rfl⟩
      rw [eUU] at eU hnx
      obtain ⟨b', eb⟩ : ∃ b, (x.k == K) = b := ⟨_, rfl⟩
      rw [eb] at hnx
      cases b' with
      | false =>
        replace hnx : kindW p L K (k + 1) = F := hnx
        have HN := Lib.hid hnx
        clear hnx
        go_wp2_with (refine wpList_load_mid rfl 27 (.tmp 21) rfl g (o + k * 3) rfl [.int .i64 x.k, .int .i64 x.i, .int .i64 x.j] _ hr' Try.underlying27 rfl size27 ?_)
        go_roundw
        case rel => exact ⟨k + 1, by omega, by go_num, A, c, by rw [HN.out], by rw [HN.out]; exact hrow, hb⟩
        case measure => simp [intOf]; omega
      | true =>
        replace hnx : kindW p L K (k + 1) = F ++ [U] := hnx
        have HN := Lib.hid hnx
        clear hnx
        go_wp2_with (refine wpList_load_mid rfl 27 (.tmp 21) rfl g (o + k * 3) rfl [.int .i64 x.k, .int .i64 x.i, .int .i64 x.j] _ hr' Try.underlying27 rfl size27 ?_)
        clear eb x0 hr' f1
        obtain ⟨wd, ed⟩ : ∃ W, Wx.drew = W := ⟨_, rfl⟩
        have hd : Below Wx.heap.size Wx wd := by rw [← ed]; exact (Below.refl _ _).drew
        replace b1 := b1.on hd
        replace hq := hq.on hd
        have rw := OwnW.mk (ownB_below hrow hd)
        replace hb := hb.trans (hd.mono hb.size)
        clear hd hrow
        have kS : Below w.heap.size wd wd ∧ Blk wd p1 27 x.cs.toArray := ⟨Below.refl _ _, b1⟩
        have hqb : ∀ W, Below w.heap.size wd W → Mem W m h b sp sq p L := fun W hW => hq.kept (S := fun g => w.heap.size ≤ g) ⟨hW.os, hW.tape, hW.output, hW.size, fun g _ hn => hW.block g (by omega)⟩ (fun g hg e => by have := q0.lt hg; omega)
        have tS : ∀ W, (Below w.heap.size wd W ∧ Blk W p1 27 x.cs.toArray) → W.cell? ⟨m, 0, none⟩ = some (.pointer (some ⟨h, 0, none⟩)) ∧ W.cell? ⟨h, 1, none⟩ = some (.map (some b)) := fun W hW => ⟨(hqb W hW.1).mem.cell 0, (hqb W hW.1).held.cell 1⟩
        refine wp_region_noPanic ?_
        refine wp_region_held_drew (S := (fun W => Below w.heap.size wd W ∧ Blk W p1 27 x.cs.toArray)) (by kernel_rfl) (by rw [ed]; exact kS) (fun hHeld => ?_)
        rw [ed] at hHeld ⊢
        refine wpAnyH_take (i := 0) (oi := ⟨some 27, _, _, _, _, _⟩) (v := ?_) rfl (by kernel_rfl) (by kernel_rfl) (by kernel_rfl) (fun _ _ _ h => h) (Or.inl ⟨by rfl, ?_⟩) (by assumption) ?_
        rotate_left 1
        · (intro W hSw; go_simp <;> with_reducible rfl)
        try simp only [Act.put, List.setIfInBounds_toArray, List.set_cons_zero, List.set_cons_succ]
        refine wpAnyH_take (i := 1) (oi := ⟨some 28, _, _, _, _, _⟩) (v := ?_) rfl (by kernel_rfl) (by kernel_rfl) (by kernel_rfl) (fun _ _ _ h => h) (Or.inl ⟨by rfl, ?_⟩) (by assumption) ?_
        rotate_left 1
        · (intro W hSw; go_simp <;> with_reducible rfl)
        try simp only [Act.put, List.setIfInBounds_toArray, List.set_cons_zero, List.set_cons_succ]
        refine wpAnyH_take (i := 2) (oi := ⟨some 29, _, _, _, _, _⟩) (v := ?_) rfl (by kernel_rfl) (by kernel_rfl) (by kernel_rfl) (fun _ _ _ h => h) (Or.inl ⟨by rfl, ?_⟩) (by assumption) ?_
        rotate_left 1
        · (intro W hSw; go_simp <;> with_reducible rfl)
        try simp only [Act.put, List.setIfInBounds_toArray, List.set_cons_zero, List.set_cons_succ]
        refine wpAnyH_take (i := 3) (oi := ⟨some 30, _, _, _, _, _⟩) (v := ?_) rfl (by kernel_rfl) (by kernel_rfl) (by kernel_rfl) (fun _ _ _ h => h) (Or.inl ⟨by rfl, ?_⟩) (by assumption) ?_
        rotate_left 1
        · (intro W hSw; go_simp <;> with_reducible rfl)
        try simp only [Act.put, List.setIfInBounds_toArray, List.set_cons_zero, List.set_cons_succ]
        refine wpAnyH_take (i := 4) (oi := ⟨some 31, _, _, _, _, _⟩) (v := ?_) rfl (by kernel_rfl) (by kernel_rfl) (by kernel_rfl) (fun _ _ _ h => h) (Or.inl ⟨by rfl, ?_⟩) (by assumption) ?_
        rotate_left 1
        · (intro W hSw; obtain ⟨q0, q1⟩ := tS W hSw; go_simp <;> with_reducible rfl)
        try simp only [Act.put, List.setIfInBounds_toArray, List.set_cons_zero, List.set_cons_succ]
        refine wpAnyH_take (i := 5) (oi := ⟨some 32, _, _, _, _, _⟩) (v := ?_) rfl (by kernel_rfl) (by kernel_rfl) (by kernel_rfl) (fun _ _ _ h => h) (Or.inl ⟨by rfl, ?_⟩) (by assumption) ?_
        rotate_left 1
        · (intro W hSw; go_simp <;> with_reducible rfl)
        try simp only [Act.put, List.setIfInBounds_toArray, List.set_cons_zero, List.set_cons_succ]
        refine wpAnyH_take (i := 6) (oi := ⟨some 33, _, _, _, _, _⟩) (v := ?_) rfl (by kernel_rfl) (by kernel_rfl) (by kernel_rfl) (fun _ _ _ h => h) (Or.inl ⟨by rfl, ?_⟩) (by assumption) ?_
        rotate_left 1
        · (intro W hSw; go_simp <;> with_reducible rfl)
        try simp only [Act.put, List.setIfInBounds_toArray, List.set_cons_zero, List.set_cons_succ]
        refine wpAnyH_take (i := 7) (oi := ⟨some 34, _, _, _, _, _⟩) (v := ?_) rfl (by kernel_rfl) (by kernel_rfl) (by kernel_rfl) (fun _ _ _ h => h) (Or.inl ⟨by rfl, ?_⟩) (by assumption) ?_
        rotate_left 1
        · (intro W hSw; obtain ⟨q0, q1⟩ := tS W hSw; go_simp <;> with_reducible rfl)
        try simp only [Act.put, List.setIfInBounds_toArray, List.set_cons_zero, List.set_cons_succ]
        refine wpAnyH_take (i := 8) (oi := ⟨some 35, _, _, _, _, _⟩) (v := .agg (List.toArray (x.cs))) rfl (by kernel_rfl) (by kernel_rfl) (by kernel_rfl) (fun _ _ _ h => h) (yieldsIf_load_mid (by rfl) 27 (.tmp 7) rfl p1 (0) rfl (x.cs) _ (fun W hW => range_part hW.2 0 x.cs rfl) Try.underlying27 rfl size27) (by assumption) ?_
        try simp only [Act.put, List.setIfInBounds_toArray, List.set_cons_zero, List.set_cons_succ]
        refine wpAnyH_take (i := 9) (oi := ⟨some 36, _, _, _, _, _⟩) (v := .agg #[.int .i64 U.n, .int .i64 U.c, .int .i64 U.g]) rfl (by kernel_rfl) (by kernel_rfl) (by kernel_rfl) (fun _ _ _ h => h) (yieldsIf_look (by rfl) _ _ _ rfl b x _ rfl rfl (fun W hW => by have := (hqb W hW.1).map.look1 hwx; rw [show ((memF p L x).getD noW) = U from eU] at this; exact this)) (by assumption) ?_
        try simp only [Act.put, List.setIfInBounds_toArray, List.set_cons_zero, List.set_cons_succ]
        refine wpAnyH_ready (rs := [10]) (by kernel_rfl) (by simp) ?_
        refine AllReadyH.cons (o := ⟨some 37, _, _, _, _, _⟩) rfl (fun K hK => ?_) AllReadyH.nil
        go_simp
        obtain ⟨w1, ew1⟩ : ∃ zz, zz = wd.alloc (.cells #[.int .i64 U.n, .int .i64 U.c, .int .i64 U.g] 35) := ⟨_, rfl⟩
        have hb1 : Below wd.heap.size wd w1 := by rw [ew1]; exact (Below.refl _ _).alloc (Nat.le_refl _) _
        rw [← ew1]
        have nb1 : Blk w1 wd.heap.size 35 U.cs.toArray := by rw [ew1]; exact blk_new _ _ 35 _ rfl
        have rw_1 := rw.on hb1
        have hb_1 := hb.trans (hb1.mono hb.size)
        have S1 : (fun W => Below w.heap.size wd W ∧ Blk W p1 27 x.cs.toArray) w1 := ⟨(kS).1.trans (hb1.mono (by have := hb.size; have := (kS).1.size; omega)), (kS).2.on hb1⟩
        refine hK.out _ _ S1 (fun h1 => ?_)
        clear hHeld hK K ew1
        try simp only [Act.put, List.setIfInBounds_toArray, List.set_cons_zero, List.set_cons_succ]
        refine wpAnyH_ready (rs := [11]) (by kernel_rfl) (by simp) ?_
        refine AllReadyH.cons (o := ⟨some 38, _, _, _, _, _⟩) rfl (fun K hK => ?_) AllReadyH.nil
        rw [if_pos (by rfl)]
        refine wp_one_W (.tmp 27) (.tmp 37) rfl rfl rw_1.h (by have := HX.out.2.2.1; omega) hb_1.size ⟨wd.heap.size, 0, none⟩ 1 U rfl (fun j u hu => by rw [plain_add]; exact range_blk nb1 j u hu) ?_
        intro A' c' w2 ho hg
        have hb2 := grown_blocks rw_1.h hg hb_1.size
        have S2 : (fun W => Below w.heap.size wd W ∧ Blk W p1 27 x.cs.toArray) w2 := ⟨S1.1.trans hb2, S1.2.kept (kept_grown hg) (fun e => own_off (own_low rw_1.h) S1.2 (by decide) ((own_lies _ _ _ _).1 e))⟩
        refine hK.out _ _ S2 (fun h2 => ?_)
        clear h1 hK K
        try simp only [Act.put, List.setIfInBounds_toArray, List.set_cons_zero, List.set_cons_succ]
        refine wpAnyH_take (i := 12) (oi := ⟨some 5, _, _, _, _, _⟩) (v := ?_) rfl (by kernel_rfl) (by kernel_rfl) (by kernel_rfl) (fun _ _ _ h => h) (Or.inl ⟨by rfl, ?_⟩) (by assumption) ?_
        rotate_left 1
        · (intro W hSw; go_simp <;> with_reducible rfl)
        try simp only [Act.put, List.setIfInBounds_toArray, List.set_cons_zero, List.set_cons_succ]
        refine wpAnyH_done (by kernel_rfl) ?_ _
        refine NoPanic.normal ?_
        go_wp2
        go_roundw
        case rel => exact ⟨k + 1, by omega, by go_num, A', c', by rw [HN.out, List.length_append]; rfl, by rw [HN.out, List.length_append]; exact ho, hb_1.trans hb2⟩
        case measure => simp [intOf]; omega
    · have hk' : k = sp.n := by omega
      subst hk'
      have eT : kindW p L K sp.n = allW p L K := by rw [← kindW_all, hl]
      rw [eT] at hrow ⊢
      have HR := Lib.hid hrow
      clear hrow eT hl q
      go_wp2
      go_ret
      exact ⟨A, c, rfl, HR.out, hb⟩
end Go.Proofs.Ytlajjadpcaobiaa
