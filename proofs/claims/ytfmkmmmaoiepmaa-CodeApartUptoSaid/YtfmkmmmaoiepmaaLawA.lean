/- Any two states have the same octets just if they are the same. Conditions: lists of at most 1048576, numbers of 64 bits. -/
import Derived.Test.YtfmkmmmaoiepmaaAlive
import Derived.Test.YtfmkmmmaoiepmaaWides
namespace Go.Proofs.Ytfmkmmmaoiepmaa
set_option linter.unusedSimpArgs false
set_option linter.unusedVariables false
open Go.RowKit Go.ChangeShapes Go.WideShapes

theorem apart_txt {a b : Sc} (ha : ∀ x ∈ a.ns, Wide x) (hb : ∀ x ∈ b.ns, Wide x) : a.like b = decide (strOfNums (octs a.ns) = strOfNums (octs b.ns)) := by
  unfold Sc.like
  rw [Bool.eq_iff_iff, decide_eq_true_iff, decide_eq_true_iff, txt_octs ha hb, sc_ns]
theorem ep_iff (d : Sc) (e : Int) : d.con = ({ d with ep := e } : Sc).con ↔ d.ep = e := by
  simp [Sc.con]
def St.at_ (s : St) (e : Int) : St := { s with ep := e }
def Sc.at_ (c : Sc) (e : Int) : Sc := { c with ep := e }
theorem stat_at {w : World} {s : St} {c : Sc} {bl : List Bu} (h : Stat w s c bl) (e : Int) : Stat w (s.at_ e) (c.at_ e) bl := ⟨h.th, h.bu, h.eb, ⟨h.sh.ro, h.sh.sl, h.sh.ce, h.sh.fr, rfl, h.sh.ma, h.sh.co⟩⟩
theorem fits_at {c : Sc} {bl : List Bu} (h : Fits c bl) (e : Int) : Fits (c.at_ e) bl := ⟨h.t4, h.t, h.b4, h.b, h.ro, h.sl, h.ce, h.fr, h.ma, h.co⟩
theorem wide_at {c : Sc} {bl : List Bu} (h : WideS c bl) {e : Int} (he : Wide e) : WideS (c.at_ e) bl := ⟨h.th, h.bu, h.ro, h.sl, h.ce, h.fr, he, h.ma, h.co⟩
theorem ep_txt {c : Sc} {e : Int} (ha : ∀ x ∈ c.ns, Wide x) (hb : ∀ x ∈ (c.at_ e).ns, Wide x) : decide (strOfNums (octs c.ns) = strOfNums (octs (c.at_ e).ns)) = (c.ep == e) := by
  rw [Bool.eq_iff_iff, decide_eq_true_iff, beq_iff_eq, txt_octs ha hb, sc_ns]
  exact ep_iff c e
set_option maxRecDepth 100000 in
set_option maxHeartbeats 4000000 in
theorem apart_walk (s1 s2 : St) (c1 c2 : Sc) (bl1 bl2 : List Bu) (e : Int) (w : World) (hs1 : Stat w s1 c1 bl1) (ks1 : Caps c1 bl1) (u1 : WideS c1 bl1) (hs2 : Stat w s2 c2 bl2) (ks2 : Caps c2 bl2) (u2 : WideS c2 bl2) (he : Wide e) : Calls Try.prog 5 #[.agg s1.cs.toArray, .agg s2.cs.toArray, .int .i64 e] w fun e w' => e = .returned (.bool true) ∧ Below w.heap.size w w' := by
  have hokq1 := hs1.ok
  have hq1 := few_stat hs1
  have hfq1 := few_fits ks1
  have hokq2 := hs2.ok
  have hq2 := few_stat hs2
  have hfq2 := few_fits ks2
  have v1 := sc_wide (few_wide u1) hfq1 hq1.eb
  have v2 := sc_wide (few_wide u2) hfq2 hq2.eb
  have v3 := sc_wide (wide_at (few_wide u1) he) (fits_at hfq1 e) (stat_at hq1 e).eb
  obtain ⟨q1, eq1⟩ : ∃ x, fewS s1 = x := ⟨_, rfl⟩
  obtain ⟨d1, ed1⟩ : ∃ x, c1.few = x := ⟨_, rfl⟩
  obtain ⟨bq1, ebq1⟩ : ∃ x, bl1.take 4 = x := ⟨_, rfl⟩
  have dfewq1 := fun W => few_any s1 hokq1 W
  rw [eq1] at hq1 dfewq1
  rw [ed1] at hq1 hfq1
  rw [ebq1] at hq1 hfq1
  obtain ⟨q2, eq2⟩ : ∃ x, fewS s2 = x := ⟨_, rfl⟩
  obtain ⟨d2, ed2⟩ : ∃ x, c2.few = x := ⟨_, rfl⟩
  obtain ⟨bq2, ebq2⟩ : ∃ x, bl2.take 4 = x := ⟨_, rfl⟩
  have dfewq2 := fun W => few_any s2 hokq2 W
  rw [eq2] at hq2 dfewq2
  rw [ed2] at hq2 hfq2
  rw [ebq2] at hq2 hfq2
  rw [ed1] at v1 v3
  rw [ed2] at v2
  clear eq1 ed1 ebq1 eq2 ed2 ebq2 hs1 ks1 hs2 ks2 u1 u2 hokq1 hokq2
  have HR1 := Lib.hid hq1
  have HR2 := Lib.hid hq2
  have HF1 := Lib.hid hfq1
  have HF2 := Lib.hid hfq2
  have HF3 := Lib.hid (fits_at hfq1 e)
  obtain ⟨D, eD⟩ : ∃ D, d1.like d2 = D := ⟨_, rfl⟩
  have ED := Lib.hid eD
  obtain ⟨G, eG⟩ : ∃ G, (q1.ep == e) = G := ⟨_, rfl⟩
  have n1 := apart_txt v1 v2
  have n2 := ep_txt v1 v3
  rw [eD] at n1
  rw [← hq1.sh.ep, eG] at n2
  rw [← eq_txt] at n1 n2
  obtain ⟨T1, e1⟩ : ∃ T, strOfNums (octs d1.ns) = T := ⟨_, rfl⟩
  obtain ⟨T2, e2⟩ : ∃ T, strOfNums (octs d2.ns) = T := ⟨_, rfl⟩
  obtain ⟨T3, e3⟩ : ∃ T, strOfNums (octs (d1.at_ e).ns) = T := ⟨_, rfl⟩
  rw [e1, e2] at n1
  rw [e1, e3] at n2
  have t12 : (T1.toList == T2.toList) = D := n1.symm
  have t13 : (T1.toList == T3.toList) = G := n2
  have E1 := Lib.hid e1
  have E2 := Lib.hid e2
  have E3 := Lib.hid e3
  clear e1 e2 e3 n1 n2 eD v1 v2 v3 hfq1 hfq2
  obtain ⟨p1, f1⟩ : ∃ p, w.heap.size = p := ⟨_, rfl⟩
  obtain ⟨W1, ea1⟩ : ∃ W, w.alloc (.cells s1.cs.toArray 29) = W := ⟨_, rfl⟩
  have ka1 : Below w.heap.size w W1 := by rw [← ea1]; exact (Below.refl _ w).alloc (Nat.le_refl _) _
  have b1 : Blk W1 p1 29 s1.cs.toArray := by rw [← ea1]; exact blk_new w _ 29 _ f1
  have kk : Below w.heap.size w W1 := ka1
  have hp1 : w.heap.size ≤ p1 := Nat.le_of_eq f1
  clear ka1
  obtain ⟨p2, f2⟩ : ∃ p, W1.heap.size = p := ⟨_, rfl⟩
  obtain ⟨W2, ea2⟩ : ∃ W, W1.alloc (.cells s2.cs.toArray 29) = W := ⟨_, rfl⟩
  have ka2 : Below W1.heap.size W1 W2 := by rw [← ea2]; exact (Below.refl _ W1).alloc (Nat.le_refl _) _
  have b2 : Blk W2 p2 29 s2.cs.toArray := by rw [← ea2]; exact blk_new W1 _ 29 _ f2
  have q1_2 : p1 < p2 := by rw [← f2]; exact b1.lt
  replace b1 := b1.on ka2
  have kk0 := kk
  replace kk := kk.trans (ka2.mono kk.size)
  have hp2 : w.heap.size ≤ p2 := by rw [← f2]; exact kk0.size
  clear ka2 kk0
  go_enter Try.func5, Try.ntmps5
  go_wp2_with fail
  refine (alive_any _).mono ?_
  rintro e W3 ⟨rfl, k1⟩
  replace b1 := b1.on k1
  replace b2 := b2.on k1
  replace kk := kk.trans (k1.mono kk.size)
  clear k1
  go_wp2_with fail
  go_cut [] (fun wx => Below w.heap.size w wx ∧ Blk wx p1 29 q1.cs.toArray ∧ Blk wx p2 29 q2.cs.toArray)
  case first =>
    have n12 := q1_2
    obtain ⟨wd, ed⟩ : ∃ W, W3.drew = W := ⟨_, rfl⟩
    have hd : Below W3.heap.size W3 wd := by rw [← ed]; exact (Below.refl _ _).drew
    replace b1 := b1.on hd
    replace b2 := b2.on hd
    replace kk := kk.trans (hd.mono kk.size)
    clear hd
    have kS : Kept (fun g => g = p1 ∨ g = p2) wd wd := Kept.refl _ _
    refine wp_region_noPanic ?_
    refine wp_region_held_drew (S := (fun W => Kept (fun g => g = p1 ∨ g = p2) wd W)) (by kernel_rfl) (by rw [ed]; exact kS) (fun hHeld => ?_)
    rw [ed] at hHeld ⊢
    refine wpAnyH_ready (rs := [0, 2]) (by kernel_rfl) (by simp) ?_
    refine AllReadyH.cons (o := ⟨some 10, _, _, _, _, _⟩) rfl (fun K hK => ?_) (AllReadyH.cons (o := ⟨some 12, _, _, _, _, _⟩) rfl (fun K hK => ?_) AllReadyH.nil)
    · rw [if_pos (by rfl)]
      refine wp_load_row 29 (.tmp 3) rfl p1 rfl 29 s1.cs.toArray (0, 0) _ b1 Try.underlying29 rfl (sizeS _) ?_
      refine hK.out _ _ kS (fun h1 => ?_)
      clear hHeld hK K
      try simp only [Act.put, List.setIfInBounds_toArray, List.set_cons_zero, List.set_cons_succ]
      refine wpAnyH_ready (rs := [1, 2]) (by kernel_rfl) (by simp) ?_
      refine AllReadyH.cons (o := ⟨some 11, _, _, _, _, _⟩) rfl (fun K hK => ?_) (AllReadyH.cons (o := ⟨some 12, _, _, _, _, _⟩) rfl (fun K hK => ?_) AllReadyH.nil)
      · go_simp
        refine (dfewq1 wd).mono ?_
        rintro e w2 ⟨rfl, hb2⟩
        have b1_2 := b1.on hb2
        have b2_2 := b2.on hb2
        have kk_2 := kk.trans (hb2.mono kk.size)
        have S2 : (fun W => Kept (fun g => g = p1 ∨ g = p2) wd W) w2 := Kept.next kS (kept_below (fun _ => False) hb2) (fun _ h => h.elim)
        refine hK.out _ _ S2 (fun h2 => ?_)
        clear h1 hK K
        try simp only [Act.put, List.setIfInBounds_toArray, List.set_cons_zero, List.set_cons_succ]
        refine wpAnyH_ready (rs := [2]) (by kernel_rfl) (by simp) ?_
        refine AllReadyH.cons (o := ⟨some 12, _, _, _, _, _⟩) rfl (fun K hK => ?_) AllReadyH.nil
        rw [if_pos (by rfl)]
        refine wp_load_row 29 (.tmp 4) rfl p2 rfl 29 s2.cs.toArray (0, 0) _ b2_2 Try.underlying29 rfl (sizeS _) ?_
        refine hK.out _ _ S2 (fun h3 => ?_)
        clear h2 hK K
        try simp only [Act.put, List.setIfInBounds_toArray, List.set_cons_zero, List.set_cons_succ]
        refine wpAnyH_ready (rs := [3]) (by kernel_rfl) (by simp) ?_
        refine AllReadyH.cons (o := ⟨some 13, _, _, _, _, _⟩) rfl (fun K hK => ?_) AllReadyH.nil
        go_simp
        refine (dfewq2 w2).mono ?_
        rintro e w4 ⟨rfl, hb4⟩
        have b1_4 := b1_2.on hb4
        have b2_4 := b2_2.on hb4
        have kk_4 := kk_2.trans (hb4.mono kk_2.size)
        have S4 : (fun W => Kept (fun g => g = p1 ∨ g = p2) wd W) w4 := Kept.next S2 (kept_below (fun _ => False) hb4) (fun _ h => h.elim)
        refine hK.out _ _ S4 (fun h4 => ?_)
        clear h3 hK K
        try simp only [Act.put, List.setIfInBounds_toArray, List.set_cons_zero, List.set_cons_succ]
        refine wpAnyH_ready (rs := [4]) (by kernel_rfl) (by simp) ?_
        refine AllReadyH.cons (o := ⟨none, _, _, _, _, _⟩) rfl (fun K hK => ?_) AllReadyH.nil
        rw [if_pos (by rfl)]
        refine wp_store_row 29 (.tmp 3) (.tmp 11) rfl p1 q1.cs.toArray rfl rfl 29 s1.cs.toArray b1_4 (sizeS _) rfl (St.onea _) ?_
        refine hK.out _ _ (Kept.next S4 (kept_row _ p1 _) (fun g h => .inl (.inl h))) (fun h5 => ?_)
        clear h4 hK K
        have S5 : Kept (fun g => g = p1 ∨ g = p2) wd (w4.setRow p1 q1.cs.toArray) := Kept.next S4 (kept_row _ p1 _) (fun g h => .inl (.inl h))
        have b1_5 : Blk (w4.setRow p1 q1.cs.toArray) p1 29 q1.cs.toArray := row_named b1_4 rfl
        have b2_5 := row_far (W := (w4.setRow p1 q1.cs.toArray)) b2_4 rfl (by omega)
        have kk_5 := kk_4.trans (row_below (W := (w4.setRow p1 q1.cs.toArray)) rfl hp1 kk_4.size)
        try simp only [Act.put]
        refine wpAnyH_ready (rs := [5]) (by kernel_rfl) (by simp) ?_
        refine AllReadyH.cons (o := ⟨none, _, _, _, _, _⟩) rfl (fun K hK => ?_) AllReadyH.nil
        rw [if_pos (by rfl)]
        refine wp_store_row 29 (.tmp 4) (.tmp 13) rfl p2 q2.cs.toArray rfl rfl 29 s2.cs.toArray b2_5 (sizeS _) rfl (St.onea _) ?_
        refine hK.out _ _ (Kept.next S5 (kept_row _ p2 _) (fun g h => .inl (.inr h))) (fun h6 => ?_)
        clear h5 hK K
        have S6 : Kept (fun g => g = p1 ∨ g = p2) wd ((w4.setRow p1 q1.cs.toArray).setRow p2 q2.cs.toArray) := Kept.next S5 (kept_row _ p2 _) (fun g h => .inl (.inr h))
        have b1_6 := row_far (W := ((w4.setRow p1 q1.cs.toArray).setRow p2 q2.cs.toArray)) b1_5 rfl (by omega)
        have b2_6 : Blk ((w4.setRow p1 q1.cs.toArray).setRow p2 q2.cs.toArray) p2 29 q2.cs.toArray := row_named b2_5 rfl
        have kk_6 := kk_5.trans (row_below (W := ((w4.setRow p1 q1.cs.toArray).setRow p2 q2.cs.toArray)) rfl hp2 kk_5.size)
        try simp only [Act.put]
        refine wpAnyH_done (by kernel_rfl) ?_ _
        refine NoPanic.normal ?_
        go_wp2_with fail
        go_meet
        exact ⟨kk_6, b1_6, b2_6⟩
      · rw [if_pos (by rfl)]
        refine wp_load_row 29 (.tmp 4) rfl p2 rfl 29 s2.cs.toArray (0, 0) _ b2 Try.underlying29 rfl (sizeS _) ?_
        refine hK.out _ _ kS (fun h7 => ?_)
        clear h1 hK K
        try simp only [Act.put, List.setIfInBounds_toArray, List.set_cons_zero, List.set_cons_succ]
        refine wpAnyH_ready (rs := [1]) (by kernel_rfl) (by simp) ?_
        refine AllReadyH.cons (o := ⟨some 11, _, _, _, _, _⟩) rfl (fun K hK => ?_) AllReadyH.nil
        go_simp
        refine (dfewq1 wd).mono ?_
        rintro e w8 ⟨rfl, hb8⟩
        have b1_8 := b1.on hb8
        have b2_8 := b2.on hb8
        have kk_8 := kk.trans (hb8.mono kk.size)
        have S8 : (fun W => Kept (fun g => g = p1 ∨ g = p2) wd W) w8 := Kept.next kS (kept_below (fun _ => False) hb8) (fun _ h => h.elim)
        refine hK.out _ _ S8 (fun h8 => ?_)
        clear h7 hK K
        try simp only [Act.put, List.setIfInBounds_toArray, List.set_cons_zero, List.set_cons_succ]
        refine wpAnyH_ready (rs := [3]) (by kernel_rfl) (by simp) ?_
        refine AllReadyH.cons (o := ⟨some 13, _, _, _, _, _⟩) rfl (fun K hK => ?_) AllReadyH.nil
        go_simp
        refine (dfewq2 w8).mono ?_
        rintro e w9 ⟨rfl, hb9⟩
        have b1_9 := b1_8.on hb9
        have b2_9 := b2_8.on hb9
        have kk_9 := kk_8.trans (hb9.mono kk_8.size)
        have S9 : (fun W => Kept (fun g => g = p1 ∨ g = p2) wd W) w9 := Kept.next S8 (kept_below (fun _ => False) hb9) (fun _ h => h.elim)
        refine hK.out _ _ S9 (fun h9 => ?_)
        clear h8 hK K
        try simp only [Act.put, List.setIfInBounds_toArray, List.set_cons_zero, List.set_cons_succ]
        refine wpAnyH_ready (rs := [4]) (by kernel_rfl) (by simp) ?_
        refine AllReadyH.cons (o := ⟨none, _, _, _, _, _⟩) rfl (fun K hK => ?_) AllReadyH.nil
        rw [if_pos (by rfl)]
        refine wp_store_row 29 (.tmp 3) (.tmp 11) rfl p1 q1.cs.toArray rfl rfl 29 s1.cs.toArray b1_9 (sizeS _) rfl (St.onea _) ?_
        refine hK.out _ _ (Kept.next S9 (kept_row _ p1 _) (fun g h => .inl (.inl h))) (fun h10 => ?_)
        clear h9 hK K
        have S10 : Kept (fun g => g = p1 ∨ g = p2) wd (w9.setRow p1 q1.cs.toArray) := Kept.next S9 (kept_row _ p1 _) (fun g h => .inl (.inl h))
        have b1_10 : Blk (w9.setRow p1 q1.cs.toArray) p1 29 q1.cs.toArray := row_named b1_9 rfl
        have b2_10 := row_far (W := (w9.setRow p1 q1.cs.toArray)) b2_9 rfl (by omega)
        have kk_10 := kk_9.trans (row_below (W := (w9.setRow p1 q1.cs.toArray)) rfl hp1 kk_9.size)
        try simp only [Act.put]
        refine wpAnyH_ready (rs := [5]) (by kernel_rfl) (by simp) ?_
        refine AllReadyH.cons (o := ⟨none, _, _, _, _, _⟩) rfl (fun K hK => ?_) AllReadyH.nil
        rw [if_pos (by rfl)]
        refine wp_store_row 29 (.tmp 4) (.tmp 13) rfl p2 q2.cs.toArray rfl rfl 29 s2.cs.toArray b2_10 (sizeS _) rfl (St.onea _) ?_
        refine hK.out _ _ (Kept.next S10 (kept_row _ p2 _) (fun g h => .inl (.inr h))) (fun h11 => ?_)
        clear h10 hK K
        have S11 : Kept (fun g => g = p1 ∨ g = p2) wd ((w9.setRow p1 q1.cs.toArray).setRow p2 q2.cs.toArray) := Kept.next S10 (kept_row _ p2 _) (fun g h => .inl (.inr h))
        have b1_11 := row_far (W := ((w9.setRow p1 q1.cs.toArray).setRow p2 q2.cs.toArray)) b1_10 rfl (by omega)
        have b2_11 : Blk ((w9.setRow p1 q1.cs.toArray).setRow p2 q2.cs.toArray) p2 29 q2.cs.toArray := row_named b2_10 rfl
        have kk_11 := kk_10.trans (row_below (W := ((w9.setRow p1 q1.cs.toArray).setRow p2 q2.cs.toArray)) rfl hp2 kk_10.size)
        try simp only [Act.put]
        refine wpAnyH_done (by kernel_rfl) ?_ _
        refine NoPanic.normal ?_
        go_wp2_with fail
        go_meet
        exact ⟨kk_11, b1_11, b2_11⟩
    · rw [if_pos (by rfl)]
      refine wp_load_row 29 (.tmp 4) rfl p2 rfl 29 s2.cs.toArray (0, 0) _ b2 Try.underlying29 rfl (sizeS _) ?_
      refine hK.out _ _ kS (fun h12 => ?_)
      clear hHeld hK K
      try simp only [Act.put, List.setIfInBounds_toArray, List.set_cons_zero, List.set_cons_succ]
      refine wpAnyH_ready (rs := [0]) (by kernel_rfl) (by simp) ?_
      refine AllReadyH.cons (o := ⟨some 10, _, _, _, _, _⟩) rfl (fun K hK => ?_) AllReadyH.nil
      rw [if_pos (by rfl)]
      refine wp_load_row 29 (.tmp 3) rfl p1 rfl 29 s1.cs.toArray (0, 0) _ b1 Try.underlying29 rfl (sizeS _) ?_
      refine hK.out _ _ kS (fun h13 => ?_)
      clear h12 hK K
      try simp only [Act.put, List.setIfInBounds_toArray, List.set_cons_zero, List.set_cons_succ]
      refine wpAnyH_ready (rs := [1]) (by kernel_rfl) (by simp) ?_
      refine AllReadyH.cons (o := ⟨some 11, _, _, _, _, _⟩) rfl (fun K hK => ?_) AllReadyH.nil
      go_simp
      refine (dfewq1 wd).mono ?_
      rintro e w14 ⟨rfl, hb14⟩
      have b1_14 := b1.on hb14
      have b2_14 := b2.on hb14
      have kk_14 := kk.trans (hb14.mono kk.size)
      have S14 : (fun W => Kept (fun g => g = p1 ∨ g = p2) wd W) w14 := Kept.next kS (kept_below (fun _ => False) hb14) (fun _ h => h.elim)
      refine hK.out _ _ S14 (fun h14 => ?_)
      clear h13 hK K
      try simp only [Act.put, List.setIfInBounds_toArray, List.set_cons_zero, List.set_cons_succ]
      refine wpAnyH_ready (rs := [3]) (by kernel_rfl) (by simp) ?_
      refine AllReadyH.cons (o := ⟨some 13, _, _, _, _, _⟩) rfl (fun K hK => ?_) AllReadyH.nil
      go_simp
      refine (dfewq2 w14).mono ?_
      rintro e w15 ⟨rfl, hb15⟩
      have b1_15 := b1_14.on hb15
      have b2_15 := b2_14.on hb15
      have kk_15 := kk_14.trans (hb15.mono kk_14.size)
      have S15 : (fun W => Kept (fun g => g = p1 ∨ g = p2) wd W) w15 := Kept.next S14 (kept_below (fun _ => False) hb15) (fun _ h => h.elim)
      refine hK.out _ _ S15 (fun h15 => ?_)
      clear h14 hK K
      try simp only [Act.put, List.setIfInBounds_toArray, List.set_cons_zero, List.set_cons_succ]
      refine wpAnyH_ready (rs := [4]) (by kernel_rfl) (by simp) ?_
      refine AllReadyH.cons (o := ⟨none, _, _, _, _, _⟩) rfl (fun K hK => ?_) AllReadyH.nil
      rw [if_pos (by rfl)]
      refine wp_store_row 29 (.tmp 3) (.tmp 11) rfl p1 q1.cs.toArray rfl rfl 29 s1.cs.toArray b1_15 (sizeS _) rfl (St.onea _) ?_
      refine hK.out _ _ (Kept.next S15 (kept_row _ p1 _) (fun g h => .inl (.inl h))) (fun h16 => ?_)
      clear h15 hK K
      have S16 : Kept (fun g => g = p1 ∨ g = p2) wd (w15.setRow p1 q1.cs.toArray) := Kept.next S15 (kept_row _ p1 _) (fun g h => .inl (.inl h))
      have b1_16 : Blk (w15.setRow p1 q1.cs.toArray) p1 29 q1.cs.toArray := row_named b1_15 rfl
      have b2_16 := row_far (W := (w15.setRow p1 q1.cs.toArray)) b2_15 rfl (by omega)
      have kk_16 := kk_15.trans (row_below (W := (w15.setRow p1 q1.cs.toArray)) rfl hp1 kk_15.size)
      try simp only [Act.put]
      refine wpAnyH_ready (rs := [5]) (by kernel_rfl) (by simp) ?_
      refine AllReadyH.cons (o := ⟨none, _, _, _, _, _⟩) rfl (fun K hK => ?_) AllReadyH.nil
      rw [if_pos (by rfl)]
      refine wp_store_row 29 (.tmp 4) (.tmp 13) rfl p2 q2.cs.toArray rfl rfl 29 s2.cs.toArray b2_16 (sizeS _) rfl (St.onea _) ?_
      refine hK.out _ _ (Kept.next S16 (kept_row _ p2 _) (fun g h => .inl (.inr h))) (fun h17 => ?_)
      clear h16 hK K
      have S17 : Kept (fun g => g = p1 ∨ g = p2) wd ((w15.setRow p1 q1.cs.toArray).setRow p2 q2.cs.toArray) := Kept.next S16 (kept_row _ p2 _) (fun g h => .inl (.inr h))
      have b1_17 := row_far (W := ((w15.setRow p1 q1.cs.toArray).setRow p2 q2.cs.toArray)) b1_16 rfl (by omega)
      have b2_17 : Blk ((w15.setRow p1 q1.cs.toArray).setRow p2 q2.cs.toArray) p2 29 q2.cs.toArray := row_named b2_16 rfl
      have kk_17 := kk_16.trans (row_below (W := ((w15.setRow p1 q1.cs.toArray).setRow p2 q2.cs.toArray)) rfl hp2 kk_16.size)
      try simp only [Act.put]
      refine wpAnyH_done (by kernel_rfl) ?_ _
      refine NoPanic.normal ?_
      go_wp2_with fail
      go_meet
      exact ⟨kk_17, b1_17, b2_17⟩
  case rest =>
    clear kk b1 b2 dfewq1 dfewq2
    obtain ⟨kk, b1, b2⟩ := hcut
    have b1c := b1
    obtain ⟨p3, f3⟩ : ∃ p, wc.heap.size = p := ⟨_, rfl⟩
    obtain ⟨W41, ea41⟩ : ∃ W, wc.alloc (.cells #[.slice none 0 0, .slice none 0 0, .slice none 0 0, .slice none 0 0, .slice none 0 0, .slice none 0 0, .int .i64 0, .slice none 0 0, .slice none 0 0] 29) = W := ⟨_, rfl⟩
    have ka41 : Below wc.heap.size wc W41 := by rw [← ea41]; exact (Below.refl _ wc).alloc (Nat.le_refl _) _
    have b3 : Blk W41 p3 29 #[.slice none 0 0, .slice none 0 0, .slice none 0 0, .slice none 0 0, .slice none 0 0, .slice none 0 0, .int .i64 0, .slice none 0 0, .slice none 0 0] := by rw [← ea41]; exact blk_new wc _ 29 _ f3
    have q1_3 : p1 < p3 := by rw [← f3]; exact b1.lt
    replace b1 := b1.on ka41
    have q2_3 : p2 < p3 := by rw [← f3]; exact b2.lt
    replace b2 := b2.on ka41
    have kk0 := kk
    replace kk := kk.trans (ka41.mono kk.size)
    have hp3 : w.heap.size ≤ p3 := by rw [← f3]; exact kk0.size
    clear ka41 kk0
    obtain ⟨W42, es42⟩ : ∃ W, W41.setRow p3 q1.cs.toArray = W := ⟨_, rfl⟩
    have bo3 := b3
    replace b1 := row_far b1 es42 (by omega)
    replace b2 := row_far b2 es42 (by omega)
    replace b3 : Blk W42 p3 29 q1.cs.toArray := row_named b3 es42
    replace kk := kk.trans (row_below es42 hp3 kk.size)
    have c42_3_6 : W42.cell? ⟨p3, 6, none⟩ = some (.int .i64 q1.ep) := b3.cell 6
    have fr42_3_6 := b3.free 6
    obtain ⟨W43, es43⟩ : ∃ W, W42.setCell ⟨p3, 6, none⟩ (.int .i64 e) = W := ⟨_, rfl⟩
    replace b1 := set_far b1 es43 (by omega)
    replace b2 := set_far b2 es43 (by omega)
    replace b3 : Blk W43 p3 29 (q1.at_ e).cs.toArray := set_named b3 es43 rfl
    replace kk := kk.trans (set_below es43 hp3 kk.size)
    go_wp2_with (first | ((with_reducible refine at_load 29 (.tmp 3) ?_); refine wpList_load_row rfl 29 (.tmp 3) rfl p1 rfl 29 q1.cs.toArray (0, 0) _ b1c Try.underlying29 rfl (sizeS _) ?_) | ((with_reducible refine at_store 29 (.tmp 7) (.tmp 14) ?_); refine wpList_store_row rfl 29 (.tmp 7) (.tmp 14) rfl p3 q1.cs.toArray rfl rfl 29 #[.slice none 0 0, .slice none 0 0, .slice none 0 0, .slice none 0 0, .slice none 0 0, .slice none 0 0, .int .i64 0, .slice none 0 0, .slice none 0 0] bo3 (sizeS _) rfl (St.onea _) ?_; rw [es42]))
    clear c42_3_6 fr42_3_6
    clear bo3 b1c
    have h1 : Stat W43 q1 d1 bq1 := HR1.out.on kk
    have h2 : Stat W43 q2 d2 bq2 := HR2.out.on kk
    have h3 := stat_at h1 e
    obtain ⟨wd, ed⟩ : ∃ W, W43.drew = W := ⟨_, rfl⟩
    have hd : Below W43.heap.size W43 wd := by rw [← ed]; exact (Below.refl _ _).drew
    replace b1 := b1.on hd
    replace b2 := b2.on hd
    replace b3 := b3.on hd
    replace kk := kk.trans (hd.mono kk.size)
    replace h1 := h1.on hd
    replace h2 := h2.on hd
    replace h3 := h3.on hd
    clear hd
    have kS : Kept (fun g => False) wd wd := Kept.refl _ _
    have dsame : ∀ W, Stat W q1 d1 bq1 → Stat W q2 d2 bq2 → Calls Try.prog 20 #[.agg q1.cs.toArray, .agg q2.cs.toArray] W fun e w' => e = .returned (.bool D) ∧ Below W.heap.size W w' := fun W a b => by
      have := state_eq q1 q2 d1 d2 bq1 bq2 W a b
      rwa [ED.out] at this
    have tS : ∀ W, Kept (fun g => False) wd W → W.cell? ⟨p1, 6, none⟩ = some (.int .i64 q1.ep) := fun W hW => (b1.kept hW (fun h => h)).cell 6
    refine wp_region_noPanic ?_
    refine wp_region_held_drew (S := (fun W => Kept (fun g => False) wd W)) (by kernel_rfl) (by rw [ed]; exact kS) (fun hHeld => ?_)
    rw [ed] at hHeld ⊢
    refine wpAnyH_take (i := 0) (oi := ⟨some 17, _, _, _, _, _⟩) (v := .agg (List.toArray (q1.cs))) rfl (by kernel_rfl) (by kernel_rfl) (by kernel_rfl) (fun _ _ _ h => h) (yieldsIf_load_mid (by rfl) 29 (.tmp 3) rfl p1 (0) rfl (q1.cs) _ (fun W hW => range_blk (b1.kept hW (fun h => h))) Try.underlying29 rfl size29) (by assumption) ?_
    try simp only [Act.put, List.setIfInBounds_toArray, List.set_cons_zero, List.set_cons_succ]
    refine wpAnyH_take (i := 3) (oi := ⟨some 20, _, _, _, _, _⟩) (v := .agg (List.toArray (q2.cs))) rfl (by kernel_rfl) (by kernel_rfl) (by kernel_rfl) (fun _ _ _ h => h) (yieldsIf_load_mid (by rfl) 29 (.tmp 4) rfl p2 (0) rfl (q2.cs) _ (fun W hW => range_blk (b2.kept hW (fun h => h))) Try.underlying29 rfl size29) (by assumption) ?_
    try simp only [Act.put, List.setIfInBounds_toArray, List.set_cons_zero, List.set_cons_succ]
    refine wpAnyH_take (i := 7) (oi := ⟨some 24, _, _, _, _, _⟩) (v := .agg (List.toArray (q1.cs))) rfl (by kernel_rfl) (by kernel_rfl) (by kernel_rfl) (fun _ _ _ h => h) (yieldsIf_load_mid (by rfl) 29 (.tmp 3) rfl p1 (0) rfl (q1.cs) _ (fun W hW => range_blk (b1.kept hW (fun h => h))) Try.underlying29 rfl size29) (by assumption) ?_
    try simp only [Act.put, List.setIfInBounds_toArray, List.set_cons_zero, List.set_cons_succ]
    refine wpAnyH_take (i := 8) (oi := ⟨some 25, _, _, _, _, _⟩) (v := .agg (List.toArray (q2.cs))) rfl (by kernel_rfl) (by kernel_rfl) (by kernel_rfl) (fun _ _ _ h => h) (yieldsIf_load_mid (by rfl) 29 (.tmp 4) rfl p2 (0) rfl (q2.cs) _ (fun W hW => range_blk (b2.kept hW (fun h => h))) Try.underlying29 rfl size29) (by assumption) ?_
    try simp only [Act.put, List.setIfInBounds_toArray, List.set_cons_zero, List.set_cons_succ]
    refine wpAnyH_ready (rs := [1]) (by kernel_rfl) (by simp) ?_
    refine AllReadyH.cons (o := ⟨some 18, _, _, _, _, _⟩) rfl (fun K hK => ?_) AllReadyH.nil
    go_simp
    refine (cput_any q1 d1 bq1 wd h1 HF1.out).mono ?_
    rintro e w1 ⟨A1, n1, c1, rfl, o1, hb1⟩
    have kk_1 := kk.trans (hb1.mono kk.size)
    have h1_1 := h1.on hb1
    have h2_1 := h2.on hb1
    have h3_1 := h3.on hb1
    have S1 : (fun W => Kept (fun g => False) wd W) w1 := Kept.next kS (kept_below (fun _ => False) hb1) (fun _ h => h.elim)
    refine hK.out _ _ S1 (fun h1 => ?_)
    clear hHeld hK K
    try simp only [Act.put, List.setIfInBounds_toArray, List.set_cons_zero, List.set_cons_succ]
    refine wpAnyH_ready (rs := [2, 4]) (by kernel_rfl) (by simp) ?_
    refine AllReadyH.cons (o := ⟨some 19, _, _, _, _, _⟩) rfl (fun K hK => ?_) (AllReadyH.cons (o := ⟨some 21, _, _, _, _, _⟩) rfl (fun K hK => ?_) AllReadyH.nil)
    · rw [if_pos (by rfl)]
      have x2 := o1.text (P := Try.prog) 32 9 5 Try.underlying32 Try.underlying5 Try.underlying9
      rw [E1.out] at x2
      go_simp
      clear x2
      refine hK.out _ _ S1 (fun h2 => ?_)
      clear h1 hK K
      try simp only [Act.put, List.setIfInBounds_toArray, List.set_cons_zero, List.set_cons_succ]
      refine wpAnyH_ready (rs := [4]) (by kernel_rfl) (by simp) ?_
      refine AllReadyH.cons (o := ⟨some 21, _, _, _, _, _⟩) rfl (fun K hK => ?_) AllReadyH.nil
      go_simp
      refine (cput_any q2 d2 bq2 w1 h2_1 HF2.out).mono ?_
      rintro e w3 ⟨A3, n3, c3, rfl, o3, hb3⟩
      have kk_3 := kk_1.trans (hb3.mono kk_1.size)
      have h1_3 := h1_1.on hb3
      have h2_3 := h2_1.on hb3
      have h3_3 := h3_1.on hb3
      have oa_3 := o1.on hb3
      have S3 : (fun W => Kept (fun g => False) wd W) w3 := Kept.next S1 (kept_below (fun _ => False) hb3) (fun _ h => h.elim)
      refine hK.out _ _ S3 (fun h3 => ?_)
      clear h2 hK K
      try simp only [Act.put, List.setIfInBounds_toArray, List.set_cons_zero, List.set_cons_succ]
      refine wpAnyH_ready (rs := [5, 9]) (by kernel_rfl) (by simp) ?_
      refine AllReadyH.cons (o := ⟨some 22, _, _, _, _, _⟩) rfl (fun K hK => ?_) (AllReadyH.cons (o := ⟨some 26, _, _, _, _, _⟩) rfl (fun K hK => ?_) AllReadyH.nil)
      · rw [if_pos (by rfl)]
        have x4 := o3.text (P := Try.prog) 32 9 5 Try.underlying32 Try.underlying5 Try.underlying9
        rw [E2.out] at x4
        go_simp
        clear x4
        refine hK.out _ _ S3 (fun h4 => ?_)
        clear h3 hK K
        try simp only [Act.put, List.setIfInBounds_toArray, List.set_cons_zero, List.set_cons_succ]
        refine wpAnyH_take (i := 6) (oi := ⟨some 23, _, _, _, _, _⟩) (v := ?_) rfl (by kernel_rfl) (by kernel_rfl) (by kernel_rfl) (fun _ _ _ h => h) (Or.inl ⟨by rfl, ?_⟩) (by assumption) ?_
        rotate_left 1
        · (intro W hSw; go_simp <;> with_reducible rfl)
        try simp only [Act.put, List.setIfInBounds_toArray, List.set_cons_zero, List.set_cons_succ]
        refine wpAnyH_ready (rs := [9]) (by kernel_rfl) (by simp) ?_
        refine AllReadyH.cons (o := ⟨some 26, _, _, _, _, _⟩) rfl (fun K hK => ?_) AllReadyH.nil
        go_simp
        refine (dsame w3 h1_3 h2_3).mono ?_
        rintro e w5 ⟨rfl, hb5⟩
        have kk_5 := kk_3.trans (hb5.mono kk_3.size)
        have h1_5 := h1_3.on hb5
        have h2_5 := h2_3.on hb5
        have h3_5 := h3_3.on hb5
        have oa_5 := oa_3.on hb5
        have ob_5 := o3.on hb5
        have S5 : (fun W => Kept (fun g => False) wd W) w5 := Kept.next S3 (kept_below (fun _ => False) hb5) (fun _ h => h.elim)
        refine hK.out _ _ S5 (fun h5 => ?_)
        clear h4 hK K
        try simp only [Act.put, List.setIfInBounds_toArray, List.set_cons_zero, List.set_cons_succ]
        refine wpAnyH_take (i := 10) (oi := ⟨some 27, _, _, _, _, _⟩) (v := ?_) rfl (by kernel_rfl) (by kernel_rfl) (by kernel_rfl) (fun _ _ _ h => h) (Or.inl ⟨by rfl, ?_⟩) (by assumption) ?_
        rotate_left 1
        · (intro W hSw; go_simp <;> with_reducible rfl)
        try simp only [Act.put, List.setIfInBounds_toArray, List.set_cons_zero, List.set_cons_succ]
        refine wpAnyH_take (i := 11) (oi := ⟨some 28, _, _, _, _, _⟩) (v := ?_) rfl (by kernel_rfl) (by kernel_rfl) (by kernel_rfl) (fun _ _ _ h => h) (Or.inl ⟨by rfl, ?_⟩) (by assumption) ?_
        rotate_left 1
        · (intro W hSw; go_simp <;> with_reducible rfl)
        try simp only [Act.put, List.setIfInBounds_toArray, List.set_cons_zero, List.set_cons_succ]
        refine wpAnyH_take (i := 12) (oi := ⟨some 29, _, _, _, _, _⟩) (v := .agg (List.toArray (q1.cs))) rfl (by kernel_rfl) (by kernel_rfl) (by kernel_rfl) (fun _ _ _ h => h) (yieldsIf_load_mid (by rfl) 29 (.tmp 3) rfl p1 (0) rfl (q1.cs) _ (fun W hW => range_blk (b1.kept hW (fun h => h))) Try.underlying29 rfl size29) (by assumption) ?_
        try simp only [Act.put, List.setIfInBounds_toArray, List.set_cons_zero, List.set_cons_succ]
        refine wpAnyH_take (i := 15) (oi := ⟨some 32, _, _, _, _, _⟩) (v := .agg (List.toArray ((q1.at_ e).cs))) rfl (by kernel_rfl) (by kernel_rfl) (by kernel_rfl) (fun _ _ _ h => h) (yieldsIf_load_mid (by rfl) 29 (.tmp 7) rfl p3 (0) rfl ((q1.at_ e).cs) _ (fun W hW => range_blk (b3.kept hW (fun h => h))) Try.underlying29 rfl size29) (by assumption) ?_
        try simp only [Act.put, List.setIfInBounds_toArray, List.set_cons_zero, List.set_cons_succ]
        refine wpAnyH_take (i := 19) (oi := ⟨some 36, _, _, _, _, _⟩) (v := ?_) rfl (by kernel_rfl) (by kernel_rfl) (by kernel_rfl) (fun _ _ _ h => h) (Or.inl ⟨by rfl, ?_⟩) (by assumption) ?_
        rotate_left 1
        · (intro W hSw; go_simp <;> with_reducible rfl)
        try simp only [Act.put, List.setIfInBounds_toArray, List.set_cons_zero, List.set_cons_succ]
        refine wpAnyH_take (i := 20) (oi := ⟨some 37, _, _, _, _, _⟩) (v := ?_) rfl (by kernel_rfl) (by kernel_rfl) (by kernel_rfl) (fun _ _ _ h => h) (Or.inl ⟨by rfl, ?_⟩) (by assumption) ?_
        rotate_left 1
        · (intro W hSw; obtain q0 := tS W hSw; go_simp <;> with_reducible rfl)
        try simp only [Act.put, List.setIfInBounds_toArray, List.set_cons_zero, List.set_cons_succ]
        refine wpAnyH_take (i := 21) (oi := ⟨some 38, _, _, _, _, _⟩) (v := ?_) rfl (by kernel_rfl) (by kernel_rfl) (by kernel_rfl) (fun _ _ _ h => h) (Or.inl ⟨by rfl, ?_⟩) (by assumption) ?_
        rotate_left 1
        · (intro W hSw; go_simp <;> with_reducible rfl)
        try simp only [Act.put, List.setIfInBounds_toArray, List.set_cons_zero, List.set_cons_succ]
        refine wpAnyH_take (i := 22) (oi := ⟨some 39, _, _, _, _, _⟩) (v := ?_) rfl (by kernel_rfl) (by kernel_rfl) (by kernel_rfl) (fun _ _ _ h => h) (Or.inl ⟨by rfl, ?_⟩) (by assumption) ?_
        rotate_left 1
        · (intro W hSw; go_simp <;> with_reducible rfl)
        try simp only [Act.put, List.setIfInBounds_toArray, List.set_cons_zero, List.set_cons_succ]
        refine wpAnyH_ready (rs := [13]) (by kernel_rfl) (by simp) ?_
        refine AllReadyH.cons (o := ⟨some 30, _, _, _, _, _⟩) rfl (fun K hK => ?_) AllReadyH.nil
        go_simp
        refine (cput_any q1 d1 bq1 w5 h1_5 HF1.out).mono ?_
        rintro e w6 ⟨A6, n6, c6, rfl, o6, hb6⟩
        have kk_6 := kk_5.trans (hb6.mono kk_5.size)
        have h1_6 := h1_5.on hb6
        have h2_6 := h2_5.on hb6
        have h3_6 := h3_5.on hb6
        have oa_6 := oa_5.on hb6
        have ob_6 := ob_5.on hb6
        have S6 : (fun W => Kept (fun g => False) wd W) w6 := Kept.next S5 (kept_below (fun _ => False) hb6) (fun _ h => h.elim)
        refine hK.out _ _ S6 (fun h6 => ?_)
        clear h5 hK K
        try simp only [Act.put, List.setIfInBounds_toArray, List.set_cons_zero, List.set_cons_succ]
        refine wpAnyH_ready (rs := [14, 16]) (by kernel_rfl) (by simp) ?_
        refine AllReadyH.cons (o := ⟨some 31, _, _, _, _, _⟩) rfl (fun K hK => ?_) (AllReadyH.cons (o := ⟨some 33, _, _, _, _, _⟩) rfl (fun K hK => ?_) AllReadyH.nil)
        · rw [if_pos (by rfl)]
          have x7 := o6.text (P := Try.prog) 32 9 5 Try.underlying32 Try.underlying5 Try.underlying9
          rw [E1.out] at x7
          go_simp
          clear x7
          refine hK.out _ _ S6 (fun h7 => ?_)
          clear h6 hK K
          try simp only [Act.put, List.setIfInBounds_toArray, List.set_cons_zero, List.set_cons_succ]
          refine wpAnyH_ready (rs := [16]) (by kernel_rfl) (by simp) ?_
          refine AllReadyH.cons (o := ⟨some 33, _, _, _, _, _⟩) rfl (fun K hK => ?_) AllReadyH.nil
          go_simp
          refine (cput_any (q1.at_ e) (d1.at_ e) bq1 w6 h3_6 HF3.out).mono ?_
          rintro e w8 ⟨A8, n8, c8, rfl, o8, hb8⟩
          have kk_8 := kk_6.trans (hb8.mono kk_6.size)
          have h1_8 := h1_6.on hb8
          have h2_8 := h2_6.on hb8
          have h3_8 := h3_6.on hb8
          have oa_8 := oa_6.on hb8
          have ob_8 := ob_6.on hb8
          have oc_8 := o6.on hb8
          have S8 : (fun W => Kept (fun g => False) wd W) w8 := Kept.next S6 (kept_below (fun _ => False) hb8) (fun _ h => h.elim)
          refine hK.out _ _ S8 (fun h8 => ?_)
          clear h7 hK K
          try simp only [Act.put, List.setIfInBounds_toArray, List.set_cons_zero, List.set_cons_succ]
          refine wpAnyH_ready (rs := [17]) (by kernel_rfl) (by simp) ?_
          refine AllReadyH.cons (o := ⟨some 34, _, _, _, _, _⟩) rfl (fun K hK => ?_) AllReadyH.nil
          rw [if_pos (by rfl)]
          have x9 := o8.text (P := Try.prog) 32 9 5 Try.underlying32 Try.underlying5 Try.underlying9
          rw [E3.out] at x9
          go_simp
          clear x9
          refine hK.out _ _ S8 (fun h9 => ?_)
          clear h8 hK K
          try simp only [Act.put, List.setIfInBounds_toArray, List.set_cons_zero, List.set_cons_succ]
          refine wpAnyH_take (i := 18) (oi := ⟨some 35, _, _, _, _, _⟩) (v := ?_) rfl (by kernel_rfl) (by kernel_rfl) (by kernel_rfl) (fun _ _ _ h => h) (Or.inl ⟨by rfl, ?_⟩) (by assumption) ?_
          rotate_left 1
          · (intro W hSw; go_simp <;> with_reducible rfl)
          try simp only [Act.put, List.setIfInBounds_toArray, List.set_cons_zero, List.set_cons_succ]
          refine wpAnyH_take (i := 23) (oi := ⟨some 40, _, _, _, _, _⟩) (v := ?_) rfl (by kernel_rfl) (by kernel_rfl) (by kernel_rfl) (fun _ _ _ h => h) (Or.inl ⟨by rfl, ?_⟩) (by assumption) ?_
          rotate_left 1
          · (intro W hSw; go_simp <;> with_reducible rfl)
          try simp only [Act.put, List.setIfInBounds_toArray, List.set_cons_zero, List.set_cons_succ]
          refine wpAnyH_take (i := 24) (oi := ⟨some 41, _, _, _, _, _⟩) (v := ?_) rfl (by kernel_rfl) (by kernel_rfl) (by kernel_rfl) (fun _ _ _ h => h) (Or.inl ⟨by rfl, ?_⟩) (by assumption) ?_
          rotate_left 1
          · (intro W hSw; go_simp <;> with_reducible rfl)
          try simp only [Act.put, List.setIfInBounds_toArray, List.set_cons_zero, List.set_cons_succ]
          refine wpAnyH_take (i := 25) (oi := ⟨some 6, _, _, _, _, _⟩) (v := ?_) rfl (by kernel_rfl) (by kernel_rfl) (by kernel_rfl) (fun _ _ _ h => h) (Or.inl ⟨by rfl, ?_⟩) (by assumption) ?_
          rotate_left 1
          · (intro W hSw; go_simp <;> with_reducible rfl)
          try simp only [Act.put, List.setIfInBounds_toArray, List.set_cons_zero, List.set_cons_succ]
          refine wpAnyH_done (by kernel_rfl) ?_ _
          refine NoPanic.normal ?_
          go_wp2
          go_ret
          have kz := kk_8
          first | exact ⟨rfl, kz⟩ | (rw [f1] at kz; exact ⟨rfl, kz⟩)
        · go_simp
          refine (cput_any (q1.at_ e) (d1.at_ e) bq1 w6 h3_6 HF3.out).mono ?_
          rintro e w10 ⟨A10, n10, c10, rfl, o10, hb10⟩
          have kk_10 := kk_6.trans (hb10.mono kk_6.size)
          have h1_10 := h1_6.on hb10
          have h2_10 := h2_6.on hb10
          have h3_10 := h3_6.on hb10
          have oa_10 := oa_6.on hb10
          have ob_10 := ob_6.on hb10
          have oc_10 := o6.on hb10
          have S10 : (fun W => Kept (fun g => False) wd W) w10 := Kept.next S6 (kept_below (fun _ => False) hb10) (fun _ h => h.elim)
          refine hK.out _ _ S10 (fun h10 => ?_)
          clear h6 hK K
          try simp only [Act.put, List.setIfInBounds_toArray, List.set_cons_zero, List.set_cons_succ]
          refine wpAnyH_ready (rs := [14, 17]) (by kernel_rfl) (by simp) ?_
          refine AllReadyH.cons (o := ⟨some 31, _, _, _, _, _⟩) rfl (fun K hK => ?_) (AllReadyH.cons (o := ⟨some 34, _, _, _, _, _⟩) rfl (fun K hK => ?_) AllReadyH.nil)
          · rw [if_pos (by rfl)]
            have x11 := oc_10.text (P := Try.prog) 32 9 5 Try.underlying32 Try.underlying5 Try.underlying9
            rw [E1.out] at x11
            go_simp
            clear x11
            refine hK.out _ _ S10 (fun h11 => ?_)
            clear h10 hK K
            try simp only [Act.put, List.setIfInBounds_toArray, List.set_cons_zero, List.set_cons_succ]
            refine wpAnyH_ready (rs := [17]) (by kernel_rfl) (by simp) ?_
            refine AllReadyH.cons (o := ⟨some 34, _, _, _, _, _⟩) rfl (fun K hK => ?_) AllReadyH.nil
            rw [if_pos (by rfl)]
            have x12 := o10.text (P := Try.prog) 32 9 5 Try.underlying32 Try.underlying5 Try.underlying9
            rw [E3.out] at x12
            go_simp
            clear x12
            refine hK.out _ _ S10 (fun h12 => ?_)
            clear h11 hK K
            try simp only [Act.put, List.setIfInBounds_toArray, List.set_cons_zero, List.set_cons_succ]
            refine wpAnyH_take (i := 18) (oi := ⟨some 35, _, _, _, _, _⟩) (v := ?_) rfl (by kernel_rfl) (by kernel_rfl) (by kernel_rfl) (fun _ _ _ h => h) (Or.inl ⟨by rfl, ?_⟩) (by assumption) ?_
            rotate_left 1
            · (intro W hSw; go_simp <;> with_reducible rfl)
            try simp only [Act.put, List.setIfInBounds_toArray, List.set_cons_zero, List.set_cons_succ]
            refine wpAnyH_take (i := 23) (oi := ⟨some 40, _, _, _, _, _⟩) (v := ?_) rfl (by kernel_rfl) (by kernel_rfl) (by kernel_rfl) (fun _ _ _ h => h) (Or.inl ⟨by rfl, ?_⟩) (by assumption) ?_
            rotate_left 1
            · (intro W hSw; go_simp <;> with_reducible rfl)
            try simp only [Act.put, List.setIfInBounds_toArray, List.set_cons_zero, List.set_cons_succ]
            refine wpAnyH_take (i := 24) (oi := ⟨some 41, _, _, _, _, _⟩) (v := ?_) rfl (by kernel_rfl) (by kernel_rfl) (by kernel_rfl) (fun _ _ _ h => h) (Or.inl ⟨by rfl, ?_⟩) (by assumption) ?_
            rotate_left 1
            · (intro W hSw; go_simp <;> with_reducible rfl)
            try simp only [Act.put, List.setIfInBounds_toArray, List.set_cons_zero, List.set_cons_succ]
            refine wpAnyH_take (i := 25) (oi := ⟨some 6, _, _, _, _, _⟩) (v := ?_) rfl (by kernel_rfl) (by kernel_rfl) (by kernel_rfl) (fun _ _ _ h => h) (Or.inl ⟨by rfl, ?_⟩) (by assumption) ?_
            rotate_left 1
            · (intro W hSw; go_simp <;> with_reducible rfl)
            try simp only [Act.put, List.setIfInBounds_toArray, List.set_cons_zero, List.set_cons_succ]
            refine wpAnyH_done (by kernel_rfl) ?_ _
            refine NoPanic.normal ?_
            go_wp2
            go_ret
            have kz := kk_10
            first | exact ⟨rfl, kz⟩ | (rw [f1] at kz; exact ⟨rfl, kz⟩)
          · rw [if_pos (by rfl)]
            have x13 := o10.text (P := Try.prog) 32 9 5 Try.underlying32 Try.underlying5 Try.underlying9
            rw [E3.out] at x13
            go_simp
            clear x13
            refine hK.out _ _ S10 (fun h13 => ?_)
            clear h10 hK K
            try simp only [Act.put, List.setIfInBounds_toArray, List.set_cons_zero, List.set_cons_succ]
            refine wpAnyH_ready (rs := [14]) (by kernel_rfl) (by simp) ?_
            refine AllReadyH.cons (o := ⟨some 31, _, _, _, _, _⟩) rfl (fun K hK => ?_) AllReadyH.nil
            rw [if_pos (by rfl)]
            have x14 := oc_10.text (P := Try.prog) 32 9 5 Try.underlying32 Try.underlying5 Try.underlying9
            rw [E1.out] at x14
            go_simp
            clear x14
            refine hK.out _ _ S10 (fun h14 => ?_)
            clear h13 hK K
            try simp only [Act.put, List.setIfInBounds_toArray, List.set_cons_zero, List.set_cons_succ]
            refine wpAnyH_take (i := 18) (oi := ⟨some 35, _, _, _, _, _⟩) (v := ?_) rfl (by kernel_rfl) (by kernel_rfl) (by kernel_rfl) (fun _ _ _ h => h) (Or.inl ⟨by rfl, ?_⟩) (by assumption) ?_
            rotate_left 1
            · (intro W hSw; go_simp <;> with_reducible rfl)
            try simp only [Act.put, List.setIfInBounds_toArray, List.set_cons_zero, List.set_cons_succ]
            refine wpAnyH_take (i := 23) (oi := ⟨some 40, _, _, _, _, _⟩) (v := ?_) rfl (by kernel_rfl) (by kernel_rfl) (by kernel_rfl) (fun _ _ _ h => h) (Or.inl ⟨by rfl, ?_⟩) (by assumption) ?_
            rotate_left 1
            · (intro W hSw; go_simp <;> with_reducible rfl)
            try simp only [Act.put, List.setIfInBounds_toArray, List.set_cons_zero, List.set_cons_succ]
            refine wpAnyH_take (i := 24) (oi := ⟨some 41, _, _, _, _, _⟩) (v := ?_) rfl (by kernel_rfl) (by kernel_rfl) (by kernel_rfl) (fun _ _ _ h => h) (Or.inl ⟨by rfl, ?_⟩) (by assumption) ?_
            rotate_left 1
            · (intro W hSw; go_simp <;> with_reducible rfl)
            try simp only [Act.put, List.setIfInBounds_toArray, List.set_cons_zero, List.set_cons_succ]
            refine wpAnyH_take (i := 25) (oi := ⟨some 6, _, _, _, _, _⟩) (v := ?_) rfl (by kernel_rfl) (by kernel_rfl) (by kernel_rfl) (fun _ _ _ h => h) (Or.inl ⟨by rfl, ?_⟩) (by assumption) ?_
            rotate_left 1
            · (intro W hSw; go_simp <;> with_reducible rfl)
            try simp only [Act.put, List.setIfInBounds_toArray, List.set_cons_zero, List.set_cons_succ]
            refine wpAnyH_done (by kernel_rfl) ?_ _
            refine NoPanic.normal ?_
            go_wp2
            go_ret
            have kz := kk_10
            first | exact ⟨rfl, kz⟩ | (rw [f1] at kz; exact ⟨rfl, kz⟩)
      · go_simp
        refine (dsame w3 h1_3 h2_3).mono ?_
        rintro e w15 ⟨rfl, hb15⟩
        have kk_15 := kk_3.trans (hb15.mono kk_3.size)
        have h1_15 := h1_3.on hb15
        have h2_15 := h2_3.on hb15
        have h3_15 := h3_3.on hb15
        have oa_15 := oa_3.on hb15
        have ob_15 := o3.on hb15
        have S15 : (fun W => Kept (fun g => False) wd W) w15 := Kept.next S3 (kept_below (fun _ => False) hb15) (fun _ h => h.elim)
        refine hK.out _ _ S15 (fun h15 => ?_)
        clear h3 hK K
        try simp only [Act.put, List.setIfInBounds_toArray, List.set_cons_zero, List.set_cons_succ]
        refine wpAnyH_ready (rs := [5]) (by kernel_rfl) (by simp) ?_
        refine AllReadyH.cons (o := ⟨some 22, _, _, _, _, _⟩) rfl (fun K hK => ?_) AllReadyH.nil
        rw [if_pos (by rfl)]
        have x16 := ob_15.text (P := Try.prog) 32 9 5 Try.underlying32 Try.underlying5 Try.underlying9
        rw [E2.out] at x16
        go_simp
        clear x16
        refine hK.out _ _ S15 (fun h16 => ?_)
        clear h15 hK K
        try simp only [Act.put, List.setIfInBounds_toArray, List.set_cons_zero, List.set_cons_succ]
        refine wpAnyH_take (i := 6) (oi := ⟨some 23, _, _, _, _, _⟩) (v := ?_) rfl (by kernel_rfl) (by kernel_rfl) (by kernel_rfl) (fun _ _ _ h => h) (Or.inl ⟨by rfl, ?_⟩) (by assumption) ?_
        rotate_left 1
        · (intro W hSw; go_simp <;> with_reducible rfl)
        try simp only [Act.put, List.setIfInBounds_toArray, List.set_cons_zero, List.set_cons_succ]
        refine wpAnyH_take (i := 10) (oi := ⟨some 27, _, _, _, _, _⟩) (v := ?_) rfl (by kernel_rfl) (by kernel_rfl) (by kernel_rfl) (fun _ _ _ h => h) (Or.inl ⟨by rfl, ?_⟩) (by assumption) ?_
        rotate_left 1
        · (intro W hSw; go_simp <;> with_reducible rfl)
        try simp only [Act.put, List.setIfInBounds_toArray, List.set_cons_zero, List.set_cons_succ]
        refine wpAnyH_take (i := 11) (oi := ⟨some 28, _, _, _, _, _⟩) (v := ?_) rfl (by kernel_rfl) (by kernel_rfl) (by kernel_rfl) (fun _ _ _ h => h) (Or.inl ⟨by rfl, ?_⟩) (by assumption) ?_
        rotate_left 1
        · (intro W hSw; go_simp <;> with_reducible rfl)
        try simp only [Act.put, List.setIfInBounds_toArray, List.set_cons_zero, List.set_cons_succ]
        refine wpAnyH_take (i := 12) (oi := ⟨some 29, _, _, _, _, _⟩) (v := .agg (List.toArray (q1.cs))) rfl (by kernel_rfl) (by kernel_rfl) (by kernel_rfl) (fun _ _ _ h => h) (yieldsIf_load_mid (by rfl) 29 (.tmp 3) rfl p1 (0) rfl (q1.cs) _ (fun W hW => range_blk (b1.kept hW (fun h => h))) Try.underlying29 rfl size29) (by assumption) ?_
        try simp only [Act.put, List.setIfInBounds_toArray, List.set_cons_zero, List.set_cons_succ]
        refine wpAnyH_take (i := 15) (oi := ⟨some 32, _, _, _, _, _⟩) (v := .agg (List.toArray ((q1.at_ e).cs))) rfl (by kernel_rfl) (by kernel_rfl) (by kernel_rfl) (fun _ _ _ h => h) (yieldsIf_load_mid (by rfl) 29 (.tmp 7) rfl p3 (0) rfl ((q1.at_ e).cs) _ (fun W hW => range_blk (b3.kept hW (fun h => h))) Try.underlying29 rfl size29) (by assumption) ?_
        try simp only [Act.put, List.setIfInBounds_toArray, List.set_cons_zero, List.set_cons_succ]
        refine wpAnyH_take (i := 19) (oi := ⟨some 36, _, _, _, _, _⟩) (v := ?_) rfl (by kernel_rfl) (by kernel_rfl) (by kernel_rfl) (fun _ _ _ h => h) (Or.inl ⟨by rfl, ?_⟩) (by assumption) ?_
        rotate_left 1
        · (intro W hSw; go_simp <;> with_reducible rfl)
        try simp only [Act.put, List.setIfInBounds_toArray, List.set_cons_zero, List.set_cons_succ]
        refine wpAnyH_take (i := 20) (oi := ⟨some 37, _, _, _, _, _⟩) (v := ?_) rfl (by kernel_rfl) (by kernel_rfl) (by kernel_rfl) (fun _ _ _ h => h) (Or.inl ⟨by rfl, ?_⟩) (by assumption) ?_
        rotate_left 1
        · (intro W hSw; obtain q0 := tS W hSw; go_simp <;> with_reducible rfl)
        try simp only [Act.put, List.setIfInBounds_toArray, List.set_cons_zero, List.set_cons_succ]
        refine wpAnyH_take (i := 21) (oi := ⟨some 38, _, _, _, _, _⟩) (v := ?_) rfl (by kernel_rfl) (by kernel_rfl) (by kernel_rfl) (fun _ _ _ h => h) (Or.inl ⟨by rfl, ?_⟩) (by assumption) ?_
        rotate_left 1
        · (intro W hSw; go_simp <;> with_reducible rfl)
        try simp only [Act.put, List.setIfInBounds_toArray, List.set_cons_zero, List.set_cons_succ]
        refine wpAnyH_take (i := 22) (oi := ⟨some 39, _, _, _, _, _⟩) (v := ?_) rfl (by kernel_rfl) (by kernel_rfl) (by kernel_rfl) (fun _ _ _ h => h) (Or.inl ⟨by rfl, ?_⟩) (by assumption) ?_
        rotate_left 1
        · (intro W hSw; go_simp <;> with_reducible rfl)
        try simp only [Act.put, List.setIfInBounds_toArray, List.set_cons_zero, List.set_cons_succ]
        refine wpAnyH_ready (rs := [13]) (by kernel_rfl) (by simp) ?_
        refine AllReadyH.cons (o := ⟨some 30, _, _, _, _, _⟩) rfl (fun K hK => ?_) AllReadyH.nil
        go_simp
        refine (cput_any q1 d1 bq1 w15 h1_15 HF1.out).mono ?_
        rintro e w17 ⟨A17, n17, c17, rfl, o17, hb17⟩
        have kk_17 := kk_15.trans (hb17.mono kk_15.size)
        have h1_17 := h1_15.on hb17
        have h2_17 := h2_15.on hb17
        have h3_17 := h3_15.on hb17
        have oa_17 := oa_15.on hb17
        have ob_17 := ob_15.on hb17
        have S17 : (fun W => Kept (fun g => False) wd W) w17 := Kept.next S15 (kept_below (fun _ => False) hb17) (fun _ h => h.elim)
        refine hK.out _ _ S17 (fun h17 => ?_)
        clear h16 hK K
        try simp only [Act.put, List.setIfInBounds_toArray, List.set_cons_zero, List.set_cons_succ]
        refine wpAnyH_ready (rs := [14, 16]) (by kernel_rfl) (by simp) ?_
        refine AllReadyH.cons (o := ⟨some 31, _, _, _, _, _⟩) rfl (fun K hK => ?_) (AllReadyH.cons (o := ⟨some 33, _, _, _, _, _⟩) rfl (fun K hK => ?_) AllReadyH.nil)
        · rw [if_pos (by rfl)]
          have x18 := o17.text (P := Try.prog) 32 9 5 Try.underlying32 Try.underlying5 Try.underlying9
          rw [E1.out] at x18
          go_simp
          clear x18
          refine hK.out _ _ S17 (fun h18 => ?_)
          clear h17 hK K
          try simp only [Act.put, List.setIfInBounds_toArray, List.set_cons_zero, List.set_cons_succ]
          refine wpAnyH_ready (rs := [16]) (by kernel_rfl) (by simp) ?_
          refine AllReadyH.cons (o := ⟨some 33, _, _, _, _, _⟩) rfl (fun K hK => ?_) AllReadyH.nil
          go_simp
          refine (cput_any (q1.at_ e) (d1.at_ e) bq1 w17 h3_17 HF3.out).mono ?_
          rintro e w19 ⟨A19, n19, c19, rfl, o19, hb19⟩
          have kk_19 := kk_17.trans (hb19.mono kk_17.size)
          have h1_19 := h1_17.on hb19
          have h2_19 := h2_17.on hb19
          have h3_19 := h3_17.on hb19
          have oa_19 := oa_17.on hb19
          have ob_19 := ob_17.on hb19
          have oc_19 := o17.on hb19
          have S19 : (fun W => Kept (fun g => False) wd W) w19 := Kept.next S17 (kept_below (fun _ => False) hb19) (fun _ h => h.elim)
          refine hK.out _ _ S19 (fun h19 => ?_)
          clear h18 hK K
          try simp only [Act.put, List.setIfInBounds_toArray, List.set_cons_zero, List.set_cons_succ]
          refine wpAnyH_ready (rs := [17]) (by kernel_rfl) (by simp) ?_
          refine AllReadyH.cons (o := ⟨some 34, _, _, _, _, _⟩) rfl (fun K hK => ?_) AllReadyH.nil
          rw [if_pos (by rfl)]
          have x20 := o19.text (P := Try.prog) 32 9 5 Try.underlying32 Try.underlying5 Try.underlying9
          rw [E3.out] at x20
          go_simp
          clear x20
          refine hK.out _ _ S19 (fun h20 => ?_)
          clear h19 hK K
          try simp only [Act.put, List.setIfInBounds_toArray, List.set_cons_zero, List.set_cons_succ]
          refine wpAnyH_take (i := 18) (oi := ⟨some 35, _, _, _, _, _⟩) (v := ?_) rfl (by kernel_rfl) (by kernel_rfl) (by kernel_rfl) (fun _ _ _ h => h) (Or.inl ⟨by rfl, ?_⟩) (by assumption) ?_
          rotate_left 1
          · (intro W hSw; go_simp <;> with_reducible rfl)
          try simp only [Act.put, List.setIfInBounds_toArray, List.set_cons_zero, List.set_cons_succ]
          refine wpAnyH_take (i := 23) (oi := ⟨some 40, _, _, _, _, _⟩) (v := ?_) rfl (by kernel_rfl) (by kernel_rfl) (by kernel_rfl) (fun _ _ _ h => h) (Or.inl ⟨by rfl, ?_⟩) (by assumption) ?_
          rotate_left 1
          · (intro W hSw; go_simp <;> with_reducible rfl)
          try simp only [Act.put, List.setIfInBounds_toArray, List.set_cons_zero, List.set_cons_succ]
          refine wpAnyH_take (i := 24) (oi := ⟨some 41, _, _, _, _, _⟩) (v := ?_) rfl (by kernel_rfl) (by kernel_rfl) (by kernel_rfl) (fun _ _ _ h => h) (Or.inl ⟨by rfl, ?_⟩) (by assumption) ?_
          rotate_left 1
          · (intro W hSw; go_simp <;> with_reducible rfl)
          try simp only [Act.put, List.setIfInBounds_toArray, List.set_cons_zero, List.set_cons_succ]
          refine wpAnyH_take (i := 25) (oi := ⟨some 6, _, _, _, _, _⟩) (v := ?_) rfl (by kernel_rfl) (by kernel_rfl) (by kernel_rfl) (fun _ _ _ h => h) (Or.inl ⟨by rfl, ?_⟩) (by assumption) ?_
          rotate_left 1
          · (intro W hSw; go_simp <;> with_reducible rfl)
          try simp only [Act.put, List.setIfInBounds_toArray, List.set_cons_zero, List.set_cons_succ]
          refine wpAnyH_done (by kernel_rfl) ?_ _
          refine NoPanic.normal ?_
          go_wp2
          go_ret
          have kz := kk_19
          first | exact ⟨rfl, kz⟩ | (rw [f1] at kz; exact ⟨rfl, kz⟩)
        · go_simp
          refine (cput_any (q1.at_ e) (d1.at_ e) bq1 w17 h3_17 HF3.out).mono ?_
          rintro e w21 ⟨A21, n21, c21, rfl, o21, hb21⟩
          have kk_21 := kk_17.trans (hb21.mono kk_17.size)
          have h1_21 := h1_17.on hb21
          have h2_21 := h2_17.on hb21
          have h3_21 := h3_17.on hb21
          have oa_21 := oa_17.on hb21
          have ob_21 := ob_17.on hb21
          have oc_21 := o17.on hb21
          have S21 : (fun W => Kept (fun g => False) wd W) w21 := Kept.next S17 (kept_below (fun _ => False) hb21) (fun _ h => h.elim)
          refine hK.out _ _ S21 (fun h21 => ?_)
          clear h17 hK K
          try simp only [Act.put, List.setIfInBounds_toArray, List.set_cons_zero, List.set_cons_succ]
          refine wpAnyH_ready (rs := [14, 17]) (by kernel_rfl) (by simp) ?_
          refine AllReadyH.cons (o := ⟨some 31, _, _, _, _, _⟩) rfl (fun K hK => ?_) (AllReadyH.cons (o := ⟨some 34, _, _, _, _, _⟩) rfl (fun K hK => ?_) AllReadyH.nil)
          · rw [if_pos (by rfl)]
            have x22 := oc_21.text (P := Try.prog) 32 9 5 Try.underlying32 Try.underlying5 Try.underlying9
            rw [E1.out] at x22
            go_simp
            clear x22
            refine hK.out _ _ S21 (fun h22 => ?_)
            clear h21 hK K
            try simp only [Act.put, List.setIfInBounds_toArray, List.set_cons_zero, List.set_cons_succ]
            refine wpAnyH_ready (rs := [17]) (by kernel_rfl) (by simp) ?_
            refine AllReadyH.cons (o := ⟨some 34, _, _, _, _, _⟩) rfl (fun K hK => ?_) AllReadyH.nil
            rw [if_pos (by rfl)]
            have x23 := o21.text (P := Try.prog) 32 9 5 Try.underlying32 Try.underlying5 Try.underlying9
            rw [E3.out] at x23
            go_simp
            clear x23
            refine hK.out _ _ S21 (fun h23 => ?_)
            clear h22 hK K
            try simp only [Act.put, List.setIfInBounds_toArray, List.set_cons_zero, List.set_cons_succ]
            refine wpAnyH_take (i := 18) (oi := ⟨some 35, _, _, _, _, _⟩) (v := ?_) rfl (by kernel_rfl) (by kernel_rfl) (by kernel_rfl) (fun _ _ _ h => h) (Or.inl ⟨by rfl, ?_⟩) (by assumption) ?_
            rotate_left 1
            · (intro W hSw; go_simp <;> with_reducible rfl)
            try simp only [Act.put, List.setIfInBounds_toArray, List.set_cons_zero, List.set_cons_succ]
            refine wpAnyH_take (i := 23) (oi := ⟨some 40, _, _, _, _, _⟩) (v := ?_) rfl (by kernel_rfl) (by kernel_rfl) (by kernel_rfl) (fun _ _ _ h => h) (Or.inl ⟨by rfl, ?_⟩) (by assumption) ?_
            rotate_left 1
            · (intro W hSw; go_simp <;> with_reducible rfl)
            try simp only [Act.put, List.setIfInBounds_toArray, List.set_cons_zero, List.set_cons_succ]
            refine wpAnyH_take (i := 24) (oi := ⟨some 41, _, _, _, _, _⟩) (v := ?_) rfl (by kernel_rfl) (by kernel_rfl) (by kernel_rfl) (fun _ _ _ h => h) (Or.inl ⟨by rfl, ?_⟩) (by assumption) ?_
            rotate_left 1
            · (intro W hSw; go_simp <;> with_reducible rfl)
            try simp only [Act.put, List.setIfInBounds_toArray, List.set_cons_zero, List.set_cons_succ]
            refine wpAnyH_take (i := 25) (oi := ⟨some 6, _, _, _, _, _⟩) (v := ?_) rfl (by kernel_rfl) (by kernel_rfl) (by kernel_rfl) (fun _ _ _ h => h) (Or.inl ⟨by rfl, ?_⟩) (by assumption) ?_
            rotate_left 1
            · (intro W hSw; go_simp <;> with_reducible rfl)
            try simp only [Act.put, List.setIfInBounds_toArray, List.set_cons_zero, List.set_cons_succ]
            refine wpAnyH_done (by kernel_rfl) ?_ _
            refine NoPanic.normal ?_
            go_wp2
            go_ret
            have kz := kk_21
            first | exact ⟨rfl, kz⟩ | (rw [f1] at kz; exact ⟨rfl, kz⟩)
          · rw [if_pos (by rfl)]
            have x24 := o21.text (P := Try.prog) 32 9 5 Try.underlying32 Try.underlying5 Try.underlying9
            rw [E3.out] at x24
            go_simp
            clear x24
            refine hK.out _ _ S21 (fun h24 => ?_)
            clear h21 hK K
            try simp only [Act.put, List.setIfInBounds_toArray, List.set_cons_zero, List.set_cons_succ]
            refine wpAnyH_ready (rs := [14]) (by kernel_rfl) (by simp) ?_
            refine AllReadyH.cons (o := ⟨some 31, _, _, _, _, _⟩) rfl (fun K hK => ?_) AllReadyH.nil
            rw [if_pos (by rfl)]
            have x25 := oc_21.text (P := Try.prog) 32 9 5 Try.underlying32 Try.underlying5 Try.underlying9
            rw [E1.out] at x25
            go_simp
            clear x25
            refine hK.out _ _ S21 (fun h25 => ?_)
            clear h24 hK K
            try simp only [Act.put, List.setIfInBounds_toArray, List.set_cons_zero, List.set_cons_succ]
            refine wpAnyH_take (i := 18) (oi := ⟨some 35, _, _, _, _, _⟩) (v := ?_) rfl (by kernel_rfl) (by kernel_rfl) (by kernel_rfl) (fun _ _ _ h => h) (Or.inl ⟨by rfl, ?_⟩) (by assumption) ?_
            rotate_left 1
            · (intro W hSw; go_simp <;> with_reducible rfl)
            try simp only [Act.put, List.setIfInBounds_toArray, List.set_cons_zero, List.set_cons_succ]
            refine wpAnyH_take (i := 23) (oi := ⟨some 40, _, _, _, _, _⟩) (v := ?_) rfl (by kernel_rfl) (by kernel_rfl) (by kernel_rfl) (fun _ _ _ h => h) (Or.inl ⟨by rfl, ?_⟩) (by assumption) ?_
            rotate_left 1
            · (intro W hSw; go_simp <;> with_reducible rfl)
            try simp only [Act.put, List.setIfInBounds_toArray, List.set_cons_zero, List.set_cons_succ]
            refine wpAnyH_take (i := 24) (oi := ⟨some 41, _, _, _, _, _⟩) (v := ?_) rfl (by kernel_rfl) (by kernel_rfl) (by kernel_rfl) (fun _ _ _ h => h) (Or.inl ⟨by rfl, ?_⟩) (by assumption) ?_
            rotate_left 1
            · (intro W hSw; go_simp <;> with_reducible rfl)
            try simp only [Act.put, List.setIfInBounds_toArray, List.set_cons_zero, List.set_cons_succ]
            refine wpAnyH_take (i := 25) (oi := ⟨some 6, _, _, _, _, _⟩) (v := ?_) rfl (by kernel_rfl) (by kernel_rfl) (by kernel_rfl) (fun _ _ _ h => h) (Or.inl ⟨by rfl, ?_⟩) (by assumption) ?_
            rotate_left 1
            · (intro W hSw; go_simp <;> with_reducible rfl)
            try simp only [Act.put, List.setIfInBounds_toArray, List.set_cons_zero, List.set_cons_succ]
            refine wpAnyH_done (by kernel_rfl) ?_ _
            refine NoPanic.normal ?_
            go_wp2
            go_ret
            have kz := kk_21
            first | exact ⟨rfl, kz⟩ | (rw [f1] at kz; exact ⟨rfl, kz⟩)
    · go_simp
      refine (cput_any q2 d2 bq2 w1 h2_1 HF2.out).mono ?_
      rintro e w26 ⟨A26, n26, c26, rfl, o26, hb26⟩
      have kk_26 := kk_1.trans (hb26.mono kk_1.size)
      have h1_26 := h1_1.on hb26
      have h2_26 := h2_1.on hb26
      have h3_26 := h3_1.on hb26
      have oa_26 := o1.on hb26
      have S26 : (fun W => Kept (fun g => False) wd W) w26 := Kept.next S1 (kept_below (fun _ => False) hb26) (fun _ h => h.elim)
      refine hK.out _ _ S26 (fun h26 => ?_)
      clear h1 hK K
      try simp only [Act.put, List.setIfInBounds_toArray, List.set_cons_zero, List.set_cons_succ]
      refine wpAnyH_ready (rs := [2, 5, 9]) (by kernel_rfl) (by simp) ?_
      refine AllReadyH.cons (o := ⟨some 19, _, _, _, _, _⟩) rfl (fun K hK => ?_) (AllReadyH.cons (o := ⟨some 22, _, _, _, _, _⟩) rfl (fun K hK => ?_) (AllReadyH.cons (o := ⟨some 26, _, _, _, _, _⟩) rfl (fun K hK => ?_) AllReadyH.nil))
      · rw [if_pos (by rfl)]
        have x27 := oa_26.text (P := Try.prog) 32 9 5 Try.underlying32 Try.underlying5 Try.underlying9
        rw [E1.out] at x27
        go_simp
        clear x27
        refine hK.out _ _ S26 (fun h27 => ?_)
        clear h26 hK K
        try simp only [Act.put, List.setIfInBounds_toArray, List.set_cons_zero, List.set_cons_succ]
        refine wpAnyH_ready (rs := [5, 9]) (by kernel_rfl) (by simp) ?_
        refine AllReadyH.cons (o := ⟨some 22, _, _, _, _, _⟩) rfl (fun K hK => ?_) (AllReadyH.cons (o := ⟨some 26, _, _, _, _, _⟩) rfl (fun K hK => ?_) AllReadyH.nil)
        · rw [if_pos (by rfl)]
          have x28 := o26.text (P := Try.prog) 32 9 5 Try.underlying32 Try.underlying5 Try.underlying9
          rw [E2.out] at x28
          go_simp
          clear x28
          refine hK.out _ _ S26 (fun h28 => ?_)
          clear h27 hK K
          try simp only [Act.put, List.setIfInBounds_toArray, List.set_cons_zero, List.set_cons_succ]
          refine wpAnyH_take (i := 6) (oi := ⟨some 23, _, _, _, _, _⟩) (v := ?_) rfl (by kernel_rfl) (by kernel_rfl) (by kernel_rfl) (fun _ _ _ h => h) (Or.inl ⟨by rfl, ?_⟩) (by assumption) ?_
          rotate_left 1
          · (intro W hSw; go_simp <;> with_reducible rfl)
          try simp only [Act.put, List.setIfInBounds_toArray, List.set_cons_zero, List.set_cons_succ]
          refine wpAnyH_ready (rs := [9]) (by kernel_rfl) (by simp) ?_
          refine AllReadyH.cons (o := ⟨some 26, _, _, _, _, _⟩) rfl (fun K hK => ?_) AllReadyH.nil
          go_simp
          refine (dsame w26 h1_26 h2_26).mono ?_
          rintro e w29 ⟨rfl, hb29⟩
          have kk_29 := kk_26.trans (hb29.mono kk_26.size)
          have h1_29 := h1_26.on hb29
          have h2_29 := h2_26.on hb29
          have h3_29 := h3_26.on hb29
          have oa_29 := oa_26.on hb29
          have ob_29 := o26.on hb29
          have S29 : (fun W => Kept (fun g => False) wd W) w29 := Kept.next S26 (kept_below (fun _ => False) hb29) (fun _ h => h.elim)
          refine hK.out _ _ S29 (fun h29 => ?_)
          clear h28 hK K
          try simp only [Act.put, List.setIfInBounds_toArray, List.set_cons_zero, List.set_cons_succ]
          refine wpAnyH_take (i := 10) (oi := ⟨some 27, _, _, _, _, _⟩) (v := ?_) rfl (by kernel_rfl) (by kernel_rfl) (by kernel_rfl) (fun _ _ _ h => h) (Or.inl ⟨by rfl, ?_⟩) (by assumption) ?_
          rotate_left 1
          · (intro W hSw; go_simp <;> with_reducible rfl)
          try simp only [Act.put, List.setIfInBounds_toArray, List.set_cons_zero, List.set_cons_succ]
          refine wpAnyH_take (i := 11) (oi := ⟨some 28, _, _, _, _, _⟩) (v := ?_) rfl (by kernel_rfl) (by kernel_rfl) (by kernel_rfl) (fun _ _ _ h => h) (Or.inl ⟨by rfl, ?_⟩) (by assumption) ?_
          rotate_left 1
          · (intro W hSw; go_simp <;> with_reducible rfl)
          try simp only [Act.put, List.setIfInBounds_toArray, List.set_cons_zero, List.set_cons_succ]
          refine wpAnyH_take (i := 12) (oi := ⟨some 29, _, _, _, _, _⟩) (v := .agg (List.toArray (q1.cs))) rfl (by kernel_rfl) (by kernel_rfl) (by kernel_rfl) (fun _ _ _ h => h) (yieldsIf_load_mid (by rfl) 29 (.tmp 3) rfl p1 (0) rfl (q1.cs) _ (fun W hW => range_blk (b1.kept hW (fun h => h))) Try.underlying29 rfl size29) (by assumption) ?_
          try simp only [Act.put, List.setIfInBounds_toArray, List.set_cons_zero, List.set_cons_succ]
          refine wpAnyH_take (i := 15) (oi := ⟨some 32, _, _, _, _, _⟩) (v := .agg (List.toArray ((q1.at_ e).cs))) rfl (by kernel_rfl) (by kernel_rfl) (by kernel_rfl) (fun _ _ _ h => h) (yieldsIf_load_mid (by rfl) 29 (.tmp 7) rfl p3 (0) rfl ((q1.at_ e).cs) _ (fun W hW => range_blk (b3.kept hW (fun h => h))) Try.underlying29 rfl size29) (by assumption) ?_
          try simp only [Act.put, List.setIfInBounds_toArray, List.set_cons_zero, List.set_cons_succ]
          refine wpAnyH_take (i := 19) (oi := ⟨some 36, _, _, _, _, _⟩) (v := ?_) rfl (by kernel_rfl) (by kernel_rfl) (by kernel_rfl) (fun _ _ _ h => h) (Or.inl ⟨by rfl, ?_⟩) (by assumption) ?_
          rotate_left 1
          · (intro W hSw; go_simp <;> with_reducible rfl)
          try simp only [Act.put, List.setIfInBounds_toArray, List.set_cons_zero, List.set_cons_succ]
          refine wpAnyH_take (i := 20) (oi := ⟨some 37, _, _, _, _, _⟩) (v := ?_) rfl (by kernel_rfl) (by kernel_rfl) (by kernel_rfl) (fun _ _ _ h => h) (Or.inl ⟨by rfl, ?_⟩) (by assumption) ?_
          rotate_left 1
          · (intro W hSw; obtain q0 := tS W hSw; go_simp <;> with_reducible rfl)
          try simp only [Act.put, List.setIfInBounds_toArray, List.set_cons_zero, List.set_cons_succ]
          refine wpAnyH_take (i := 21) (oi := ⟨some 38, _, _, _, _, _⟩) (v := ?_) rfl (by kernel_rfl) (by kernel_rfl) (by kernel_rfl) (fun _ _ _ h => h) (Or.inl ⟨by rfl, ?_⟩) (by assumption) ?_
          rotate_left 1
          · (intro W hSw; go_simp <;> with_reducible rfl)
          try simp only [Act.put, List.setIfInBounds_toArray, List.set_cons_zero, List.set_cons_succ]
          refine wpAnyH_take (i := 22) (oi := ⟨some 39, _, _, _, _, _⟩) (v := ?_) rfl (by kernel_rfl) (by kernel_rfl) (by kernel_rfl) (fun _ _ _ h => h) (Or.inl ⟨by rfl, ?_⟩) (by assumption) ?_
          rotate_left 1
          · (intro W hSw; go_simp <;> with_reducible rfl)
          try simp only [Act.put, List.setIfInBounds_toArray, List.set_cons_zero, List.set_cons_succ]
          refine wpAnyH_ready (rs := [13]) (by kernel_rfl) (by simp) ?_
          refine AllReadyH.cons (o := ⟨some 30, _, _, _, _, _⟩) rfl (fun K hK => ?_) AllReadyH.nil
          go_simp
          refine (cput_any q1 d1 bq1 w29 h1_29 HF1.out).mono ?_
          rintro e w30 ⟨A30, n30, c30, rfl, o30, hb30⟩
          have kk_30 := kk_29.trans (hb30.mono kk_29.size)
          have h1_30 := h1_29.on hb30
          have h2_30 := h2_29.on hb30
          have h3_30 := h3_29.on hb30
          have oa_30 := oa_29.on hb30
          have ob_30 := ob_29.on hb30
          have S30 : (fun W => Kept (fun g => False) wd W) w30 := Kept.next S29 (kept_below (fun _ => False) hb30) (fun _ h => h.elim)
          refine hK.out _ _ S30 (fun h30 => ?_)
          clear h29 hK K
          try simp only [Act.put, List.setIfInBounds_toArray, List.set_cons_zero, List.set_cons_succ]
          refine wpAnyH_ready (rs := [14, 16]) (by kernel_rfl) (by simp) ?_
          refine AllReadyH.cons (o := ⟨some 31, _, _, _, _, _⟩) rfl (fun K hK => ?_) (AllReadyH.cons (o := ⟨some 33, _, _, _, _, _⟩) rfl (fun K hK => ?_) AllReadyH.nil)
          · rw [if_pos (by rfl)]
            have x31 := o30.text (P := Try.prog) 32 9 5 Try.underlying32 Try.underlying5 Try.underlying9
            rw [E1.out] at x31
            go_simp
            clear x31
            refine hK.out _ _ S30 (fun h31 => ?_)
            clear h30 hK K
            try simp only [Act.put, List.setIfInBounds_toArray, List.set_cons_zero, List.set_cons_succ]
            refine wpAnyH_ready (rs := [16]) (by kernel_rfl) (by simp) ?_
            refine AllReadyH.cons (o := ⟨some 33, _, _, _, _, _⟩) rfl (fun K hK => ?_) AllReadyH.nil
            go_simp
            refine (cput_any (q1.at_ e) (d1.at_ e) bq1 w30 h3_30 HF3.out).mono ?_
            rintro e w32 ⟨A32, n32, c32, rfl, o32, hb32⟩
            have kk_32 := kk_30.trans (hb32.mono kk_30.size)
            have h1_32 := h1_30.on hb32
            have h2_32 := h2_30.on hb32
            have h3_32 := h3_30.on hb32
            have oa_32 := oa_30.on hb32
            have ob_32 := ob_30.on hb32
            have oc_32 := o30.on hb32
            have S32 : (fun W => Kept (fun g => False) wd W) w32 := Kept.next S30 (kept_below (fun _ => False) hb32) (fun _ h => h.elim)
            refine hK.out _ _ S32 (fun h32 => ?_)
            clear h31 hK K
            try simp only [Act.put, List.setIfInBounds_toArray, List.set_cons_zero, List.set_cons_succ]
            refine wpAnyH_ready (rs := [17]) (by kernel_rfl) (by simp) ?_
            refine AllReadyH.cons (o := ⟨some 34, _, _, _, _, _⟩) rfl (fun K hK => ?_) AllReadyH.nil
            rw [if_pos (by rfl)]
            have x33 := o32.text (P := Try.prog) 32 9 5 Try.underlying32 Try.underlying5 Try.underlying9
            rw [E3.out] at x33
            go_simp
            clear x33
            refine hK.out _ _ S32 (fun h33 => ?_)
            clear h32 hK K
            try simp only [Act.put, List.setIfInBounds_toArray, List.set_cons_zero, List.set_cons_succ]
            refine wpAnyH_take (i := 18) (oi := ⟨some 35, _, _, _, _, _⟩) (v := ?_) rfl (by kernel_rfl) (by kernel_rfl) (by kernel_rfl) (fun _ _ _ h => h) (Or.inl ⟨by rfl, ?_⟩) (by assumption) ?_
            rotate_left 1
            · (intro W hSw; go_simp <;> with_reducible rfl)
            try simp only [Act.put, List.setIfInBounds_toArray, List.set_cons_zero, List.set_cons_succ]
            refine wpAnyH_take (i := 23) (oi := ⟨some 40, _, _, _, _, _⟩) (v := ?_) rfl (by kernel_rfl) (by kernel_rfl) (by kernel_rfl) (fun _ _ _ h => h) (Or.inl ⟨by rfl, ?_⟩) (by assumption) ?_
            rotate_left 1
            · (intro W hSw; go_simp <;> with_reducible rfl)
            try simp only [Act.put, List.setIfInBounds_toArray, List.set_cons_zero, List.set_cons_succ]
            refine wpAnyH_take (i := 24) (oi := ⟨some 41, _, _, _, _, _⟩) (v := ?_) rfl (by kernel_rfl) (by kernel_rfl) (by kernel_rfl) (fun _ _ _ h => h) (Or.inl ⟨by rfl, ?_⟩) (by assumption) ?_
            rotate_left 1
            · (intro W hSw; go_simp <;> with_reducible rfl)
            try simp only [Act.put, List.setIfInBounds_toArray, List.set_cons_zero, List.set_cons_succ]
            refine wpAnyH_take (i := 25) (oi := ⟨some 6, _, _, _, _, _⟩) (v := ?_) rfl (by kernel_rfl) (by kernel_rfl) (by kernel_rfl) (fun _ _ _ h => h) (Or.inl ⟨by rfl, ?_⟩) (by assumption) ?_
            rotate_left 1
            · (intro W hSw; go_simp <;> with_reducible rfl)
            try simp only [Act.put, List.setIfInBounds_toArray, List.set_cons_zero, List.set_cons_succ]
            refine wpAnyH_done (by kernel_rfl) ?_ _
            refine NoPanic.normal ?_
            go_wp2
            go_ret
            have kz := kk_32
            first | exact ⟨rfl, kz⟩ | (rw [f1] at kz; exact ⟨rfl, kz⟩)
          · go_simp
            refine (cput_any (q1.at_ e) (d1.at_ e) bq1 w30 h3_30 HF3.out).mono ?_
            rintro e w34 ⟨A34, n34, c34, rfl, o34, hb34⟩
            have kk_34 := kk_30.trans (hb34.mono kk_30.size)
            have h1_34 := h1_30.on hb34
            have h2_34 := h2_30.on hb34
            have h3_34 := h3_30.on hb34
            have oa_34 := oa_30.on hb34
            have ob_34 := ob_30.on hb34
            have oc_34 := o30.on hb34
            have S34 : (fun W => Kept (fun g => False) wd W) w34 := Kept.next S30 (kept_below (fun _ => False) hb34) (fun _ h => h.elim)
            refine hK.out _ _ S34 (fun h34 => ?_)
            clear h30 hK K
            try simp only [Act.put, List.setIfInBounds_toArray, List.set_cons_zero, List.set_cons_succ]
            refine wpAnyH_ready (rs := [14, 17]) (by kernel_rfl) (by simp) ?_
            refine AllReadyH.cons (o := ⟨some 31, _, _, _, _, _⟩) rfl (fun K hK => ?_) (AllReadyH.cons (o := ⟨some 34, _, _, _, _, _⟩) rfl (fun K hK => ?_) AllReadyH.nil)
            · rw [if_pos (by rfl)]
              have x35 := oc_34.text (P := Try.prog) 32 9 5 Try.underlying32 Try.underlying5 Try.underlying9
              rw [E1.out] at x35
              go_simp
              clear x35
              refine hK.out _ _ S34 (fun h35 => ?_)
              clear h34 hK K
              try simp only [Act.put, List.setIfInBounds_toArray, List.set_cons_zero, List.set_cons_succ]
              refine wpAnyH_ready (rs := [17]) (by kernel_rfl) (by simp) ?_
              refine AllReadyH.cons (o := ⟨some 34, _, _, _, _, _⟩) rfl (fun K hK => ?_) AllReadyH.nil
              rw [if_pos (by rfl)]
              have x36 := o34.text (P := Try.prog) 32 9 5 Try.underlying32 Try.underlying5 Try.underlying9
              rw [E3.out] at x36
              go_simp
              clear x36
              refine hK.out _ _ S34 (fun h36 => ?_)
              clear h35 hK K
              try simp only [Act.put, List.setIfInBounds_toArray, List.set_cons_zero, List.set_cons_succ]
              refine wpAnyH_take (i := 18) (oi := ⟨some 35, _, _, _, _, _⟩) (v := ?_) rfl (by kernel_rfl) (by kernel_rfl) (by kernel_rfl) (fun _ _ _ h => h) (Or.inl ⟨by rfl, ?_⟩) (by assumption) ?_
              rotate_left 1
              · (intro W hSw; go_simp <;> with_reducible rfl)
              try simp only [Act.put, List.setIfInBounds_toArray, List.set_cons_zero, List.set_cons_succ]
              refine wpAnyH_take (i := 23) (oi := ⟨some 40, _, _, _, _, _⟩) (v := ?_) rfl (by kernel_rfl) (by kernel_rfl) (by kernel_rfl) (fun _ _ _ h => h) (Or.inl ⟨by rfl, ?_⟩) (by assumption) ?_
              rotate_left 1
              · (intro W hSw; go_simp <;> with_reducible rfl)
              try simp only [Act.put, List.setIfInBounds_toArray, List.set_cons_zero, List.set_cons_succ]
              refine wpAnyH_take (i := 24) (oi := ⟨some 41, _, _, _, _, _⟩) (v := ?_) rfl (by kernel_rfl) (by kernel_rfl) (by kernel_rfl) (fun _ _ _ h => h) (Or.inl ⟨by rfl, ?_⟩) (by assumption) ?_
              rotate_left 1
              · (intro W hSw; go_simp <;> with_reducible rfl)
              try simp only [Act.put, List.setIfInBounds_toArray, List.set_cons_zero, List.set_cons_succ]
              refine wpAnyH_take (i := 25) (oi := ⟨some 6, _, _, _, _, _⟩) (v := ?_) rfl (by kernel_rfl) (by kernel_rfl) (by kernel_rfl) (fun _ _ _ h => h) (Or.inl ⟨by rfl, ?_⟩) (by assumption) ?_
              rotate_left 1
              · (intro W hSw; go_simp <;> with_reducible rfl)
              try simp only [Act.put, List.setIfInBounds_toArray, List.set_cons_zero, List.set_cons_succ]
              refine wpAnyH_done (by kernel_rfl) ?_ _
              refine NoPanic.normal ?_
              go_wp2
              go_ret
              have kz := kk_34
              first | exact ⟨rfl, kz⟩ | (rw [f1] at kz; exact ⟨rfl, kz⟩)
            · rw [if_pos (by rfl)]
              have x37 := o34.text (P := Try.prog) 32 9 5 Try.underlying32 Try.underlying5 Try.underlying9
              rw [E3.out] at x37
              go_simp
              clear x37
              refine hK.out _ _ S34 (fun h37 => ?_)
              clear h34 hK K
              try simp only [Act.put, List.setIfInBounds_toArray, List.set_cons_zero, List.set_cons_succ]
              refine wpAnyH_ready (rs := [14]) (by kernel_rfl) (by simp) ?_
              refine AllReadyH.cons (o := ⟨some 31, _, _, _, _, _⟩) rfl (fun K hK => ?_) AllReadyH.nil
              rw [if_pos (by rfl)]
              have x38 := oc_34.text (P := Try.prog) 32 9 5 Try.underlying32 Try.underlying5 Try.underlying9
              rw [E1.out] at x38
              go_simp
              clear x38
              refine hK.out _ _ S34 (fun h38 => ?_)
              clear h37 hK K
              try simp only [Act.put, List.setIfInBounds_toArray, List.set_cons_zero, List.set_cons_succ]
              refine wpAnyH_take (i := 18) (oi := ⟨some 35, _, _, _, _, _⟩) (v := ?_) rfl (by kernel_rfl) (by kernel_rfl) (by kernel_rfl) (fun _ _ _ h => h) (Or.inl ⟨by rfl, ?_⟩) (by assumption) ?_
              rotate_left 1
              · (intro W hSw; go_simp <;> with_reducible rfl)
              try simp only [Act.put, List.setIfInBounds_toArray, List.set_cons_zero, List.set_cons_succ]
              refine wpAnyH_take (i := 23) (oi := ⟨some 40, _, _, _, _, _⟩) (v := ?_) rfl (by kernel_rfl) (by kernel_rfl) (by kernel_rfl) (fun _ _ _ h => h) (Or.inl ⟨by rfl, ?_⟩) (by assumption) ?_
              rotate_left 1
              · (intro W hSw; go_simp <;> with_reducible rfl)
              try simp only [Act.put, List.setIfInBounds_toArray, List.set_cons_zero, List.set_cons_succ]
              refine wpAnyH_take (i := 24) (oi := ⟨some 41, _, _, _, _, _⟩) (v := ?_) rfl (by kernel_rfl) (by kernel_rfl) (by kernel_rfl) (fun _ _ _ h => h) (Or.inl ⟨by rfl, ?_⟩) (by assumption) ?_
              rotate_left 1
              · (intro W hSw; go_simp <;> with_reducible rfl)
              try simp only [Act.put, List.setIfInBounds_toArray, List.set_cons_zero, List.set_cons_succ]
              refine wpAnyH_take (i := 25) (oi := ⟨some 6, _, _, _, _, _⟩) (v := ?_) rfl (by kernel_rfl) (by kernel_rfl) (by kernel_rfl) (fun _ _ _ h => h) (Or.inl ⟨by rfl, ?_⟩) (by assumption) ?_
              rotate_left 1
              · (intro W hSw; go_simp <;> with_reducible rfl)
              try simp only [Act.put, List.setIfInBounds_toArray, List.set_cons_zero, List.set_cons_succ]
              refine wpAnyH_done (by kernel_rfl) ?_ _
              refine NoPanic.normal ?_
              go_wp2
              go_ret
              have kz := kk_34
              first | exact ⟨rfl, kz⟩ | (rw [f1] at kz; exact ⟨rfl, kz⟩)
        · go_simp
          refine (dsame w26 h1_26 h2_26).mono ?_
          rintro e w39 ⟨rfl, hb39⟩
          have kk_39 := kk_26.trans (hb39.mono kk_26.size)
          have h1_39 := h1_26.on hb39
          have h2_39 := h2_26.on hb39
          have h3_39 := h3_26.on hb39
          have oa_39 := oa_26.on hb39
          have ob_39 := o26.on hb39
          have S39 : (fun W => Kept (fun g => False) wd W) w39 := Kept.next S26 (kept_below (fun _ => False) hb39) (fun _ h => h.elim)
          refine hK.out _ _ S39 (fun h39 => ?_)
          clear h27 hK K
          try simp only [Act.put, List.setIfInBounds_toArray, List.set_cons_zero, List.set_cons_succ]
          refine wpAnyH_ready (rs := [5]) (by kernel_rfl) (by simp) ?_
          refine AllReadyH.cons (o := ⟨some 22, _, _, _, _, _⟩) rfl (fun K hK => ?_) AllReadyH.nil
          rw [if_pos (by rfl)]
          have x40 := ob_39.text (P := Try.prog) 32 9 5 Try.underlying32 Try.underlying5 Try.underlying9
          rw [E2.out] at x40
          go_simp
          clear x40
          refine hK.out _ _ S39 (fun h40 => ?_)
          clear h39 hK K
          try simp only [Act.put, List.setIfInBounds_toArray, List.set_cons_zero, List.set_cons_succ]
          refine wpAnyH_take (i := 6) (oi := ⟨some 23, _, _, _, _, _⟩) (v := ?_) rfl (by kernel_rfl) (by kernel_rfl) (by kernel_rfl) (fun _ _ _ h => h) (Or.inl ⟨by rfl, ?_⟩) (by assumption) ?_
          rotate_left 1
          · (intro W hSw; go_simp <;> with_reducible rfl)
          try simp only [Act.put, List.setIfInBounds_toArray, List.set_cons_zero, List.set_cons_succ]
          refine wpAnyH_take (i := 10) (oi := ⟨some 27, _, _, _, _, _⟩) (v := ?_) rfl (by kernel_rfl) (by kernel_rfl) (by kernel_rfl) (fun _ _ _ h => h) (Or.inl ⟨by rfl, ?_⟩) (by assumption) ?_
          rotate_left 1
          · (intro W hSw; go_simp <;> with_reducible rfl)
          try simp only [Act.put, List.setIfInBounds_toArray, List.set_cons_zero, List.set_cons_succ]
          refine wpAnyH_take (i := 11) (oi := ⟨some 28, _, _, _, _, _⟩) (v := ?_) rfl (by kernel_rfl) (by kernel_rfl) (by kernel_rfl) (fun _ _ _ h => h) (Or.inl ⟨by rfl, ?_⟩) (by assumption) ?_
          rotate_left 1
          · (intro W hSw; go_simp <;> with_reducible rfl)
          try simp only [Act.put, List.setIfInBounds_toArray, List.set_cons_zero, List.set_cons_succ]
          refine wpAnyH_take (i := 12) (oi := ⟨some 29, _, _, _, _, _⟩) (v := .agg (List.toArray (q1.cs))) rfl (by kernel_rfl) (by kernel_rfl) (by kernel_rfl) (fun _ _ _ h => h) (yieldsIf_load_mid (by rfl) 29 (.tmp 3) rfl p1 (0) rfl (q1.cs) _ (fun W hW => range_blk (b1.kept hW (fun h => h))) Try.underlying29 rfl size29) (by assumption) ?_
          try simp only [Act.put, List.setIfInBounds_toArray, List.set_cons_zero, List.set_cons_succ]
          refine wpAnyH_take (i := 15) (oi := ⟨some 32, _, _, _, _, _⟩) (v := .agg (List.toArray ((q1.at_ e).cs))) rfl (by kernel_rfl) (by kernel_rfl) (by kernel_rfl) (fun _ _ _ h => h) (yieldsIf_load_mid (by rfl) 29 (.tmp 7) rfl p3 (0) rfl ((q1.at_ e).cs) _ (fun W hW => range_blk (b3.kept hW (fun h => h))) Try.underlying29 rfl size29) (by assumption) ?_
          try simp only [Act.put, List.setIfInBounds_toArray, List.set_cons_zero, List.set_cons_succ]
          refine wpAnyH_take (i := 19) (oi := ⟨some 36, _, _, _, _, _⟩) (v := ?_) rfl (by kernel_rfl) (by kernel_rfl) (by kernel_rfl) (fun _ _ _ h => h) (Or.inl ⟨by rfl, ?_⟩) (by assumption) ?_
          rotate_left 1
          · (intro W hSw; go_simp <;> with_reducible rfl)
          try simp only [Act.put, List.setIfInBounds_toArray, List.set_cons_zero, List.set_cons_succ]
          refine wpAnyH_take (i := 20) (oi := ⟨some 37, _, _, _, _, _⟩) (v := ?_) rfl (by kernel_rfl) (by kernel_rfl) (by kernel_rfl) (fun _ _ _ h => h) (Or.inl ⟨by rfl, ?_⟩) (by assumption) ?_
          rotate_left 1
          · (intro W hSw; obtain q0 := tS W hSw; go_simp <;> with_reducible rfl)
          try simp only [Act.put, List.setIfInBounds_toArray, List.set_cons_zero, List.set_cons_succ]
          refine wpAnyH_take (i := 21) (oi := ⟨some 38, _, _, _, _, _⟩) (v := ?_) rfl (by kernel_rfl) (by kernel_rfl) (by kernel_rfl) (fun _ _ _ h => h) (Or.inl ⟨by rfl, ?_⟩) (by assumption) ?_
          rotate_left 1
          · (intro W hSw; go_simp <;> with_reducible rfl)
          try simp only [Act.put, List.setIfInBounds_toArray, List.set_cons_zero, List.set_cons_succ]
          refine wpAnyH_take (i := 22) (oi := ⟨some 39, _, _, _, _, _⟩) (v := ?_) rfl (by kernel_rfl) (by kernel_rfl) (by kernel_rfl) (fun _ _ _ h => h) (Or.inl ⟨by rfl, ?_⟩) (by assumption) ?_
          rotate_left 1
          · (intro W hSw; go_simp <;> with_reducible rfl)
          try simp only [Act.put, List.setIfInBounds_toArray, List.set_cons_zero, List.set_cons_succ]
          refine wpAnyH_ready (rs := [13]) (by kernel_rfl) (by simp) ?_
          refine AllReadyH.cons (o := ⟨some 30, _, _, _, _, _⟩) rfl (fun K hK => ?_) AllReadyH.nil
          go_simp
          refine (cput_any q1 d1 bq1 w39 h1_39 HF1.out).mono ?_
          rintro e w41 ⟨A41, n41, c41, rfl, o41, hb41⟩
          have kk_41 := kk_39.trans (hb41.mono kk_39.size)
          have h1_41 := h1_39.on hb41
          have h2_41 := h2_39.on hb41
          have h3_41 := h3_39.on hb41
          have oa_41 := oa_39.on hb41
          have ob_41 := ob_39.on hb41
          have S41 : (fun W => Kept (fun g => False) wd W) w41 := Kept.next S39 (kept_below (fun _ => False) hb41) (fun _ h => h.elim)
          refine hK.out _ _ S41 (fun h41 => ?_)
          clear h40 hK K
          try simp only [Act.put, List.setIfInBounds_toArray, List.set_cons_zero, List.set_cons_succ]
          refine wpAnyH_ready (rs := [14, 16]) (by kernel_rfl) (by simp) ?_
          refine AllReadyH.cons (o := ⟨some 31, _, _, _, _, _⟩) rfl (fun K hK => ?_) (AllReadyH.cons (o := ⟨some 33, _, _, _, _, _⟩) rfl (fun K hK => ?_) AllReadyH.nil)
          · rw [if_pos (by rfl)]
            have x42 := o41.text (P := Try.prog) 32 9 5 Try.underlying32 Try.underlying5 Try.underlying9
            rw [E1.out] at x42
            go_simp
            clear x42
            refine hK.out _ _ S41 (fun h42 => ?_)
            clear h41 hK K
            try simp only [Act.put, List.setIfInBounds_toArray, List.set_cons_zero, List.set_cons_succ]
            refine wpAnyH_ready (rs := [16]) (by kernel_rfl) (by simp) ?_
            refine AllReadyH.cons (o := ⟨some 33, _, _, _, _, _⟩) rfl (fun K hK => ?_) AllReadyH.nil
            go_simp
            refine (cput_any (q1.at_ e) (d1.at_ e) bq1 w41 h3_41 HF3.out).mono ?_
            rintro e w43 ⟨A43, n43, c43, rfl, o43, hb43⟩
            have kk_43 := kk_41.trans (hb43.mono kk_41.size)
            have h1_43 := h1_41.on hb43
            have h2_43 := h2_41.on hb43
            have h3_43 := h3_41.on hb43
            have oa_43 := oa_41.on hb43
            have ob_43 := ob_41.on hb43
            have oc_43 := o41.on hb43
            have S43 : (fun W => Kept (fun g => False) wd W) w43 := Kept.next S41 (kept_below (fun _ => False) hb43) (fun _ h => h.elim)
            refine hK.out _ _ S43 (fun h43 => ?_)
            clear h42 hK K
            try simp only [Act.put, List.setIfInBounds_toArray, List.set_cons_zero, List.set_cons_succ]
            refine wpAnyH_ready (rs := [17]) (by kernel_rfl) (by simp) ?_
            refine AllReadyH.cons (o := ⟨some 34, _, _, _, _, _⟩) rfl (fun K hK => ?_) AllReadyH.nil
            rw [if_pos (by rfl)]
            have x44 := o43.text (P := Try.prog) 32 9 5 Try.underlying32 Try.underlying5 Try.underlying9
            rw [E3.out] at x44
            go_simp
            clear x44
            refine hK.out _ _ S43 (fun h44 => ?_)
            clear h43 hK K
            try simp only [Act.put, List.setIfInBounds_toArray, List.set_cons_zero, List.set_cons_succ]
            refine wpAnyH_take (i := 18) (oi := ⟨some 35, _, _, _, _, _⟩) (v := ?_) rfl (by kernel_rfl) (by kernel_rfl) (by kernel_rfl) (fun _ _ _ h => h) (Or.inl ⟨by rfl, ?_⟩) (by assumption) ?_
            rotate_left 1
            · (intro W hSw; go_simp <;> with_reducible rfl)
            try simp only [Act.put, List.setIfInBounds_toArray, List.set_cons_zero, List.set_cons_succ]
            refine wpAnyH_take (i := 23) (oi := ⟨some 40, _, _, _, _, _⟩) (v := ?_) rfl (by kernel_rfl) (by kernel_rfl) (by kernel_rfl) (fun _ _ _ h => h) (Or.inl ⟨by rfl, ?_⟩) (by assumption) ?_
            rotate_left 1
            · (intro W hSw; go_simp <;> with_reducible rfl)
            try simp only [Act.put, List.setIfInBounds_toArray, List.set_cons_zero, List.set_cons_succ]
            refine wpAnyH_take (i := 24) (oi := ⟨some 41, _, _, _, _, _⟩) (v := ?_) rfl (by kernel_rfl) (by kernel_rfl) (by kernel_rfl) (fun _ _ _ h => h) (Or.inl ⟨by rfl, ?_⟩) (by assumption) ?_
            rotate_left 1
            · (intro W hSw; go_simp <;> with_reducible rfl)
            try simp only [Act.put, List.setIfInBounds_toArray, List.set_cons_zero, List.set_cons_succ]
            refine wpAnyH_take (i := 25) (oi := ⟨some 6, _, _, _, _, _⟩) (v := ?_) rfl (by kernel_rfl) (by kernel_rfl) (by kernel_rfl) (fun _ _ _ h => h) (Or.inl ⟨by rfl, ?_⟩) (by assumption) ?_
            rotate_left 1
            · (intro W hSw; go_simp <;> with_reducible rfl)
            try simp only [Act.put, List.setIfInBounds_toArray, List.set_cons_zero, List.set_cons_succ]
            refine wpAnyH_done (by kernel_rfl) ?_ _
            refine NoPanic.normal ?_
            go_wp2
            go_ret
            have kz := kk_43
            first | exact ⟨rfl, kz⟩ | (rw [f1] at kz; exact ⟨rfl, kz⟩)
          · go_simp
            refine (cput_any (q1.at_ e) (d1.at_ e) bq1 w41 h3_41 HF3.out).mono ?_
            rintro e w45 ⟨A45, n45, c45, rfl, o45, hb45⟩
            have kk_45 := kk_41.trans (hb45.mono kk_41.size)
            have h1_45 := h1_41.on hb45
            have h2_45 := h2_41.on hb45
            have h3_45 := h3_41.on hb45
            have oa_45 := oa_41.on hb45
            have ob_45 := ob_41.on hb45
            have oc_45 := o41.on hb45
            have S45 : (fun W => Kept (fun g => False) wd W) w45 := Kept.next S41 (kept_below (fun _ => False) hb45) (fun _ h => h.elim)
            refine hK.out _ _ S45 (fun h45 => ?_)
            clear h41 hK K
            try simp only [Act.put, List.setIfInBounds_toArray, List.set_cons_zero, List.set_cons_succ]
            refine wpAnyH_ready (rs := [14, 17]) (by kernel_rfl) (by simp) ?_
            refine AllReadyH.cons (o := ⟨some 31, _, _, _, _, _⟩) rfl (fun K hK => ?_) (AllReadyH.cons (o := ⟨some 34, _, _, _, _, _⟩) rfl (fun K hK => ?_) AllReadyH.nil)
            · rw [if_pos (by rfl)]
              have x46 := oc_45.text (P := Try.prog) 32 9 5 Try.underlying32 Try.underlying5 Try.underlying9
              rw [E1.out] at x46
              go_simp
              clear x46
              refine hK.out _ _ S45 (fun h46 => ?_)
              clear h45 hK K
              try simp only [Act.put, List.setIfInBounds_toArray, List.set_cons_zero, List.set_cons_succ]
              refine wpAnyH_ready (rs := [17]) (by kernel_rfl) (by simp) ?_
              refine AllReadyH.cons (o := ⟨some 34, _, _, _, _, _⟩) rfl (fun K hK => ?_) AllReadyH.nil
              rw [if_pos (by rfl)]
              have x47 := o45.text (P := Try.prog) 32 9 5 Try.underlying32 Try.underlying5 Try.underlying9
              rw [E3.out] at x47
              go_simp
              clear x47
              refine hK.out _ _ S45 (fun h47 => ?_)
              clear h46 hK K
              try simp only [Act.put, List.setIfInBounds_toArray, List.set_cons_zero, List.set_cons_succ]
              refine wpAnyH_take (i := 18) (oi := ⟨some 35, _, _, _, _, _⟩) (v := ?_) rfl (by kernel_rfl) (by kernel_rfl) (by kernel_rfl) (fun _ _ _ h => h) (Or.inl ⟨by rfl, ?_⟩) (by assumption) ?_
              rotate_left 1
              · (intro W hSw; go_simp <;> with_reducible rfl)
              try simp only [Act.put, List.setIfInBounds_toArray, List.set_cons_zero, List.set_cons_succ]
              refine wpAnyH_take (i := 23) (oi := ⟨some 40, _, _, _, _, _⟩) (v := ?_) rfl (by kernel_rfl) (by kernel_rfl) (by kernel_rfl) (fun _ _ _ h => h) (Or.inl ⟨by rfl, ?_⟩) (by assumption) ?_
              rotate_left 1
              · (intro W hSw; go_simp <;> with_reducible rfl)
              try simp only [Act.put, List.setIfInBounds_toArray, List.set_cons_zero, List.set_cons_succ]
              refine wpAnyH_take (i := 24) (oi := ⟨some 41, _, _, _, _, _⟩) (v := ?_) rfl (by kernel_rfl) (by kernel_rfl) (by kernel_rfl) (fun _ _ _ h => h) (Or.inl ⟨by rfl, ?_⟩) (by assumption) ?_
              rotate_left 1
              · (intro W hSw; go_simp <;> with_reducible rfl)
              try simp only [Act.put, List.setIfInBounds_toArray, List.set_cons_zero, List.set_cons_succ]
              refine wpAnyH_take (i := 25) (oi := ⟨some 6, _, _, _, _, _⟩) (v := ?_) rfl (by kernel_rfl) (by kernel_rfl) (by kernel_rfl) (fun _ _ _ h => h) (Or.inl ⟨by rfl, ?_⟩) (by assumption) ?_
              rotate_left 1
              · (intro W hSw; go_simp <;> with_reducible rfl)
              try simp only [Act.put, List.setIfInBounds_toArray, List.set_cons_zero, List.set_cons_succ]
              refine wpAnyH_done (by kernel_rfl) ?_ _
              refine NoPanic.normal ?_
              go_wp2
              go_ret
              have kz := kk_45
              first | exact ⟨rfl, kz⟩ | (rw [f1] at kz; exact ⟨rfl, kz⟩)
            · rw [if_pos (by rfl)]
              have x48 := o45.text (P := Try.prog) 32 9 5 Try.underlying32 Try.underlying5 Try.underlying9
              rw [E3.out] at x48
              go_simp
              clear x48
              refine hK.out _ _ S45 (fun h48 => ?_)
              clear h45 hK K
              try simp only [Act.put, List.setIfInBounds_toArray, List.set_cons_zero, List.set_cons_succ]
              refine wpAnyH_ready (rs := [14]) (by kernel_rfl) (by simp) ?_
              refine AllReadyH.cons (o := ⟨some 31, _, _, _, _, _⟩) rfl (fun K hK => ?_) AllReadyH.nil
              rw [if_pos (by rfl)]
              have x49 := oc_45.text (P := Try.prog) 32 9 5 Try.underlying32 Try.underlying5 Try.underlying9
              rw [E1.out] at x49
              go_simp
              clear x49
              refine hK.out _ _ S45 (fun h49 => ?_)
              clear h48 hK K
              try simp only [Act.put, List.setIfInBounds_toArray, List.set_cons_zero, List.set_cons_succ]
              refine wpAnyH_take (i := 18) (oi := ⟨some 35, _, _, _, _, _⟩) (v := ?_) rfl (by kernel_rfl) (by kernel_rfl) (by kernel_rfl) (fun _ _ _ h => h) (Or.inl ⟨by rfl, ?_⟩) (by assumption) ?_
              rotate_left 1
              · (intro W hSw; go_simp <;> with_reducible rfl)
              try simp only [Act.put, List.setIfInBounds_toArray, List.set_cons_zero, List.set_cons_succ]
              refine wpAnyH_take (i := 23) (oi := ⟨some 40, _, _, _, _, _⟩) (v := ?_) rfl (by kernel_rfl) (by kernel_rfl) (by kernel_rfl) (fun _ _ _ h => h) (Or.inl ⟨by rfl, ?_⟩) (by assumption) ?_
              rotate_left 1
              · (intro W hSw; go_simp <;> with_reducible rfl)
              try simp only [Act.put, List.setIfInBounds_toArray, List.set_cons_zero, List.set_cons_succ]
              refine wpAnyH_take (i := 24) (oi := ⟨some 41, _, _, _, _, _⟩) (v := ?_) rfl (by kernel_rfl) (by kernel_rfl) (by kernel_rfl) (fun _ _ _ h => h) (Or.inl ⟨by rfl, ?_⟩) (by assumption) ?_
              rotate_left 1
              · (intro W hSw; go_simp <;> with_reducible rfl)
              try simp only [Act.put, List.setIfInBounds_toArray, List.set_cons_zero, List.set_cons_succ]
              refine wpAnyH_take (i := 25) (oi := ⟨some 6, _, _, _, _, _⟩) (v := ?_) rfl (by kernel_rfl) (by kernel_rfl) (by kernel_rfl) (fun _ _ _ h => h) (Or.inl ⟨by rfl, ?_⟩) (by assumption) ?_
              rotate_left 1
              · (intro W hSw; go_simp <;> with_reducible rfl)
              try simp only [Act.put, List.setIfInBounds_toArray, List.set_cons_zero, List.set_cons_succ]
              refine wpAnyH_done (by kernel_rfl) ?_ _
              refine NoPanic.normal ?_
              go_wp2
              go_ret
              have kz := kk_45
              first | exact ⟨rfl, kz⟩ | (rw [f1] at kz; exact ⟨rfl, kz⟩)
      · rw [if_pos (by rfl)]
        have x50 := o26.text (P := Try.prog) 32 9 5 Try.underlying32 Try.underlying5 Try.underlying9
        rw [E2.out] at x50
        go_simp
        clear x50
        refine hK.out _ _ S26 (fun h50 => ?_)
        clear h26 hK K
        try simp only [Act.put, List.setIfInBounds_toArray, List.set_cons_zero, List.set_cons_succ]
        refine wpAnyH_ready (rs := [2, 9]) (by kernel_rfl) (by simp) ?_
        refine AllReadyH.cons (o := ⟨some 19, _, _, _, _, _⟩) rfl (fun K hK => ?_) (AllReadyH.cons (o := ⟨some 26, _, _, _, _, _⟩) rfl (fun K hK => ?_) AllReadyH.nil)
        · rw [if_pos (by rfl)]
          have x51 := oa_26.text (P := Try.prog) 32 9 5 Try.underlying32 Try.underlying5 Try.underlying9
          rw [E1.out] at x51
          go_simp
          clear x51
          refine hK.out _ _ S26 (fun h51 => ?_)
          clear h50 hK K
          try simp only [Act.put, List.setIfInBounds_toArray, List.set_cons_zero, List.set_cons_succ]
          refine wpAnyH_take (i := 6) (oi := ⟨some 23, _, _, _, _, _⟩) (v := ?_) rfl (by kernel_rfl) (by kernel_rfl) (by kernel_rfl) (fun _ _ _ h => h) (Or.inl ⟨by rfl, ?_⟩) (by assumption) ?_
          rotate_left 1
          · (intro W hSw; go_simp <;> with_reducible rfl)
          try simp only [Act.put, List.setIfInBounds_toArray, List.set_cons_zero, List.set_cons_succ]
          refine wpAnyH_ready (rs := [9]) (by kernel_rfl) (by simp) ?_
          refine AllReadyH.cons (o := ⟨some 26, _, _, _, _, _⟩) rfl (fun K hK => ?_) AllReadyH.nil
          go_simp
          refine (dsame w26 h1_26 h2_26).mono ?_
          rintro e w52 ⟨rfl, hb52⟩
          have kk_52 := kk_26.trans (hb52.mono kk_26.size)
          have h1_52 := h1_26.on hb52
          have h2_52 := h2_26.on hb52
          have h3_52 := h3_26.on hb52
          have oa_52 := oa_26.on hb52
          have ob_52 := o26.on hb52
          have S52 : (fun W => Kept (fun g => False) wd W) w52 := Kept.next S26 (kept_below (fun _ => False) hb52) (fun _ h => h.elim)
          refine hK.out _ _ S52 (fun h52 => ?_)
          clear h51 hK K
          try simp only [Act.put, List.setIfInBounds_toArray, List.set_cons_zero, List.set_cons_succ]
          refine wpAnyH_take (i := 10) (oi := ⟨some 27, _, _, _, _, _⟩) (v := ?_) rfl (by kernel_rfl) (by kernel_rfl) (by kernel_rfl) (fun _ _ _ h => h) (Or.inl ⟨by rfl, ?_⟩) (by assumption) ?_
          rotate_left 1
          · (intro W hSw; go_simp <;> with_reducible rfl)
          try simp only [Act.put, List.setIfInBounds_toArray, List.set_cons_zero, List.set_cons_succ]
          refine wpAnyH_take (i := 11) (oi := ⟨some 28, _, _, _, _, _⟩) (v := ?_) rfl (by kernel_rfl) (by kernel_rfl) (by kernel_rfl) (fun _ _ _ h => h) (Or.inl ⟨by rfl, ?_⟩) (by assumption) ?_
          rotate_left 1
          · (intro W hSw; go_simp <;> with_reducible rfl)
          try simp only [Act.put, List.setIfInBounds_toArray, List.set_cons_zero, List.set_cons_succ]
          refine wpAnyH_take (i := 12) (oi := ⟨some 29, _, _, _, _, _⟩) (v := .agg (List.toArray (q1.cs))) rfl (by kernel_rfl) (by kernel_rfl) (by kernel_rfl) (fun _ _ _ h => h) (yieldsIf_load_mid (by rfl) 29 (.tmp 3) rfl p1 (0) rfl (q1.cs) _ (fun W hW => range_blk (b1.kept hW (fun h => h))) Try.underlying29 rfl size29) (by assumption) ?_
          try simp only [Act.put, List.setIfInBounds_toArray, List.set_cons_zero, List.set_cons_succ]
          refine wpAnyH_take (i := 15) (oi := ⟨some 32, _, _, _, _, _⟩) (v := .agg (List.toArray ((q1.at_ e).cs))) rfl (by kernel_rfl) (by kernel_rfl) (by kernel_rfl) (fun _ _ _ h => h) (yieldsIf_load_mid (by rfl) 29 (.tmp 7) rfl p3 (0) rfl ((q1.at_ e).cs) _ (fun W hW => range_blk (b3.kept hW (fun h => h))) Try.underlying29 rfl size29) (by assumption) ?_
          try simp only [Act.put, List.setIfInBounds_toArray, List.set_cons_zero, List.set_cons_succ]
          refine wpAnyH_take (i := 19) (oi := ⟨some 36, _, _, _, _, _⟩) (v := ?_) rfl (by kernel_rfl) (by kernel_rfl) (by kernel_rfl) (fun _ _ _ h => h) (Or.inl ⟨by rfl, ?_⟩) (by assumption) ?_
          rotate_left 1
          · (intro W hSw; go_simp <;> with_reducible rfl)
          try simp only [Act.put, List.setIfInBounds_toArray, List.set_cons_zero, List.set_cons_succ]
          refine wpAnyH_take (i := 20) (oi := ⟨some 37, _, _, _, _, _⟩) (v := ?_) rfl (by kernel_rfl) (by kernel_rfl) (by kernel_rfl) (fun _ _ _ h => h) (Or.inl ⟨by rfl, ?_⟩) (by assumption) ?_
          rotate_left 1
          · (intro W hSw; obtain q0 := tS W hSw; go_simp <;> with_reducible rfl)
          try simp only [Act.put, List.setIfInBounds_toArray, List.set_cons_zero, List.set_cons_succ]
          refine wpAnyH_take (i := 21) (oi := ⟨some 38, _, _, _, _, _⟩) (v := ?_) rfl (by kernel_rfl) (by kernel_rfl) (by kernel_rfl) (fun _ _ _ h => h) (Or.inl ⟨by rfl, ?_⟩) (by assumption) ?_
          rotate_left 1
          · (intro W hSw; go_simp <;> with_reducible rfl)
          try simp only [Act.put, List.setIfInBounds_toArray, List.set_cons_zero, List.set_cons_succ]
          refine wpAnyH_take (i := 22) (oi := ⟨some 39, _, _, _, _, _⟩) (v := ?_) rfl (by kernel_rfl) (by kernel_rfl) (by kernel_rfl) (fun _ _ _ h => h) (Or.inl ⟨by rfl, ?_⟩) (by assumption) ?_
          rotate_left 1
          · (intro W hSw; go_simp <;> with_reducible rfl)
          try simp only [Act.put, List.setIfInBounds_toArray, List.set_cons_zero, List.set_cons_succ]
          refine wpAnyH_ready (rs := [13]) (by kernel_rfl) (by simp) ?_
          refine AllReadyH.cons (o := ⟨some 30, _, _, _, _, _⟩) rfl (fun K hK => ?_) AllReadyH.nil
          go_simp
          refine (cput_any q1 d1 bq1 w52 h1_52 HF1.out).mono ?_
          rintro e w53 ⟨A53, n53, c53, rfl, o53, hb53⟩
          have kk_53 := kk_52.trans (hb53.mono kk_52.size)
          have h1_53 := h1_52.on hb53
          have h2_53 := h2_52.on hb53
          have h3_53 := h3_52.on hb53
          have oa_53 := oa_52.on hb53
          have ob_53 := ob_52.on hb53
          have S53 : (fun W => Kept (fun g => False) wd W) w53 := Kept.next S52 (kept_below (fun _ => False) hb53) (fun _ h => h.elim)
          refine hK.out _ _ S53 (fun h53 => ?_)
          clear h52 hK K
          try simp only [Act.put, List.setIfInBounds_toArray, List.set_cons_zero, List.set_cons_succ]
          refine wpAnyH_ready (rs := [14, 16]) (by kernel_rfl) (by simp) ?_
          refine AllReadyH.cons (o := ⟨some 31, _, _, _, _, _⟩) rfl (fun K hK => ?_) (AllReadyH.cons (o := ⟨some 33, _, _, _, _, _⟩) rfl (fun K hK => ?_) AllReadyH.nil)
          · rw [if_pos (by rfl)]
            have x54 := o53.text (P := Try.prog) 32 9 5 Try.underlying32 Try.underlying5 Try.underlying9
            rw [E1.out] at x54
            go_simp
            clear x54
            refine hK.out _ _ S53 (fun h54 => ?_)
            clear h53 hK K
            try simp only [Act.put, List.setIfInBounds_toArray, List.set_cons_zero, List.set_cons_succ]
            refine wpAnyH_ready (rs := [16]) (by kernel_rfl) (by simp) ?_
            refine AllReadyH.cons (o := ⟨some 33, _, _, _, _, _⟩) rfl (fun K hK => ?_) AllReadyH.nil
            go_simp
            refine (cput_any (q1.at_ e) (d1.at_ e) bq1 w53 h3_53 HF3.out).mono ?_
            rintro e w55 ⟨A55, n55, c55, rfl, o55, hb55⟩
            have kk_55 := kk_53.trans (hb55.mono kk_53.size)
            have h1_55 := h1_53.on hb55
            have h2_55 := h2_53.on hb55
            have h3_55 := h3_53.on hb55
            have oa_55 := oa_53.on hb55
            have ob_55 := ob_53.on hb55
            have oc_55 := o53.on hb55
            have S55 : (fun W => Kept (fun g => False) wd W) w55 := Kept.next S53 (kept_below (fun _ => False) hb55) (fun _ h => h.elim)
            refine hK.out _ _ S55 (fun h55 => ?_)
            clear h54 hK K
            try simp only [Act.put, List.setIfInBounds_toArray, List.set_cons_zero, List.set_cons_succ]
            refine wpAnyH_ready (rs := [17]) (by kernel_rfl) (by simp) ?_
            refine AllReadyH.cons (o := ⟨some 34, _, _, _, _, _⟩) rfl (fun K hK => ?_) AllReadyH.nil
            rw [if_pos (by rfl)]
            have x56 := o55.text (P := Try.prog) 32 9 5 Try.underlying32 Try.underlying5 Try.underlying9
            rw [E3.out] at x56
            go_simp
            clear x56
            refine hK.out _ _ S55 (fun h56 => ?_)
            clear h55 hK K
            try simp only [Act.put, List.setIfInBounds_toArray, List.set_cons_zero, List.set_cons_succ]
            refine wpAnyH_take (i := 18) (oi := ⟨some 35, _, _, _, _, _⟩) (v := ?_) rfl (by kernel_rfl) (by kernel_rfl) (by kernel_rfl) (fun _ _ _ h => h) (Or.inl ⟨by rfl, ?_⟩) (by assumption) ?_
            rotate_left 1
            · (intro W hSw; go_simp <;> with_reducible rfl)
            try simp only [Act.put, List.setIfInBounds_toArray, List.set_cons_zero, List.set_cons_succ]
            refine wpAnyH_take (i := 23) (oi := ⟨some 40, _, _, _, _, _⟩) (v := ?_) rfl (by kernel_rfl) (by kernel_rfl) (by kernel_rfl) (fun _ _ _ h => h) (Or.inl ⟨by rfl, ?_⟩) (by assumption) ?_
            rotate_left 1
            · (intro W hSw; go_simp <;> with_reducible rfl)
            try simp only [Act.put, List.setIfInBounds_toArray, List.set_cons_zero, List.set_cons_succ]
            refine wpAnyH_take (i := 24) (oi := ⟨some 41, _, _, _, _, _⟩) (v := ?_) rfl (by kernel_rfl) (by kernel_rfl) (by kernel_rfl) (fun _ _ _ h => h) (Or.inl ⟨by rfl, ?_⟩) (by assumption) ?_
            rotate_left 1
            · (intro W hSw; go_simp <;> with_reducible rfl)
            try simp only [Act.put, List.setIfInBounds_toArray, List.set_cons_zero, List.set_cons_succ]
            refine wpAnyH_take (i := 25) (oi := ⟨some 6, _, _, _, _, _⟩) (v := ?_) rfl (by kernel_rfl) (by kernel_rfl) (by kernel_rfl) (fun _ _ _ h => h) (Or.inl ⟨by rfl, ?_⟩) (by assumption) ?_
            rotate_left 1
            · (intro W hSw; go_simp <;> with_reducible rfl)
            try simp only [Act.put, List.setIfInBounds_toArray, List.set_cons_zero, List.set_cons_succ]
            refine wpAnyH_done (by kernel_rfl) ?_ _
            refine NoPanic.normal ?_
            go_wp2
            go_ret
            have kz := kk_55
            first | exact ⟨rfl, kz⟩ | (rw [f1] at kz; exact ⟨rfl, kz⟩)
          · go_simp
            refine (cput_any (q1.at_ e) (d1.at_ e) bq1 w53 h3_53 HF3.out).mono ?_
            rintro e w57 ⟨A57, n57, c57, rfl, o57, hb57⟩
            have kk_57 := kk_53.trans (hb57.mono kk_53.size)
            have h1_57 := h1_53.on hb57
            have h2_57 := h2_53.on hb57
            have h3_57 := h3_53.on hb57
            have oa_57 := oa_53.on hb57
            have ob_57 := ob_53.on hb57
            have oc_57 := o53.on hb57
            have S57 : (fun W => Kept (fun g => False) wd W) w57 := Kept.next S53 (kept_below (fun _ => False) hb57) (fun _ h => h.elim)
            refine hK.out _ _ S57 (fun h57 => ?_)
            clear h53 hK K
            try simp only [Act.put, List.setIfInBounds_toArray, List.set_cons_zero, List.set_cons_succ]
            refine wpAnyH_ready (rs := [14, 17]) (by kernel_rfl) (by simp) ?_
            refine AllReadyH.cons (o := ⟨some 31, _, _, _, _, _⟩) rfl (fun K hK => ?_) (AllReadyH.cons (o := ⟨some 34, _, _, _, _, _⟩) rfl (fun K hK => ?_) AllReadyH.nil)
            · rw [if_pos (by rfl)]
              have x58 := oc_57.text (P := Try.prog) 32 9 5 Try.underlying32 Try.underlying5 Try.underlying9
              rw [E1.out] at x58
              go_simp
              clear x58
              refine hK.out _ _ S57 (fun h58 => ?_)
              clear h57 hK K
              try simp only [Act.put, List.setIfInBounds_toArray, List.set_cons_zero, List.set_cons_succ]
              refine wpAnyH_ready (rs := [17]) (by kernel_rfl) (by simp) ?_
              refine AllReadyH.cons (o := ⟨some 34, _, _, _, _, _⟩) rfl (fun K hK => ?_) AllReadyH.nil
              rw [if_pos (by rfl)]
              have x59 := o57.text (P := Try.prog) 32 9 5 Try.underlying32 Try.underlying5 Try.underlying9
              rw [E3.out] at x59
              go_simp
              clear x59
              refine hK.out _ _ S57 (fun h59 => ?_)
              clear h58 hK K
              try simp only [Act.put, List.setIfInBounds_toArray, List.set_cons_zero, List.set_cons_succ]
              refine wpAnyH_take (i := 18) (oi := ⟨some 35, _, _, _, _, _⟩) (v := ?_) rfl (by kernel_rfl) (by kernel_rfl) (by kernel_rfl) (fun _ _ _ h => h) (Or.inl ⟨by rfl, ?_⟩) (by assumption) ?_
              rotate_left 1
              · (intro W hSw; go_simp <;> with_reducible rfl)
              try simp only [Act.put, List.setIfInBounds_toArray, List.set_cons_zero, List.set_cons_succ]
              refine wpAnyH_take (i := 23) (oi := ⟨some 40, _, _, _, _, _⟩) (v := ?_) rfl (by kernel_rfl) (by kernel_rfl) (by kernel_rfl) (fun _ _ _ h => h) (Or.inl ⟨by rfl, ?_⟩) (by assumption) ?_
              rotate_left 1
              · (intro W hSw; go_simp <;> with_reducible rfl)
              try simp only [Act.put, List.setIfInBounds_toArray, List.set_cons_zero, List.set_cons_succ]
              refine wpAnyH_take (i := 24) (oi := ⟨some 41, _, _, _, _, _⟩) (v := ?_) rfl (by kernel_rfl) (by kernel_rfl) (by kernel_rfl) (fun _ _ _ h => h) (Or.inl ⟨by rfl, ?_⟩) (by assumption) ?_
              rotate_left 1
              · (intro W hSw; go_simp <;> with_reducible rfl)
              try simp only [Act.put, List.setIfInBounds_toArray, List.set_cons_zero, List.set_cons_succ]
              refine wpAnyH_take (i := 25) (oi := ⟨some 6, _, _, _, _, _⟩) (v := ?_) rfl (by kernel_rfl) (by kernel_rfl) (by kernel_rfl) (fun _ _ _ h => h) (Or.inl ⟨by rfl, ?_⟩) (by assumption) ?_
              rotate_left 1
              · (intro W hSw; go_simp <;> with_reducible rfl)
              try simp only [Act.put, List.setIfInBounds_toArray, List.set_cons_zero, List.set_cons_succ]
              refine wpAnyH_done (by kernel_rfl) ?_ _
              refine NoPanic.normal ?_
              go_wp2
              go_ret
              have kz := kk_57
              first | exact ⟨rfl, kz⟩ | (rw [f1] at kz; exact ⟨rfl, kz⟩)
            · rw [if_pos (by rfl)]
              have x60 := o57.text (P := Try.prog) 32 9 5 Try.underlying32 Try.underlying5 Try.underlying9
              rw [E3.out] at x60
              go_simp
              clear x60
              refine hK.out _ _ S57 (fun h60 => ?_)
              clear h57 hK K
              try simp only [Act.put, List.setIfInBounds_toArray, List.set_cons_zero, List.set_cons_succ]
              refine wpAnyH_ready (rs := [14]) (by kernel_rfl) (by simp) ?_
              refine AllReadyH.cons (o := ⟨some 31, _, _, _, _, _⟩) rfl (fun K hK => ?_) AllReadyH.nil
              rw [if_pos (by rfl)]
              have x61 := oc_57.text (P := Try.prog) 32 9 5 Try.underlying32 Try.underlying5 Try.underlying9
              rw [E1.out] at x61
              go_simp
              clear x61
              refine hK.out _ _ S57 (fun h61 => ?_)
              clear h60 hK K
              try simp only [Act.put, List.setIfInBounds_toArray, List.set_cons_zero, List.set_cons_succ]
              refine wpAnyH_take (i := 18) (oi := ⟨some 35, _, _, _, _, _⟩) (v := ?_) rfl (by kernel_rfl) (by kernel_rfl) (by kernel_rfl) (fun _ _ _ h => h) (Or.inl ⟨by rfl, ?_⟩) (by assumption) ?_
              rotate_left 1
              · (intro W hSw; go_simp <;> with_reducible rfl)
              try simp only [Act.put, List.setIfInBounds_toArray, List.set_cons_zero, List.set_cons_succ]
              refine wpAnyH_take (i := 23) (oi := ⟨some 40, _, _, _, _, _⟩) (v := ?_) rfl (by kernel_rfl) (by kernel_rfl) (by kernel_rfl) (fun _ _ _ h => h) (Or.inl ⟨by rfl, ?_⟩) (by assumption) ?_
              rotate_left 1
              · (intro W hSw; go_simp <;> with_reducible rfl)
              try simp only [Act.put, List.setIfInBounds_toArray, List.set_cons_zero, List.set_cons_succ]
              refine wpAnyH_take (i := 24) (oi := ⟨some 41, _, _, _, _, _⟩) (v := ?_) rfl (by kernel_rfl) (by kernel_rfl) (by kernel_rfl) (fun _ _ _ h => h) (Or.inl ⟨by rfl, ?_⟩) (by assumption) ?_
              rotate_left 1
              · (intro W hSw; go_simp <;> with_reducible rfl)
              try simp only [Act.put, List.setIfInBounds_toArray, List.set_cons_zero, List.set_cons_succ]
              refine wpAnyH_take (i := 25) (oi := ⟨some 6, _, _, _, _, _⟩) (v := ?_) rfl (by kernel_rfl) (by kernel_rfl) (by kernel_rfl) (fun _ _ _ h => h) (Or.inl ⟨by rfl, ?_⟩) (by assumption) ?_
              rotate_left 1
              · (intro W hSw; go_simp <;> with_reducible rfl)
              try simp only [Act.put, List.setIfInBounds_toArray, List.set_cons_zero, List.set_cons_succ]
              refine wpAnyH_done (by kernel_rfl) ?_ _
              refine NoPanic.normal ?_
              go_wp2
              go_ret
              have kz := kk_57
              first | exact ⟨rfl, kz⟩ | (rw [f1] at kz; exact ⟨rfl, kz⟩)
        · go_simp
          refine (dsame w26 h1_26 h2_26).mono ?_
          rintro e w62 ⟨rfl, hb62⟩
          have kk_62 := kk_26.trans (hb62.mono kk_26.size)
          have h1_62 := h1_26.on hb62
          have h2_62 := h2_26.on hb62
          have h3_62 := h3_26.on hb62
          have oa_62 := oa_26.on hb62
          have ob_62 := o26.on hb62
          have S62 : (fun W => Kept (fun g => False) wd W) w62 := Kept.next S26 (kept_below (fun _ => False) hb62) (fun _ h => h.elim)
          refine hK.out _ _ S62 (fun h62 => ?_)
          clear h50 hK K
          try simp only [Act.put, List.setIfInBounds_toArray, List.set_cons_zero, List.set_cons_succ]
          refine wpAnyH_ready (rs := [2]) (by kernel_rfl) (by simp) ?_
          refine AllReadyH.cons (o := ⟨some 19, _, _, _, _, _⟩) rfl (fun K hK => ?_) AllReadyH.nil
          rw [if_pos (by rfl)]
          have x63 := oa_62.text (P := Try.prog) 32 9 5 Try.underlying32 Try.underlying5 Try.underlying9
          rw [E1.out] at x63
          go_simp
          clear x63
          refine hK.out _ _ S62 (fun h63 => ?_)
          clear h62 hK K
          try simp only [Act.put, List.setIfInBounds_toArray, List.set_cons_zero, List.set_cons_succ]
          refine wpAnyH_take (i := 6) (oi := ⟨some 23, _, _, _, _, _⟩) (v := ?_) rfl (by kernel_rfl) (by kernel_rfl) (by kernel_rfl) (fun _ _ _ h => h) (Or.inl ⟨by rfl, ?_⟩) (by assumption) ?_
          rotate_left 1
          · (intro W hSw; go_simp <;> with_reducible rfl)
          try simp only [Act.put, List.setIfInBounds_toArray, List.set_cons_zero, List.set_cons_succ]
          refine wpAnyH_take (i := 10) (oi := ⟨some 27, _, _, _, _, _⟩) (v := ?_) rfl (by kernel_rfl) (by kernel_rfl) (by kernel_rfl) (fun _ _ _ h => h) (Or.inl ⟨by rfl, ?_⟩) (by assumption) ?_
          rotate_left 1
          · (intro W hSw; go_simp <;> with_reducible rfl)
          try simp only [Act.put, List.setIfInBounds_toArray, List.set_cons_zero, List.set_cons_succ]
          refine wpAnyH_take (i := 11) (oi := ⟨some 28, _, _, _, _, _⟩) (v := ?_) rfl (by kernel_rfl) (by kernel_rfl) (by kernel_rfl) (fun _ _ _ h => h) (Or.inl ⟨by rfl, ?_⟩) (by assumption) ?_
          rotate_left 1
          · (intro W hSw; go_simp <;> with_reducible rfl)
          try simp only [Act.put, List.setIfInBounds_toArray, List.set_cons_zero, List.set_cons_succ]
          refine wpAnyH_take (i := 12) (oi := ⟨some 29, _, _, _, _, _⟩) (v := .agg (List.toArray (q1.cs))) rfl (by kernel_rfl) (by kernel_rfl) (by kernel_rfl) (fun _ _ _ h => h) (yieldsIf_load_mid (by rfl) 29 (.tmp 3) rfl p1 (0) rfl (q1.cs) _ (fun W hW => range_blk (b1.kept hW (fun h => h))) Try.underlying29 rfl size29) (by assumption) ?_
          try simp only [Act.put, List.setIfInBounds_toArray, List.set_cons_zero, List.set_cons_succ]
          refine wpAnyH_take (i := 15) (oi := ⟨some 32, _, _, _, _, _⟩) (v := .agg (List.toArray ((q1.at_ e).cs))) rfl (by kernel_rfl) (by kernel_rfl) (by kernel_rfl) (fun _ _ _ h => h) (yieldsIf_load_mid (by rfl) 29 (.tmp 7) rfl p3 (0) rfl ((q1.at_ e).cs) _ (fun W hW => range_blk (b3.kept hW (fun h => h))) Try.underlying29 rfl size29) (by assumption) ?_
          try simp only [Act.put, List.setIfInBounds_toArray, List.set_cons_zero, List.set_cons_succ]
          refine wpAnyH_take (i := 19) (oi := ⟨some 36, _, _, _, _, _⟩) (v := ?_) rfl (by kernel_rfl) (by kernel_rfl) (by kernel_rfl) (fun _ _ _ h => h) (Or.inl ⟨by rfl, ?_⟩) (by assumption) ?_
          rotate_left 1
          · (intro W hSw; go_simp <;> with_reducible rfl)
          try simp only [Act.put, List.setIfInBounds_toArray, List.set_cons_zero, List.set_cons_succ]
          refine wpAnyH_take (i := 20) (oi := ⟨some 37, _, _, _, _, _⟩) (v := ?_) rfl (by kernel_rfl) (by kernel_rfl) (by kernel_rfl) (fun _ _ _ h => h) (Or.inl ⟨by rfl, ?_⟩) (by assumption) ?_
          rotate_left 1
          · (intro W hSw; obtain q0 := tS W hSw; go_simp <;> with_reducible rfl)
          try simp only [Act.put, List.setIfInBounds_toArray, List.set_cons_zero, List.set_cons_succ]
          refine wpAnyH_take (i := 21) (oi := ⟨some 38, _, _, _, _, _⟩) (v := ?_) rfl (by kernel_rfl) (by kernel_rfl) (by kernel_rfl) (fun _ _ _ h => h) (Or.inl ⟨by rfl, ?_⟩) (by assumption) ?_
          rotate_left 1
          · (intro W hSw; go_simp <;> with_reducible rfl)
          try simp only [Act.put, List.setIfInBounds_toArray, List.set_cons_zero, List.set_cons_succ]
          refine wpAnyH_take (i := 22) (oi := ⟨some 39, _, _, _, _, _⟩) (v := ?_) rfl (by kernel_rfl) (by kernel_rfl) (by kernel_rfl) (fun _ _ _ h => h) (Or.inl ⟨by rfl, ?_⟩) (by assumption) ?_
          rotate_left 1
          · (intro W hSw; go_simp <;> with_reducible rfl)
          try simp only [Act.put, List.setIfInBounds_toArray, List.set_cons_zero, List.set_cons_succ]
          refine wpAnyH_ready (rs := [13]) (by kernel_rfl) (by simp) ?_
          refine AllReadyH.cons (o := ⟨some 30, _, _, _, _, _⟩) rfl (fun K hK => ?_) AllReadyH.nil
          go_simp
          refine (cput_any q1 d1 bq1 w62 h1_62 HF1.out).mono ?_
          rintro e w64 ⟨A64, n64, c64, rfl, o64, hb64⟩
          have kk_64 := kk_62.trans (hb64.mono kk_62.size)
          have h1_64 := h1_62.on hb64
          have h2_64 := h2_62.on hb64
          have h3_64 := h3_62.on hb64
          have oa_64 := oa_62.on hb64
          have ob_64 := ob_62.on hb64
          have S64 : (fun W => Kept (fun g => False) wd W) w64 := Kept.next S62 (kept_below (fun _ => False) hb64) (fun _ h => h.elim)
          refine hK.out _ _ S64 (fun h64 => ?_)
          clear h63 hK K
          try simp only [Act.put, List.setIfInBounds_toArray, List.set_cons_zero, List.set_cons_succ]
          refine wpAnyH_ready (rs := [14, 16]) (by kernel_rfl) (by simp) ?_
          refine AllReadyH.cons (o := ⟨some 31, _, _, _, _, _⟩) rfl (fun K hK => ?_) (AllReadyH.cons (o := ⟨some 33, _, _, _, _, _⟩) rfl (fun K hK => ?_) AllReadyH.nil)
          · rw [if_pos (by rfl)]
            have x65 := o64.text (P := Try.prog) 32 9 5 Try.underlying32 Try.underlying5 Try.underlying9
            rw [E1.out] at x65
            go_simp
            clear x65
            refine hK.out _ _ S64 (fun h65 => ?_)
            clear h64 hK K
            try simp only [Act.put, List.setIfInBounds_toArray, List.set_cons_zero, List.set_cons_succ]
            refine wpAnyH_ready (rs := [16]) (by kernel_rfl) (by simp) ?_
            refine AllReadyH.cons (o := ⟨some 33, _, _, _, _, _⟩) rfl (fun K hK => ?_) AllReadyH.nil
            go_simp
            refine (cput_any (q1.at_ e) (d1.at_ e) bq1 w64 h3_64 HF3.out).mono ?_
            rintro e w66 ⟨A66, n66, c66, rfl, o66, hb66⟩
            have kk_66 := kk_64.trans (hb66.mono kk_64.size)
            have h1_66 := h1_64.on hb66
            have h2_66 := h2_64.on hb66
            have h3_66 := h3_64.on hb66
            have oa_66 := oa_64.on hb66
            have ob_66 := ob_64.on hb66
            have oc_66 := o64.on hb66
            have S66 : (fun W => Kept (fun g => False) wd W) w66 := Kept.next S64 (kept_below (fun _ => False) hb66) (fun _ h => h.elim)
            refine hK.out _ _ S66 (fun h66 => ?_)
            clear h65 hK K
            try simp only [Act.put, List.setIfInBounds_toArray, List.set_cons_zero, List.set_cons_succ]
            refine wpAnyH_ready (rs := [17]) (by kernel_rfl) (by simp) ?_
            refine AllReadyH.cons (o := ⟨some 34, _, _, _, _, _⟩) rfl (fun K hK => ?_) AllReadyH.nil
            rw [if_pos (by rfl)]
            have x67 := o66.text (P := Try.prog) 32 9 5 Try.underlying32 Try.underlying5 Try.underlying9
            rw [E3.out] at x67
            go_simp
            clear x67
            refine hK.out _ _ S66 (fun h67 => ?_)
            clear h66 hK K
            try simp only [Act.put, List.setIfInBounds_toArray, List.set_cons_zero, List.set_cons_succ]
            refine wpAnyH_take (i := 18) (oi := ⟨some 35, _, _, _, _, _⟩) (v := ?_) rfl (by kernel_rfl) (by kernel_rfl) (by kernel_rfl) (fun _ _ _ h => h) (Or.inl ⟨by rfl, ?_⟩) (by assumption) ?_
            rotate_left 1
            · (intro W hSw; go_simp <;> with_reducible rfl)
            try simp only [Act.put, List.setIfInBounds_toArray, List.set_cons_zero, List.set_cons_succ]
            refine wpAnyH_take (i := 23) (oi := ⟨some 40, _, _, _, _, _⟩) (v := ?_) rfl (by kernel_rfl) (by kernel_rfl) (by kernel_rfl) (fun _ _ _ h => h) (Or.inl ⟨by rfl, ?_⟩) (by assumption) ?_
            rotate_left 1
            · (intro W hSw; go_simp <;> with_reducible rfl)
            try simp only [Act.put, List.setIfInBounds_toArray, List.set_cons_zero, List.set_cons_succ]
            refine wpAnyH_take (i := 24) (oi := ⟨some 41, _, _, _, _, _⟩) (v := ?_) rfl (by kernel_rfl) (by kernel_rfl) (by kernel_rfl) (fun _ _ _ h => h) (Or.inl ⟨by rfl, ?_⟩) (by assumption) ?_
            rotate_left 1
            · (intro W hSw; go_simp <;> with_reducible rfl)
            try simp only [Act.put, List.setIfInBounds_toArray, List.set_cons_zero, List.set_cons_succ]
            refine wpAnyH_take (i := 25) (oi := ⟨some 6, _, _, _, _, _⟩) (v := ?_) rfl (by kernel_rfl) (by kernel_rfl) (by kernel_rfl) (fun _ _ _ h => h) (Or.inl ⟨by rfl, ?_⟩) (by assumption) ?_
            rotate_left 1
            · (intro W hSw; go_simp <;> with_reducible rfl)
            try simp only [Act.put, List.setIfInBounds_toArray, List.set_cons_zero, List.set_cons_succ]
            refine wpAnyH_done (by kernel_rfl) ?_ _
            refine NoPanic.normal ?_
            go_wp2
            go_ret
            have kz := kk_66
            first | exact ⟨rfl, kz⟩ | (rw [f1] at kz; exact ⟨rfl, kz⟩)
          · go_simp
            refine (cput_any (q1.at_ e) (d1.at_ e) bq1 w64 h3_64 HF3.out).mono ?_
            rintro e w68 ⟨A68, n68, c68, rfl, o68, hb68⟩
            have kk_68 := kk_64.trans (hb68.mono kk_64.size)
            have h1_68 := h1_64.on hb68
            have h2_68 := h2_64.on hb68
            have h3_68 := h3_64.on hb68
            have oa_68 := oa_64.on hb68
            have ob_68 := ob_64.on hb68
            have oc_68 := o64.on hb68
            have S68 : (fun W => Kept (fun g => False) wd W) w68 := Kept.next S64 (kept_below (fun _ => False) hb68) (fun _ h => h.elim)
            refine hK.out _ _ S68 (fun h68 => ?_)
            clear h64 hK K
            try simp only [Act.put, List.setIfInBounds_toArray, List.set_cons_zero, List.set_cons_succ]
            refine wpAnyH_ready (rs := [14, 17]) (by kernel_rfl) (by simp) ?_
            refine AllReadyH.cons (o := ⟨some 31, _, _, _, _, _⟩) rfl (fun K hK => ?_) (AllReadyH.cons (o := ⟨some 34, _, _, _, _, _⟩) rfl (fun K hK => ?_) AllReadyH.nil)
            · rw [if_pos (by rfl)]
              have x69 := oc_68.text (P := Try.prog) 32 9 5 Try.underlying32 Try.underlying5 Try.underlying9
              rw [E1.out] at x69
              go_simp
              clear x69
              refine hK.out _ _ S68 (fun h69 => ?_)
              clear h68 hK K
              try simp only [Act.put, List.setIfInBounds_toArray, List.set_cons_zero, List.set_cons_succ]
              refine wpAnyH_ready (rs := [17]) (by kernel_rfl) (by simp) ?_
              refine AllReadyH.cons (o := ⟨some 34, _, _, _, _, _⟩) rfl (fun K hK => ?_) AllReadyH.nil
              rw [if_pos (by rfl)]
              have x70 := o68.text (P := Try.prog) 32 9 5 Try.underlying32 Try.underlying5 Try.underlying9
              rw [E3.out] at x70
              go_simp
              clear x70
              refine hK.out _ _ S68 (fun h70 => ?_)
              clear h69 hK K
              try simp only [Act.put, List.setIfInBounds_toArray, List.set_cons_zero, List.set_cons_succ]
              refine wpAnyH_take (i := 18) (oi := ⟨some 35, _, _, _, _, _⟩) (v := ?_) rfl (by kernel_rfl) (by kernel_rfl) (by kernel_rfl) (fun _ _ _ h => h) (Or.inl ⟨by rfl, ?_⟩) (by assumption) ?_
              rotate_left 1
              · (intro W hSw; go_simp <;> with_reducible rfl)
              try simp only [Act.put, List.setIfInBounds_toArray, List.set_cons_zero, List.set_cons_succ]
              refine wpAnyH_take (i := 23) (oi := ⟨some 40, _, _, _, _, _⟩) (v := ?_) rfl (by kernel_rfl) (by kernel_rfl) (by kernel_rfl) (fun _ _ _ h => h) (Or.inl ⟨by rfl, ?_⟩) (by assumption) ?_
              rotate_left 1
              · (intro W hSw; go_simp <;> with_reducible rfl)
              try simp only [Act.put, List.setIfInBounds_toArray, List.set_cons_zero, List.set_cons_succ]
              refine wpAnyH_take (i := 24) (oi := ⟨some 41, _, _, _, _, _⟩) (v := ?_) rfl (by kernel_rfl) (by kernel_rfl) (by kernel_rfl) (fun _ _ _ h => h) (Or.inl ⟨by rfl, ?_⟩) (by assumption) ?_
              rotate_left 1
              · (intro W hSw; go_simp <;> with_reducible rfl)
              try simp only [Act.put, List.setIfInBounds_toArray, List.set_cons_zero, List.set_cons_succ]
              refine wpAnyH_take (i := 25) (oi := ⟨some 6, _, _, _, _, _⟩) (v := ?_) rfl (by kernel_rfl) (by kernel_rfl) (by kernel_rfl) (fun _ _ _ h => h) (Or.inl ⟨by rfl, ?_⟩) (by assumption) ?_
              rotate_left 1
              · (intro W hSw; go_simp <;> with_reducible rfl)
              try simp only [Act.put, List.setIfInBounds_toArray, List.set_cons_zero, List.set_cons_succ]
              refine wpAnyH_done (by kernel_rfl) ?_ _
              refine NoPanic.normal ?_
              go_wp2
              go_ret
              have kz := kk_68
              first | exact ⟨rfl, kz⟩ | (rw [f1] at kz; exact ⟨rfl, kz⟩)
            · rw [if_pos (by rfl)]
              have x71 := o68.text (P := Try.prog) 32 9 5 Try.underlying32 Try.underlying5 Try.underlying9
              rw [E3.out] at x71
              go_simp
              clear x71
              refine hK.out _ _ S68 (fun h71 => ?_)
              clear h68 hK K
              try simp only [Act.put, List.setIfInBounds_toArray, List.set_cons_zero, List.set_cons_succ]
              refine wpAnyH_ready (rs := [14]) (by kernel_rfl) (by simp) ?_
              refine AllReadyH.cons (o := ⟨some 31, _, _, _, _, _⟩) rfl (fun K hK => ?_) AllReadyH.nil
              rw [if_pos (by rfl)]
              have x72 := oc_68.text (P := Try.prog) 32 9 5 Try.underlying32 Try.underlying5 Try.underlying9
              rw [E1.out] at x72
              go_simp
              clear x72
              refine hK.out _ _ S68 (fun h72 => ?_)
              clear h71 hK K
              try simp only [Act.put, List.setIfInBounds_toArray, List.set_cons_zero, List.set_cons_succ]
              refine wpAnyH_take (i := 18) (oi := ⟨some 35, _, _, _, _, _⟩) (v := ?_) rfl (by kernel_rfl) (by kernel_rfl) (by kernel_rfl) (fun _ _ _ h => h) (Or.inl ⟨by rfl, ?_⟩) (by assumption) ?_
              rotate_left 1
              · (intro W hSw; go_simp <;> with_reducible rfl)
              try simp only [Act.put, List.setIfInBounds_toArray, List.set_cons_zero, List.set_cons_succ]
              refine wpAnyH_take (i := 23) (oi := ⟨some 40, _, _, _, _, _⟩) (v := ?_) rfl (by kernel_rfl) (by kernel_rfl) (by kernel_rfl) (fun _ _ _ h => h) (Or.inl ⟨by rfl, ?_⟩) (by assumption) ?_
              rotate_left 1
              · (intro W hSw; go_simp <;> with_reducible rfl)
              try simp only [Act.put, List.setIfInBounds_toArray, List.set_cons_zero, List.set_cons_succ]
              refine wpAnyH_take (i := 24) (oi := ⟨some 41, _, _, _, _, _⟩) (v := ?_) rfl (by kernel_rfl) (by kernel_rfl) (by kernel_rfl) (fun _ _ _ h => h) (Or.inl ⟨by rfl, ?_⟩) (by assumption) ?_
              rotate_left 1
              · (intro W hSw; go_simp <;> with_reducible rfl)
              try simp only [Act.put, List.setIfInBounds_toArray, List.set_cons_zero, List.set_cons_succ]
              refine wpAnyH_take (i := 25) (oi := ⟨some 6, _, _, _, _, _⟩) (v := ?_) rfl (by kernel_rfl) (by kernel_rfl) (by kernel_rfl) (fun _ _ _ h => h) (Or.inl ⟨by rfl, ?_⟩) (by assumption) ?_
              rotate_left 1
              · (intro W hSw; go_simp <;> with_reducible rfl)
              try simp only [Act.put, List.setIfInBounds_toArray, List.set_cons_zero, List.set_cons_succ]
              refine wpAnyH_done (by kernel_rfl) ?_ _
              refine NoPanic.normal ?_
              go_wp2
              go_ret
              have kz := kk_68
              first | exact ⟨rfl, kz⟩ | (rw [f1] at kz; exact ⟨rfl, kz⟩)
      · go_simp
        refine (dsame w26 h1_26 h2_26).mono ?_
        rintro e w73 ⟨rfl, hb73⟩
        have kk_73 := kk_26.trans (hb73.mono kk_26.size)
        have h1_73 := h1_26.on hb73
        have h2_73 := h2_26.on hb73
        have h3_73 := h3_26.on hb73
        have oa_73 := oa_26.on hb73
        have ob_73 := o26.on hb73
        have S73 : (fun W => Kept (fun g => False) wd W) w73 := Kept.next S26 (kept_below (fun _ => False) hb73) (fun _ h => h.elim)
        refine hK.out _ _ S73 (fun h73 => ?_)
        clear h26 hK K
        try simp only [Act.put, List.setIfInBounds_toArray, List.set_cons_zero, List.set_cons_succ]
        refine wpAnyH_ready (rs := [2, 5]) (by kernel_rfl) (by simp) ?_
        refine AllReadyH.cons (o := ⟨some 19, _, _, _, _, _⟩) rfl (fun K hK => ?_) (AllReadyH.cons (o := ⟨some 22, _, _, _, _, _⟩) rfl (fun K hK => ?_) AllReadyH.nil)
        · rw [if_pos (by rfl)]
          have x74 := oa_73.text (P := Try.prog) 32 9 5 Try.underlying32 Try.underlying5 Try.underlying9
          rw [E1.out] at x74
          go_simp
          clear x74
          refine hK.out _ _ S73 (fun h74 => ?_)
          clear h73 hK K
          try simp only [Act.put, List.setIfInBounds_toArray, List.set_cons_zero, List.set_cons_succ]
          refine wpAnyH_ready (rs := [5]) (by kernel_rfl) (by simp) ?_
          refine AllReadyH.cons (o := ⟨some 22, _, _, _, _, _⟩) rfl (fun K hK => ?_) AllReadyH.nil
          rw [if_pos (by rfl)]
          have x75 := ob_73.text (P := Try.prog) 32 9 5 Try.underlying32 Try.underlying5 Try.underlying9
          rw [E2.out] at x75
          go_simp
          clear x75
          refine hK.out _ _ S73 (fun h75 => ?_)
          clear h74 hK K
          try simp only [Act.put, List.setIfInBounds_toArray, List.set_cons_zero, List.set_cons_succ]
          refine wpAnyH_take (i := 6) (oi := ⟨some 23, _, _, _, _, _⟩) (v := ?_) rfl (by kernel_rfl) (by kernel_rfl) (by kernel_rfl) (fun _ _ _ h => h) (Or.inl ⟨by rfl, ?_⟩) (by assumption) ?_
          rotate_left 1
          · (intro W hSw; go_simp <;> with_reducible rfl)
          try simp only [Act.put, List.setIfInBounds_toArray, List.set_cons_zero, List.set_cons_succ]
          refine wpAnyH_take (i := 10) (oi := ⟨some 27, _, _, _, _, _⟩) (v := ?_) rfl (by kernel_rfl) (by kernel_rfl) (by kernel_rfl) (fun _ _ _ h => h) (Or.inl ⟨by rfl, ?_⟩) (by assumption) ?_
          rotate_left 1
          · (intro W hSw; go_simp <;> with_reducible rfl)
          try simp only [Act.put, List.setIfInBounds_toArray, List.set_cons_zero, List.set_cons_succ]
          refine wpAnyH_take (i := 11) (oi := ⟨some 28, _, _, _, _, _⟩) (v := ?_) rfl (by kernel_rfl) (by kernel_rfl) (by kernel_rfl) (fun _ _ _ h => h) (Or.inl ⟨by rfl, ?_⟩) (by assumption) ?_
          rotate_left 1
          · (intro W hSw; go_simp <;> with_reducible rfl)
          try simp only [Act.put, List.setIfInBounds_toArray, List.set_cons_zero, List.set_cons_succ]
          refine wpAnyH_take (i := 12) (oi := ⟨some 29, _, _, _, _, _⟩) (v := .agg (List.toArray (q1.cs))) rfl (by kernel_rfl) (by kernel_rfl) (by kernel_rfl) (fun _ _ _ h => h) (yieldsIf_load_mid (by rfl) 29 (.tmp 3) rfl p1 (0) rfl (q1.cs) _ (fun W hW => range_blk (b1.kept hW (fun h => h))) Try.underlying29 rfl size29) (by assumption) ?_
          try simp only [Act.put, List.setIfInBounds_toArray, List.set_cons_zero, List.set_cons_succ]
          refine wpAnyH_take (i := 15) (oi := ⟨some 32, _, _, _, _, _⟩) (v := .agg (List.toArray ((q1.at_ e).cs))) rfl (by kernel_rfl) (by kernel_rfl) (by kernel_rfl) (fun _ _ _ h => h) (yieldsIf_load_mid (by rfl) 29 (.tmp 7) rfl p3 (0) rfl ((q1.at_ e).cs) _ (fun W hW => range_blk (b3.kept hW (fun h => h))) Try.underlying29 rfl size29) (by assumption) ?_
          try simp only [Act.put, List.setIfInBounds_toArray, List.set_cons_zero, List.set_cons_succ]
          refine wpAnyH_take (i := 19) (oi := ⟨some 36, _, _, _, _, _⟩) (v := ?_) rfl (by kernel_rfl) (by kernel_rfl) (by kernel_rfl) (fun _ _ _ h => h) (Or.inl ⟨by rfl, ?_⟩) (by assumption) ?_
          rotate_left 1
          · (intro W hSw; go_simp <;> with_reducible rfl)
          try simp only [Act.put, List.setIfInBounds_toArray, List.set_cons_zero, List.set_cons_succ]
          refine wpAnyH_take (i := 20) (oi := ⟨some 37, _, _, _, _, _⟩) (v := ?_) rfl (by kernel_rfl) (by kernel_rfl) (by kernel_rfl) (fun _ _ _ h => h) (Or.inl ⟨by rfl, ?_⟩) (by assumption) ?_
          rotate_left 1
          · (intro W hSw; obtain q0 := tS W hSw; go_simp <;> with_reducible rfl)
          try simp only [Act.put, List.setIfInBounds_toArray, List.set_cons_zero, List.set_cons_succ]
          refine wpAnyH_take (i := 21) (oi := ⟨some 38, _, _, _, _, _⟩) (v := ?_) rfl (by kernel_rfl) (by kernel_rfl) (by kernel_rfl) (fun _ _ _ h => h) (Or.inl ⟨by rfl, ?_⟩) (by assumption) ?_
          rotate_left 1
          · (intro W hSw; go_simp <;> with_reducible rfl)
          try simp only [Act.put, List.setIfInBounds_toArray, List.set_cons_zero, List.set_cons_succ]
          refine wpAnyH_take (i := 22) (oi := ⟨some 39, _, _, _, _, _⟩) (v := ?_) rfl (by kernel_rfl) (by kernel_rfl) (by kernel_rfl) (fun _ _ _ h => h) (Or.inl ⟨by rfl, ?_⟩) (by assumption) ?_
          rotate_left 1
          · (intro W hSw; go_simp <;> with_reducible rfl)
          try simp only [Act.put, List.setIfInBounds_toArray, List.set_cons_zero, List.set_cons_succ]
          refine wpAnyH_ready (rs := [13]) (by kernel_rfl) (by simp) ?_
          refine AllReadyH.cons (o := ⟨some 30, _, _, _, _, _⟩) rfl (fun K hK => ?_) AllReadyH.nil
          go_simp
          refine (cput_any q1 d1 bq1 w73 h1_73 HF1.out).mono ?_
          rintro e w76 ⟨A76, n76, c76, rfl, o76, hb76⟩
          have kk_76 := kk_73.trans (hb76.mono kk_73.size)
          have h1_76 := h1_73.on hb76
          have h2_76 := h2_73.on hb76
          have h3_76 := h3_73.on hb76
          have oa_76 := oa_73.on hb76
          have ob_76 := ob_73.on hb76
          have S76 : (fun W => Kept (fun g => False) wd W) w76 := Kept.next S73 (kept_below (fun _ => False) hb76) (fun _ h => h.elim)
          refine hK.out _ _ S76 (fun h76 => ?_)
          clear h75 hK K
          try simp only [Act.put, List.setIfInBounds_toArray, List.set_cons_zero, List.set_cons_succ]
          refine wpAnyH_ready (rs := [14, 16]) (by kernel_rfl) (by simp) ?_
          refine AllReadyH.cons (o := ⟨some 31, _, _, _, _, _⟩) rfl (fun K hK => ?_) (AllReadyH.cons (o := ⟨some 33, _, _, _, _, _⟩) rfl (fun K hK => ?_) AllReadyH.nil)
          · rw [if_pos (by rfl)]
            have x77 := o76.text (P := Try.prog) 32 9 5 Try.underlying32 Try.underlying5 Try.underlying9
            rw [E1.out] at x77
            go_simp
            clear x77
            refine hK.out _ _ S76 (fun h77 => ?_)
            clear h76 hK K
            try simp only [Act.put, List.setIfInBounds_toArray, List.set_cons_zero, List.set_cons_succ]
            refine wpAnyH_ready (rs := [16]) (by kernel_rfl) (by simp) ?_
            refine AllReadyH.cons (o := ⟨some 33, _, _, _, _, _⟩) rfl (fun K hK => ?_) AllReadyH.nil
            go_simp
            refine (cput_any (q1.at_ e) (d1.at_ e) bq1 w76 h3_76 HF3.out).mono ?_
            rintro e w78 ⟨A78, n78, c78, rfl, o78, hb78⟩
            have kk_78 := kk_76.trans (hb78.mono kk_76.size)
            have h1_78 := h1_76.on hb78
            have h2_78 := h2_76.on hb78
            have h3_78 := h3_76.on hb78
            have oa_78 := oa_76.on hb78
            have ob_78 := ob_76.on hb78
            have oc_78 := o76.on hb78
            have S78 : (fun W => Kept (fun g => False) wd W) w78 := Kept.next S76 (kept_below (fun _ => False) hb78) (fun _ h => h.elim)
            refine hK.out _ _ S78 (fun h78 => ?_)
            clear h77 hK K
            try simp only [Act.put, List.setIfInBounds_toArray, List.set_cons_zero, List.set_cons_succ]
            refine wpAnyH_ready (rs := [17]) (by kernel_rfl) (by simp) ?_
            refine AllReadyH.cons (o := ⟨some 34, _, _, _, _, _⟩) rfl (fun K hK => ?_) AllReadyH.nil
            rw [if_pos (by rfl)]
            have x79 := o78.text (P := Try.prog) 32 9 5 Try.underlying32 Try.underlying5 Try.underlying9
            rw [E3.out] at x79
            go_simp
            clear x79
            refine hK.out _ _ S78 (fun h79 => ?_)
            clear h78 hK K
            try simp only [Act.put, List.setIfInBounds_toArray, List.set_cons_zero, List.set_cons_succ]
            refine wpAnyH_take (i := 18) (oi := ⟨some 35, _, _, _, _, _⟩) (v := ?_) rfl (by kernel_rfl) (by kernel_rfl) (by kernel_rfl) (fun _ _ _ h => h) (Or.inl ⟨by rfl, ?_⟩) (by assumption) ?_
            rotate_left 1
            · (intro W hSw; go_simp <;> with_reducible rfl)
            try simp only [Act.put, List.setIfInBounds_toArray, List.set_cons_zero, List.set_cons_succ]
            refine wpAnyH_take (i := 23) (oi := ⟨some 40, _, _, _, _, _⟩) (v := ?_) rfl (by kernel_rfl) (by kernel_rfl) (by kernel_rfl) (fun _ _ _ h => h) (Or.inl ⟨by rfl, ?_⟩) (by assumption) ?_
            rotate_left 1
            · (intro W hSw; go_simp <;> with_reducible rfl)
            try simp only [Act.put, List.setIfInBounds_toArray, List.set_cons_zero, List.set_cons_succ]
            refine wpAnyH_take (i := 24) (oi := ⟨some 41, _, _, _, _, _⟩) (v := ?_) rfl (by kernel_rfl) (by kernel_rfl) (by kernel_rfl) (fun _ _ _ h => h) (Or.inl ⟨by rfl, ?_⟩) (by assumption) ?_
            rotate_left 1
            · (intro W hSw; go_simp <;> with_reducible rfl)
            try simp only [Act.put, List.setIfInBounds_toArray, List.set_cons_zero, List.set_cons_succ]
            refine wpAnyH_take (i := 25) (oi := ⟨some 6, _, _, _, _, _⟩) (v := ?_) rfl (by kernel_rfl) (by kernel_rfl) (by kernel_rfl) (fun _ _ _ h => h) (Or.inl ⟨by rfl, ?_⟩) (by assumption) ?_
            rotate_left 1
            · (intro W hSw; go_simp <;> with_reducible rfl)
            try simp only [Act.put, List.setIfInBounds_toArray, List.set_cons_zero, List.set_cons_succ]
            refine wpAnyH_done (by kernel_rfl) ?_ _
            refine NoPanic.normal ?_
            go_wp2
            go_ret
            have kz := kk_78
            first | exact ⟨rfl, kz⟩ | (rw [f1] at kz; exact ⟨rfl, kz⟩)
          · go_simp
            refine (cput_any (q1.at_ e) (d1.at_ e) bq1 w76 h3_76 HF3.out).mono ?_
            rintro e w80 ⟨A80, n80, c80, rfl, o80, hb80⟩
            have kk_80 := kk_76.trans (hb80.mono kk_76.size)
            have h1_80 := h1_76.on hb80
            have h2_80 := h2_76.on hb80
            have h3_80 := h3_76.on hb80
            have oa_80 := oa_76.on hb80
            have ob_80 := ob_76.on hb80
            have oc_80 := o76.on hb80
            have S80 : (fun W => Kept (fun g => False) wd W) w80 := Kept.next S76 (kept_below (fun _ => False) hb80) (fun _ h => h.elim)
            refine hK.out _ _ S80 (fun h80 => ?_)
            clear h76 hK K
            try simp only [Act.put, List.setIfInBounds_toArray, List.set_cons_zero, List.set_cons_succ]
            refine wpAnyH_ready (rs := [14, 17]) (by kernel_rfl) (by simp) ?_
            refine AllReadyH.cons (o := ⟨some 31, _, _, _, _, _⟩) rfl (fun K hK => ?_) (AllReadyH.cons (o := ⟨some 34, _, _, _, _, _⟩) rfl (fun K hK => ?_) AllReadyH.nil)
            · rw [if_pos (by rfl)]
              have x81 := oc_80.text (P := Try.prog) 32 9 5 Try.underlying32 Try.underlying5 Try.underlying9
              rw [E1.out] at x81
              go_simp
              clear x81
              refine hK.out _ _ S80 (fun h81 => ?_)
              clear h80 hK K
              try simp only [Act.put, List.setIfInBounds_toArray, List.set_cons_zero, List.set_cons_succ]
              refine wpAnyH_ready (rs := [17]) (by kernel_rfl) (by simp) ?_
              refine AllReadyH.cons (o := ⟨some 34, _, _, _, _, _⟩) rfl (fun K hK => ?_) AllReadyH.nil
              rw [if_pos (by rfl)]
              have x82 := o80.text (P := Try.prog) 32 9 5 Try.underlying32 Try.underlying5 Try.underlying9
              rw [E3.out] at x82
              go_simp
              clear x82
              refine hK.out _ _ S80 (fun h82 => ?_)
              clear h81 hK K
              try simp only [Act.put, List.setIfInBounds_toArray, List.set_cons_zero, List.set_cons_succ]
              refine wpAnyH_take (i := 18) (oi := ⟨some 35, _, _, _, _, _⟩) (v := ?_) rfl (by kernel_rfl) (by kernel_rfl) (by kernel_rfl) (fun _ _ _ h => h) (Or.inl ⟨by rfl, ?_⟩) (by assumption) ?_
              rotate_left 1
              · (intro W hSw; go_simp <;> with_reducible rfl)
              try simp only [Act.put, List.setIfInBounds_toArray, List.set_cons_zero, List.set_cons_succ]
              refine wpAnyH_take (i := 23) (oi := ⟨some 40, _, _, _, _, _⟩) (v := ?_) rfl (by kernel_rfl) (by kernel_rfl) (by kernel_rfl) (fun _ _ _ h => h) (Or.inl ⟨by rfl, ?_⟩) (by assumption) ?_
              rotate_left 1
              · (intro W hSw; go_simp <;> with_reducible rfl)
              try simp only [Act.put, List.setIfInBounds_toArray, List.set_cons_zero, List.set_cons_succ]
              refine wpAnyH_take (i := 24) (oi := ⟨some 41, _, _, _, _, _⟩) (v := ?_) rfl (by kernel_rfl) (by kernel_rfl) (by kernel_rfl) (fun _ _ _ h => h) (Or.inl ⟨by rfl, ?_⟩) (by assumption) ?_
              rotate_left 1
              · (intro W hSw; go_simp <;> with_reducible rfl)
              try simp only [Act.put, List.setIfInBounds_toArray, List.set_cons_zero, List.set_cons_succ]
              refine wpAnyH_take (i := 25) (oi := ⟨some 6, _, _, _, _, _⟩) (v := ?_) rfl (by kernel_rfl) (by kernel_rfl) (by kernel_rfl) (fun _ _ _ h => h) (Or.inl ⟨by rfl, ?_⟩) (by assumption) ?_
              rotate_left 1
              · (intro W hSw; go_simp <;> with_reducible rfl)
              try simp only [Act.put, List.setIfInBounds_toArray, List.set_cons_zero, List.set_cons_succ]
              refine wpAnyH_done (by kernel_rfl) ?_ _
              refine NoPanic.normal ?_
              go_wp2
              go_ret
              have kz := kk_80
              first | exact ⟨rfl, kz⟩ | (rw [f1] at kz; exact ⟨rfl, kz⟩)
            · rw [if_pos (by rfl)]
              have x83 := o80.text (P := Try.prog) 32 9 5 Try.underlying32 Try.underlying5 Try.underlying9
              rw [E3.out] at x83
              go_simp
              clear x83
              refine hK.out _ _ S80 (fun h83 => ?_)
              clear h80 hK K
              try simp only [Act.put, List.setIfInBounds_toArray, List.set_cons_zero, List.set_cons_succ]
              refine wpAnyH_ready (rs := [14]) (by kernel_rfl) (by simp) ?_
              refine AllReadyH.cons (o := ⟨some 31, _, _, _, _, _⟩) rfl (fun K hK => ?_) AllReadyH.nil
              rw [if_pos (by rfl)]
              have x84 := oc_80.text (P := Try.prog) 32 9 5 Try.underlying32 Try.underlying5 Try.underlying9
              rw [E1.out] at x84
              go_simp
              clear x84
              refine hK.out _ _ S80 (fun h84 => ?_)
              clear h83 hK K
              try simp only [Act.put, List.setIfInBounds_toArray, List.set_cons_zero, List.set_cons_succ]
              refine wpAnyH_take (i := 18) (oi := ⟨some 35, _, _, _, _, _⟩) (v := ?_) rfl (by kernel_rfl) (by kernel_rfl) (by kernel_rfl) (fun _ _ _ h => h) (Or.inl ⟨by rfl, ?_⟩) (by assumption) ?_
              rotate_left 1
              · (intro W hSw; go_simp <;> with_reducible rfl)
              try simp only [Act.put, List.setIfInBounds_toArray, List.set_cons_zero, List.set_cons_succ]
              refine wpAnyH_take (i := 23) (oi := ⟨some 40, _, _, _, _, _⟩) (v := ?_) rfl (by kernel_rfl) (by kernel_rfl) (by kernel_rfl) (fun _ _ _ h => h) (Or.inl ⟨by rfl, ?_⟩) (by assumption) ?_
              rotate_left 1
              · (intro W hSw; go_simp <;> with_reducible rfl)
              try simp only [Act.put, List.setIfInBounds_toArray, List.set_cons_zero, List.set_cons_succ]
              refine wpAnyH_take (i := 24) (oi := ⟨some 41, _, _, _, _, _⟩) (v := ?_) rfl (by kernel_rfl) (by kernel_rfl) (by kernel_rfl) (fun _ _ _ h => h) (Or.inl ⟨by rfl, ?_⟩) (by assumption) ?_
              rotate_left 1
              · (intro W hSw; go_simp <;> with_reducible rfl)
              try simp only [Act.put, List.setIfInBounds_toArray, List.set_cons_zero, List.set_cons_succ]
              refine wpAnyH_take (i := 25) (oi := ⟨some 6, _, _, _, _, _⟩) (v := ?_) rfl (by kernel_rfl) (by kernel_rfl) (by kernel_rfl) (fun _ _ _ h => h) (Or.inl ⟨by rfl, ?_⟩) (by assumption) ?_
              rotate_left 1
              · (intro W hSw; go_simp <;> with_reducible rfl)
              try simp only [Act.put, List.setIfInBounds_toArray, List.set_cons_zero, List.set_cons_succ]
              refine wpAnyH_done (by kernel_rfl) ?_ _
              refine NoPanic.normal ?_
              go_wp2
              go_ret
              have kz := kk_80
              first | exact ⟨rfl, kz⟩ | (rw [f1] at kz; exact ⟨rfl, kz⟩)
        · rw [if_pos (by rfl)]
          have x85 := ob_73.text (P := Try.prog) 32 9 5 Try.underlying32 Try.underlying5 Try.underlying9
          rw [E2.out] at x85
          go_simp
          clear x85
          refine hK.out _ _ S73 (fun h85 => ?_)
          clear h73 hK K
          try simp only [Act.put, List.setIfInBounds_toArray, List.set_cons_zero, List.set_cons_succ]
          refine wpAnyH_ready (rs := [2]) (by kernel_rfl) (by simp) ?_
          refine AllReadyH.cons (o := ⟨some 19, _, _, _, _, _⟩) rfl (fun K hK => ?_) AllReadyH.nil
          rw [if_pos (by rfl)]
          have x86 := oa_73.text (P := Try.prog) 32 9 5 Try.underlying32 Try.underlying5 Try.underlying9
          rw [E1.out] at x86
          go_simp
          clear x86
          refine hK.out _ _ S73 (fun h86 => ?_)
          clear h85 hK K
          try simp only [Act.put, List.setIfInBounds_toArray, List.set_cons_zero, List.set_cons_succ]
          refine wpAnyH_take (i := 6) (oi := ⟨some 23, _, _, _, _, _⟩) (v := ?_) rfl (by kernel_rfl) (by kernel_rfl) (by kernel_rfl) (fun _ _ _ h => h) (Or.inl ⟨by rfl, ?_⟩) (by assumption) ?_
          rotate_left 1
          · (intro W hSw; go_simp <;> with_reducible rfl)
          try simp only [Act.put, List.setIfInBounds_toArray, List.set_cons_zero, List.set_cons_succ]
          refine wpAnyH_take (i := 10) (oi := ⟨some 27, _, _, _, _, _⟩) (v := ?_) rfl (by kernel_rfl) (by kernel_rfl) (by kernel_rfl) (fun _ _ _ h => h) (Or.inl ⟨by rfl, ?_⟩) (by assumption) ?_
          rotate_left 1
          · (intro W hSw; go_simp <;> with_reducible rfl)
          try simp only [Act.put, List.setIfInBounds_toArray, List.set_cons_zero, List.set_cons_succ]
          refine wpAnyH_take (i := 11) (oi := ⟨some 28, _, _, _, _, _⟩) (v := ?_) rfl (by kernel_rfl) (by kernel_rfl) (by kernel_rfl) (fun _ _ _ h => h) (Or.inl ⟨by rfl, ?_⟩) (by assumption) ?_
          rotate_left 1
          · (intro W hSw; go_simp <;> with_reducible rfl)
          try simp only [Act.put, List.setIfInBounds_toArray, List.set_cons_zero, List.set_cons_succ]
          refine wpAnyH_take (i := 12) (oi := ⟨some 29, _, _, _, _, _⟩) (v := .agg (List.toArray (q1.cs))) rfl (by kernel_rfl) (by kernel_rfl) (by kernel_rfl) (fun _ _ _ h => h) (yieldsIf_load_mid (by rfl) 29 (.tmp 3) rfl p1 (0) rfl (q1.cs) _ (fun W hW => range_blk (b1.kept hW (fun h => h))) Try.underlying29 rfl size29) (by assumption) ?_
          try simp only [Act.put, List.setIfInBounds_toArray, List.set_cons_zero, List.set_cons_succ]
          refine wpAnyH_take (i := 15) (oi := ⟨some 32, _, _, _, _, _⟩) (v := .agg (List.toArray ((q1.at_ e).cs))) rfl (by kernel_rfl) (by kernel_rfl) (by kernel_rfl) (fun _ _ _ h => h) (yieldsIf_load_mid (by rfl) 29 (.tmp 7) rfl p3 (0) rfl ((q1.at_ e).cs) _ (fun W hW => range_blk (b3.kept hW (fun h => h))) Try.underlying29 rfl size29) (by assumption) ?_
          try simp only [Act.put, List.setIfInBounds_toArray, List.set_cons_zero, List.set_cons_succ]
          refine wpAnyH_take (i := 19) (oi := ⟨some 36, _, _, _, _, _⟩) (v := ?_) rfl (by kernel_rfl) (by kernel_rfl) (by kernel_rfl) (fun _ _ _ h => h) (Or.inl ⟨by rfl, ?_⟩) (by assumption) ?_
          rotate_left 1
          · (intro W hSw; go_simp <;> with_reducible rfl)
          try simp only [Act.put, List.setIfInBounds_toArray, List.set_cons_zero, List.set_cons_succ]
          refine wpAnyH_take (i := 20) (oi := ⟨some 37, _, _, _, _, _⟩) (v := ?_) rfl (by kernel_rfl) (by kernel_rfl) (by kernel_rfl) (fun _ _ _ h => h) (Or.inl ⟨by rfl, ?_⟩) (by assumption) ?_
          rotate_left 1
          · (intro W hSw; obtain q0 := tS W hSw; go_simp <;> with_reducible rfl)
          try simp only [Act.put, List.setIfInBounds_toArray, List.set_cons_zero, List.set_cons_succ]
          refine wpAnyH_take (i := 21) (oi := ⟨some 38, _, _, _, _, _⟩) (v := ?_) rfl (by kernel_rfl) (by kernel_rfl) (by kernel_rfl) (fun _ _ _ h => h) (Or.inl ⟨by rfl, ?_⟩) (by assumption) ?_
          rotate_left 1
          · (intro W hSw; go_simp <;> with_reducible rfl)
          try simp only [Act.put, List.setIfInBounds_toArray, List.set_cons_zero, List.set_cons_succ]
          refine wpAnyH_take (i := 22) (oi := ⟨some 39, _, _, _, _, _⟩) (v := ?_) rfl (by kernel_rfl) (by kernel_rfl) (by kernel_rfl) (fun _ _ _ h => h) (Or.inl ⟨by rfl, ?_⟩) (by assumption) ?_
          rotate_left 1
          · (intro W hSw; go_simp <;> with_reducible rfl)
          try simp only [Act.put, List.setIfInBounds_toArray, List.set_cons_zero, List.set_cons_succ]
          refine wpAnyH_ready (rs := [13]) (by kernel_rfl) (by simp) ?_
          refine AllReadyH.cons (o := ⟨some 30, _, _, _, _, _⟩) rfl (fun K hK => ?_) AllReadyH.nil
          go_simp
          refine (cput_any q1 d1 bq1 w73 h1_73 HF1.out).mono ?_
          rintro e w87 ⟨A87, n87, c87, rfl, o87, hb87⟩
          have kk_87 := kk_73.trans (hb87.mono kk_73.size)
          have h1_87 := h1_73.on hb87
          have h2_87 := h2_73.on hb87
          have h3_87 := h3_73.on hb87
          have oa_87 := oa_73.on hb87
          have ob_87 := ob_73.on hb87
          have S87 : (fun W => Kept (fun g => False) wd W) w87 := Kept.next S73 (kept_below (fun _ => False) hb87) (fun _ h => h.elim)
          refine hK.out _ _ S87 (fun h87 => ?_)
          clear h86 hK K
          try simp only [Act.put, List.setIfInBounds_toArray, List.set_cons_zero, List.set_cons_succ]
          refine wpAnyH_ready (rs := [14, 16]) (by kernel_rfl) (by simp) ?_
          refine AllReadyH.cons (o := ⟨some 31, _, _, _, _, _⟩) rfl (fun K hK => ?_) (AllReadyH.cons (o := ⟨some 33, _, _, _, _, _⟩) rfl (fun K hK => ?_) AllReadyH.nil)
          · rw [if_pos (by rfl)]
            have x88 := o87.text (P := Try.prog) 32 9 5 Try.underlying32 Try.underlying5 Try.underlying9
            rw [E1.out] at x88
            go_simp
            clear x88
            refine hK.out _ _ S87 (fun h88 => ?_)
            clear h87 hK K
            try simp only [Act.put, List.setIfInBounds_toArray, List.set_cons_zero, List.set_cons_succ]
            refine wpAnyH_ready (rs := [16]) (by kernel_rfl) (by simp) ?_
            refine AllReadyH.cons (o := ⟨some 33, _, _, _, _, _⟩) rfl (fun K hK => ?_) AllReadyH.nil
            go_simp
            refine (cput_any (q1.at_ e) (d1.at_ e) bq1 w87 h3_87 HF3.out).mono ?_
            rintro e w89 ⟨A89, n89, c89, rfl, o89, hb89⟩
            have kk_89 := kk_87.trans (hb89.mono kk_87.size)
            have h1_89 := h1_87.on hb89
            have h2_89 := h2_87.on hb89
            have h3_89 := h3_87.on hb89
            have oa_89 := oa_87.on hb89
            have ob_89 := ob_87.on hb89
            have oc_89 := o87.on hb89
            have S89 : (fun W => Kept (fun g => False) wd W) w89 := Kept.next S87 (kept_below (fun _ => False) hb89) (fun _ h => h.elim)
            refine hK.out _ _ S89 (fun h89 => ?_)
            clear h88 hK K
            try simp only [Act.put, List.setIfInBounds_toArray, List.set_cons_zero, List.set_cons_succ]
            refine wpAnyH_ready (rs := [17]) (by kernel_rfl) (by simp) ?_
            refine AllReadyH.cons (o := ⟨some 34, _, _, _, _, _⟩) rfl (fun K hK => ?_) AllReadyH.nil
            rw [if_pos (by rfl)]
            have x90 := o89.text (P := Try.prog) 32 9 5 Try.underlying32 Try.underlying5 Try.underlying9
            rw [E3.out] at x90
            go_simp
            clear x90
            refine hK.out _ _ S89 (fun h90 => ?_)
            clear h89 hK K
            try simp only [Act.put, List.setIfInBounds_toArray, List.set_cons_zero, List.set_cons_succ]
            refine wpAnyH_take (i := 18) (oi := ⟨some 35, _, _, _, _, _⟩) (v := ?_) rfl (by kernel_rfl) (by kernel_rfl) (by kernel_rfl) (fun _ _ _ h => h) (Or.inl ⟨by rfl, ?_⟩) (by assumption) ?_
            rotate_left 1
            · (intro W hSw; go_simp <;> with_reducible rfl)
            try simp only [Act.put, List.setIfInBounds_toArray, List.set_cons_zero, List.set_cons_succ]
            refine wpAnyH_take (i := 23) (oi := ⟨some 40, _, _, _, _, _⟩) (v := ?_) rfl (by kernel_rfl) (by kernel_rfl) (by kernel_rfl) (fun _ _ _ h => h) (Or.inl ⟨by rfl, ?_⟩) (by assumption) ?_
            rotate_left 1
            · (intro W hSw; go_simp <;> with_reducible rfl)
            try simp only [Act.put, List.setIfInBounds_toArray, List.set_cons_zero, List.set_cons_succ]
            refine wpAnyH_take (i := 24) (oi := ⟨some 41, _, _, _, _, _⟩) (v := ?_) rfl (by kernel_rfl) (by kernel_rfl) (by kernel_rfl) (fun _ _ _ h => h) (Or.inl ⟨by rfl, ?_⟩) (by assumption) ?_
            rotate_left 1
            · (intro W hSw; go_simp <;> with_reducible rfl)
            try simp only [Act.put, List.setIfInBounds_toArray, List.set_cons_zero, List.set_cons_succ]
            refine wpAnyH_take (i := 25) (oi := ⟨some 6, _, _, _, _, _⟩) (v := ?_) rfl (by kernel_rfl) (by kernel_rfl) (by kernel_rfl) (fun _ _ _ h => h) (Or.inl ⟨by rfl, ?_⟩) (by assumption) ?_
            rotate_left 1
            · (intro W hSw; go_simp <;> with_reducible rfl)
            try simp only [Act.put, List.setIfInBounds_toArray, List.set_cons_zero, List.set_cons_succ]
            refine wpAnyH_done (by kernel_rfl) ?_ _
            refine NoPanic.normal ?_
            go_wp2
            go_ret
            have kz := kk_89
            first | exact ⟨rfl, kz⟩ | (rw [f1] at kz; exact ⟨rfl, kz⟩)
          · go_simp
            refine (cput_any (q1.at_ e) (d1.at_ e) bq1 w87 h3_87 HF3.out).mono ?_
            rintro e w91 ⟨A91, n91, c91, rfl, o91, hb91⟩
            have kk_91 := kk_87.trans (hb91.mono kk_87.size)
            have h1_91 := h1_87.on hb91
            have h2_91 := h2_87.on hb91
            have h3_91 := h3_87.on hb91
            have oa_91 := oa_87.on hb91
            have ob_91 := ob_87.on hb91
            have oc_91 := o87.on hb91
            have S91 : (fun W => Kept (fun g => False) wd W) w91 := Kept.next S87 (kept_below (fun _ => False) hb91) (fun _ h => h.elim)
            refine hK.out _ _ S91 (fun h91 => ?_)
            clear h87 hK K
            try simp only [Act.put, List.setIfInBounds_toArray, List.set_cons_zero, List.set_cons_succ]
            refine wpAnyH_ready (rs := [14, 17]) (by kernel_rfl) (by simp) ?_
            refine AllReadyH.cons (o := ⟨some 31, _, _, _, _, _⟩) rfl (fun K hK => ?_) (AllReadyH.cons (o := ⟨some 34, _, _, _, _, _⟩) rfl (fun K hK => ?_) AllReadyH.nil)
            · rw [if_pos (by rfl)]
              have x92 := oc_91.text (P := Try.prog) 32 9 5 Try.underlying32 Try.underlying5 Try.underlying9
              rw [E1.out] at x92
              go_simp
              clear x92
              refine hK.out _ _ S91 (fun h92 => ?_)
              clear h91 hK K
              try simp only [Act.put, List.setIfInBounds_toArray, List.set_cons_zero, List.set_cons_succ]
              refine wpAnyH_ready (rs := [17]) (by kernel_rfl) (by simp) ?_
              refine AllReadyH.cons (o := ⟨some 34, _, _, _, _, _⟩) rfl (fun K hK => ?_) AllReadyH.nil
              rw [if_pos (by rfl)]
              have x93 := o91.text (P := Try.prog) 32 9 5 Try.underlying32 Try.underlying5 Try.underlying9
              rw [E3.out] at x93
              go_simp
              clear x93
              refine hK.out _ _ S91 (fun h93 => ?_)
              clear h92 hK K
              try simp only [Act.put, List.setIfInBounds_toArray, List.set_cons_zero, List.set_cons_succ]
              refine wpAnyH_take (i := 18) (oi := ⟨some 35, _, _, _, _, _⟩) (v := ?_) rfl (by kernel_rfl) (by kernel_rfl) (by kernel_rfl) (fun _ _ _ h => h) (Or.inl ⟨by rfl, ?_⟩) (by assumption) ?_
              rotate_left 1
              · (intro W hSw; go_simp <;> with_reducible rfl)
              try simp only [Act.put, List.setIfInBounds_toArray, List.set_cons_zero, List.set_cons_succ]
              refine wpAnyH_take (i := 23) (oi := ⟨some 40, _, _, _, _, _⟩) (v := ?_) rfl (by kernel_rfl) (by kernel_rfl) (by kernel_rfl) (fun _ _ _ h => h) (Or.inl ⟨by rfl, ?_⟩) (by assumption) ?_
              rotate_left 1
              · (intro W hSw; go_simp <;> with_reducible rfl)
              try simp only [Act.put, List.setIfInBounds_toArray, List.set_cons_zero, List.set_cons_succ]
              refine wpAnyH_take (i := 24) (oi := ⟨some 41, _, _, _, _, _⟩) (v := ?_) rfl (by kernel_rfl) (by kernel_rfl) (by kernel_rfl) (fun _ _ _ h => h) (Or.inl ⟨by rfl, ?_⟩) (by assumption) ?_
              rotate_left 1
              · (intro W hSw; go_simp <;> with_reducible rfl)
              try simp only [Act.put, List.setIfInBounds_toArray, List.set_cons_zero, List.set_cons_succ]
              refine wpAnyH_take (i := 25) (oi := ⟨some 6, _, _, _, _, _⟩) (v := ?_) rfl (by kernel_rfl) (by kernel_rfl) (by kernel_rfl) (fun _ _ _ h => h) (Or.inl ⟨by rfl, ?_⟩) (by assumption) ?_
              rotate_left 1
              · (intro W hSw; go_simp <;> with_reducible rfl)
              try simp only [Act.put, List.setIfInBounds_toArray, List.set_cons_zero, List.set_cons_succ]
              refine wpAnyH_done (by kernel_rfl) ?_ _
              refine NoPanic.normal ?_
              go_wp2
              go_ret
              have kz := kk_91
              first | exact ⟨rfl, kz⟩ | (rw [f1] at kz; exact ⟨rfl, kz⟩)
            · rw [if_pos (by rfl)]
              have x94 := o91.text (P := Try.prog) 32 9 5 Try.underlying32 Try.underlying5 Try.underlying9
              rw [E3.out] at x94
              go_simp
              clear x94
              refine hK.out _ _ S91 (fun h94 => ?_)
              clear h91 hK K
              try simp only [Act.put, List.setIfInBounds_toArray, List.set_cons_zero, List.set_cons_succ]
              refine wpAnyH_ready (rs := [14]) (by kernel_rfl) (by simp) ?_
              refine AllReadyH.cons (o := ⟨some 31, _, _, _, _, _⟩) rfl (fun K hK => ?_) AllReadyH.nil
              rw [if_pos (by rfl)]
              have x95 := oc_91.text (P := Try.prog) 32 9 5 Try.underlying32 Try.underlying5 Try.underlying9
              rw [E1.out] at x95
              go_simp
              clear x95
              refine hK.out _ _ S91 (fun h95 => ?_)
              clear h94 hK K
              try simp only [Act.put, List.setIfInBounds_toArray, List.set_cons_zero, List.set_cons_succ]
              refine wpAnyH_take (i := 18) (oi := ⟨some 35, _, _, _, _, _⟩) (v := ?_) rfl (by kernel_rfl) (by kernel_rfl) (by kernel_rfl) (fun _ _ _ h => h) (Or.inl ⟨by rfl, ?_⟩) (by assumption) ?_
              rotate_left 1
              · (intro W hSw; go_simp <;> with_reducible rfl)
              try simp only [Act.put, List.setIfInBounds_toArray, List.set_cons_zero, List.set_cons_succ]
              refine wpAnyH_take (i := 23) (oi := ⟨some 40, _, _, _, _, _⟩) (v := ?_) rfl (by kernel_rfl) (by kernel_rfl) (by kernel_rfl) (fun _ _ _ h => h) (Or.inl ⟨by rfl, ?_⟩) (by assumption) ?_
              rotate_left 1
              · (intro W hSw; go_simp <;> with_reducible rfl)
              try simp only [Act.put, List.setIfInBounds_toArray, List.set_cons_zero, List.set_cons_succ]
              refine wpAnyH_take (i := 24) (oi := ⟨some 41, _, _, _, _, _⟩) (v := ?_) rfl (by kernel_rfl) (by kernel_rfl) (by kernel_rfl) (fun _ _ _ h => h) (Or.inl ⟨by rfl, ?_⟩) (by assumption) ?_
              rotate_left 1
              · (intro W hSw; go_simp <;> with_reducible rfl)
              try simp only [Act.put, List.setIfInBounds_toArray, List.set_cons_zero, List.set_cons_succ]
              refine wpAnyH_take (i := 25) (oi := ⟨some 6, _, _, _, _, _⟩) (v := ?_) rfl (by kernel_rfl) (by kernel_rfl) (by kernel_rfl) (fun _ _ _ h => h) (Or.inl ⟨by rfl, ?_⟩) (by assumption) ?_
              rotate_left 1
              · (intro W hSw; go_simp <;> with_reducible rfl)
              try simp only [Act.put, List.setIfInBounds_toArray, List.set_cons_zero, List.set_cons_succ]
              refine wpAnyH_done (by kernel_rfl) ?_ _
              refine NoPanic.normal ?_
              go_wp2
              go_ret
              have kz := kk_91
              first | exact ⟨rfl, kz⟩ | (rw [f1] at kz; exact ⟨rfl, kz⟩)
end Go.Proofs.Ytfmkmmmaoiepmaa
