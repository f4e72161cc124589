/- Any calls on an arena and on the lists: the walk. Conditions: none. -/
import Derived.Test.YtdilmapcjmdabaaUndone
import Derived.BigQuiet
set_option linter.unusedSimpArgs false
namespace Go.Proofs.Ytdilmapcjmdabaa
open Go.ChangeShapes Go.WideShapes Go.RowKit
/-- The lists out of the book. -/
theorem rim_of {W : World} {z : Nat} {r : Rim} {M : Int} (h : W.rangeAt z 0 (Bok.cs (r, M))) : W.rangeAt z 0 r.cs.toList := fun j v hv => by
  match j, hv with
  | 0, hv => cases hv; exact h 0 _ rfl
  | 1, hv => cases hv; exact h 1 _ rfl
theorem rim_at {W : World} {z : Nat} {r : Rim} {M : Int} (h : Blk W z 34 (r.bk M)) : W.rangeAt z 0 r.cs.toList := rim_of (bok_at h)
theorem word_at {W : World} {q : Nat} {x : Wd} (h : Blk W q 24 x.cs.toArray) : W.rangeAt q 0 x.cs := fun j v hv => by
  match j, hv with
  | 0, hv => cases hv; exact h.cell 0
  | 1, hv => cases hv; exact h.cell 1
  | 2, hv => cases hv; exact h.cell 2
theorem load_ways (s : Sta) (k f : Int) : (s.cel k = none ∧ (loadM s k f).isSome = false) ∨ (∃ cl, s.cel k = some cl ∧ decide (0 ≤ f) = false ∧ (loadM s k f).isSome = false) ∨
    (∃ cl, s.cel k = some cl ∧ decide (0 ≤ f) = true ∧ decide (f ≤ 1) = false ∧ (loadM s k f).isSome = false) ∨ (∃ cl, s.cel k = some cl ∧ decide (0 ≤ f) = true ∧ decide (f ≤ 1) = true ∧ (loadM s k f).isSome = true) := by
  unfold loadM
  cases s.cel k with
  | none => exact .inl ⟨rfl, rfl⟩
  | some cl =>
    refine .inr ?_
    by_cases h0 : f = 0
    · subst h0; exact .inr (.inr ⟨cl, rfl, rfl, rfl, rfl⟩)
    · by_cases h1 : f = 1
      · subst h1; exact .inr (.inr ⟨cl, rfl, rfl, rfl, rfl⟩)
      · by_cases h2 : 0 ≤ f
        · exact .inr (.inl ⟨cl, rfl, decide_eq_true h2, decide_eq_false (by omega), by simp [h0, h1]⟩)
        · exact .inl ⟨cl, rfl, decide_eq_false h2, by simp [h0, h1]⟩
theorem load_parts (s : Sta) (k f : Int) : loadM s k f = none ∨ (∃ cl j, s.cel k = some cl ∧ k - 1 = ((j : Nat) : Int) ∧ s.C[j]? = some cl ∧ f = 0 ∧ loadM s k f = some cl.x) ∨
    (∃ cl j, s.cel k = some cl ∧ k - 1 = ((j : Nat) : Int) ∧ s.C[j]? = some cl ∧ f = 1 ∧ loadM s k f = some cl.y) := by
  cases hc : s.cel k with
  | none => exact .inl (by unfold loadM; rw [hc])
  | some cl =>
    obtain ⟨j, h1, h2, _⟩ := cel_some hc
    by_cases h0 : f = 0
    · exact .inr (.inl ⟨cl, j, rfl, h1, h2, h0, by unfold loadM; rw [hc]; simp [h0]⟩)
    · by_cases h3 : f = 1
      · exact .inr (.inr ⟨cl, j, rfl, h1, h2, h3, by unfold loadM; rw [hc]; simp [h3]⟩)
      · exact .inl (by unfold loadM; rw [hc]; simp [h0, h3])
theorem drewN_below {w : World} {n : Nat} : Below w.heap.size w (w.drewN n) := by
  induction n with
  | zero => exact Below.refl _ _
  | succ n ih => exact ih.drew
set_option maxRecDepth 100000 in
set_option maxHeartbeats 2000000 in
theorem runs_walk (x : Int) (A : Option Addr) (n c : Nat) (O : Nat → OpR) (y : Wd) (f : Int) (w : World) (ho : IsOps w A n c O) :
    Calls Try.prog 3 #[.int .i64 x, .slice A n c, .agg y.cs.toArray, .int .i64 f] w fun e w' => e = .returned (.bool true) ∧ Below w.heap.size w w' := by
  have hn63 : (n : Int) ≤ 9223372036854775807 := by have := ho.room; have := ho.most; unfold maxLen at this; omega
  obtain ⟨bx, ebx⟩ : ∃ b, b = w.heap.size := ⟨_, rfl⟩
  obtain ⟨W0, eW0⟩ : ∃ W, W = w.alloc (.cells y.cs.toArray 24) := ⟨_, rfl⟩
  have hb0 : Below w.heap.size w W0 := by rw [eW0]; exact (Below.refl _ w).alloc (Nat.le_refl _) _
  have x0 : Blk W0 bx 24 y.cs.toArray := by rw [eW0, ebx]; exact blk_new _ _ 24 _ rfl
  have ho0 := ho.below hb0
  clear ho
  go_enter Try.func3, Try.ntmps3
  go_wp2_with fail
  rw [← eW0, ← ebx]
  clear eW0 ebx
  refine (alive_any _).mono ?_
  rintro e w1 ⟨rfl, hb1⟩
  go_wp2_with fail
  refine (new_any x w1).mono ?_
  rintro e w2 ⟨p, L, rfl, hA2, hb2, hf2⟩
  go_wp2_with fail
  refine (rnew_any x w2).mono ?_
  rintro e w3 ⟨r, rfl, hN3⟩
  have hG0 := Goes.start (hb1.trans (hb2.mono hb1.size)) hA2 (fun g hg => Nat.le_trans hb1.size (hf2 g hg)) hN3
  obtain ⟨z, ez⟩ : ∃ z, z = w3.heap.size := ⟨_, rfl⟩
  obtain ⟨W, eW⟩ : ∃ W, W = (w3.alloc (.cells #[.slice none 0 0, .slice none 0 0, .int .i64 0] 34)).setRow w3.heap.size (r.bk 0) := ⟨_, rfl⟩
  rw [← eW, ← ez] at hG0
  have hsz : r.cs.size = 2 := rfl
  go_upto_block 0 with (refine wpList_store_row rfl 34 (.tmp 10) (.tmp 23) rfl w3.heap.size (r.bk 0) rfl rfl 34 #[.slice none 0 0, .slice none 0 0, .int .i64 0] (heap_alloc_new w3 _) (sz34 r 0) rfl (one34 r 0) ?_)
  rw [← eW, ← ez]
  clear hA2 hb2 hf2 hN3 eW ez hb1 hsz
  go_cut [] (fun wr => ∃ (L : Lim) (s : Sta) (H : His) (r : Rim), Goes W0 wr p z (r.bk (H.length : Int)) L s H r)
  case first =>
    go_wp2_with fail
    go_loopw [11] (fun i wr => ∃ (k : Nat) (L : Lim) (s : Sta) (H : His) (r : Rim), i = .int .i64 k ∧ k ≤ n ∧ k ≤ 50 ∧ H.length ≤ k ∧ Goes W0 wr p z (r.bk (H.length : Int)) L s H r) (fun i _ => 50 - (intOf i).toNat)
    case atStart => exact ⟨0, L, _, [], r, rfl, Nat.zero_le _, Nat.zero_le _, Nat.le_refl _, hG0⟩
    case round =>
      clear hG0
      obtain ⟨k, L, s, H, r, rfl, hkn, hk50, hHk, hG⟩ := hrel
      by_cases hk1 : k < n
      · by_cases hk2 : k < 50
        · have hk3 : (k : Int) < 50 := by omega
          obtain ⟨g, o, rfl, hgw, hr⟩ := ho0.at_ k hk1
          have hr0 : wr.drew.rangeAt g (o + k * 8) (O k).cs := fun j v hv => (hG.below.cell hgw).trans (hr j v hv)
          have hbd : Below wr.heap.size wr wr.drew := (Below.refl _ wr).drew
          have hrun2 := fun (W : World) (hW : Below wr.heap.size wr W) => run_any (o := O k) (hG.on hW).pair (Nat.le_trans hHk (by omega))
          have hrun := hrun2 _ hbd
          have hbk : wr.drew.rangeAt z 0 (Bok.cs (r, (H.length : Int))) := bok_at (hG.on hbd).book
          go_upto_region 8 with fail
          go_cut [12, 13] (fun v b wx => ∃ (L : Lim) (s : Sta) (H : His) (r : Rim) (q : Nat) (r0 : Rim) (M0 : Int), v = .pointer (some ⟨q, 0, none⟩) ∧ b = .bool true ∧ H.length ≤ k + 1 ∧ Goes W0 wx p z (r0.bk M0) L s H r ∧ Blk wx q 34 (r.bk (H.length : Int)))
          case first =>
            go_wp2_with fail
            refine wp_region_noPanic ?_
            refine wp_region_held_drew (S := fun W => W.rangeAt g (o + k * 8) (O k).cs ∧ W.rangeAt z 0 (Bok.cs (r, (H.length : Int)))) (by kernel_rfl) ⟨hr0, hbk⟩ (fun hHeld => ?_)
            refine wpAnyH_take (i := 0) (oi := ⟨some 35, _, _, _, _, _⟩) (v := ?_) rfl (by kernel_rfl) (by kernel_rfl) (by kernel_rfl) (fun _ _ _ h => h) (Or.inl ⟨by rfl, ?_⟩) (by assumption) ?_
            rotate_left 1
            · (intro W hSw; go_simp <;> with_reducible rfl)
            try simp only [Act.put, List.setIfInBounds_toArray, List.set_cons_zero, List.set_cons_succ]
            refine wpAnyH_take (i := 2) (oi := ⟨some 37, _, _, _, _, _⟩) (v := ?_) rfl (by kernel_rfl) (by kernel_rfl) (by kernel_rfl) (fun _ _ _ h => h) (Or.inl ⟨by rfl, ?_⟩) (by assumption) ?_
            rotate_left 1
            · (intro W hSw; go_simp <;> with_reducible rfl)
            try simp only [Act.put, List.setIfInBounds_toArray, List.set_cons_zero, List.set_cons_succ]
            refine wpAnyH_take (i := 3) (oi := ⟨some 38, _, _, _, _, _⟩) (v := ?_) rfl (by kernel_rfl) (by kernel_rfl) (by kernel_rfl) (fun _ _ _ h => h) (Or.inl ⟨by rfl, ?_⟩) (by assumption) ?_
            rotate_left 1
            · (intro W hSw; go_simp <;> with_reducible rfl)
            try simp only [Act.put, List.setIfInBounds_toArray, List.set_cons_zero, List.set_cons_succ]
            refine wpAnyH_take (i := 4) (oi := ⟨some 39, _, _, _, _, _⟩) (v := ?_) rfl (by kernel_rfl) (by kernel_rfl) (by kernel_rfl) (fun _ _ _ h => h) (Or.inl ⟨by rfl, ?_⟩) (by assumption) ?_
            rotate_left 1
            · (intro W hSw; go_simp <;> with_reducible rfl)
            try simp only [Act.put, List.setIfInBounds_toArray, List.set_cons_zero, List.set_cons_succ]
            refine wpAnyH_take (i := 5) (oi := ⟨some 40, _, _, _, _, _⟩) (v := .agg (O k).cs.toArray) rfl (by kernel_rfl) (by kernel_rfl) (by kernel_rfl) (fun _ _ _ h => h) (yieldsIf_load_mid (by rfl) 38 (.tmp 39) rfl g (o + k * 8) rfl (O k).cs _ (fun W hW => hW.1) Try.underlying38 rfl (load38 (O k))) (by assumption) ?_
            try simp only [Act.put, List.setIfInBounds_toArray, List.set_cons_zero, List.set_cons_succ]
            refine wpAnyH_take (i := 1) (oi := ⟨some 36, _, _, _, _, _⟩) (v := .agg (Bok.cs (r, (H.length : Int))).toArray) rfl (by kernel_rfl) (by kernel_rfl) (by kernel_rfl) (fun _ _ _ h => h) (yieldsIf_load_mid (by rfl) 34 (.tmp 10) rfl z 0 rfl (Bok.cs (r, (H.length : Int))) _ (fun W hW => hW.2) Try.underlying34 rfl size34) (by assumption) ?_
            try simp only [Act.put, List.setIfInBounds_toArray, List.set_cons_zero, List.set_cons_succ]
            refine wpAnyH_ready (rs := [6, 10]) (by kernel_rfl) (by simp) ?_
            refine AllReadyH.cons rfl (fun K hK => ?_) (AllReadyH.cons rfl (fun K hK => ?_) AllReadyH.nil)
            · go_simp
              refine hrun.mono ?_
              rintro e w4 hRan
              obtain ⟨r4, L4, rfl, hT4⟩ := hG.ran hbd hRan (can_mov hG.pair.inv)
              obtain ⟨hG4, hQ4⟩ := hT4.behind ((His.go H s (movO s (O k))).length : Int)
              have hB4 : Blk (w4.alloc (.cells #[.slice none 0 0, .slice none 0 0, .int .i64 0] 34)) w4.heap.size 34 #[.slice none 0 0, .slice none 0 0, .int .i64 0] := heap_alloc_new w4 _
              have hb4 : Below w4.heap.size w4 (w4.alloc (.cells #[.slice none 0 0, .slice none 0 0, .int .i64 0] 34)) := (Below.refl _ _).alloc (Nat.le_refl _) _
              refine hK.out _ _ ⟨fun j v hv => (hT4.goes.below.cell hgw).trans (hr j v hv), bok_at hT4.goes.book⟩ (fun hHeld1 => ?_)
              clear hHeld hK K hRan hrun hrun2
              try simp only [Act.put, List.setIfInBounds_toArray, List.set_cons_zero, List.set_cons_succ]
              refine wpAnyH_take (i := 7) (oi := ⟨some 34, _, _, _, _, _⟩) (v := ?_) rfl (by kernel_rfl) (by kernel_rfl) (by kernel_rfl) (fun _ _ _ h => h) (Or.inl ⟨by rfl, ?_⟩) (by assumption) ?_
              rotate_left 1
              · (intro W hSw; go_simp <;> with_reducible rfl)
              try simp only [Act.put, List.setIfInBounds_toArray, List.set_cons_zero, List.set_cons_succ]
              refine wpAnyH_take (i := 8) (oi := ⟨some 42, _, _, _, _, _⟩) (v := ?_) rfl (by kernel_rfl) (by kernel_rfl) (by kernel_rfl) (fun _ _ _ h => h) (Or.inl ⟨by rfl, ?_⟩) (by assumption) ?_
              rotate_left 1
              · (intro W hSw; go_simp <;> with_reducible rfl)
              try simp only [Act.put, List.setIfInBounds_toArray, List.set_cons_zero, List.set_cons_succ]
              refine wpAnyH_take (i := 9) (oi := ⟨some 43, _, _, _, _, _⟩) (v := ?_) rfl (by kernel_rfl) (by kernel_rfl) (by kernel_rfl) (fun _ _ _ h => h) (Or.inl ⟨by rfl, ?_⟩) (by assumption) ?_
              rotate_left 1
              · (intro W hSw; go_simp <;> with_reducible rfl)
              try simp only [Act.put, List.setIfInBounds_toArray, List.set_cons_zero, List.set_cons_succ]
              refine wpAnyH_ready (rs := [10]) (by kernel_rfl) (by simp) ?_
              refine AllReadyH.cons rfl (fun K hK => ?_) AllReadyH.nil
              go_simp
              refine hK.out _ _ ⟨fun j v hv => ((hT4.goes.on hb4).below.cell hgw).trans (hr j v hv), bok_at (hT4.goes.on hb4).book⟩ (fun hHeld2 => ?_)
              clear hHeld1 hK K
              try simp only [Act.put, List.setIfInBounds_toArray, List.set_cons_zero, List.set_cons_succ]
              refine wpAnyH_ready (rs := [11]) (by kernel_rfl) (by simp) ?_
              refine AllReadyH.cons rfl (fun K hK => ?_) AllReadyH.nil
              rw [if_pos (by rfl)]
              refine wp_store_row 34 (.tmp 12) (.tmp 42) rfl w4.heap.size (r4.bk ((His.go H s (movO s (O k))).length : Int)) rfl rfl 34 _ hB4 (sz34 r4 _) rfl (one34 r4 _) ?_
              refine hK.out _ _ ⟨fun j v hv => (hG4.below.cell hgw).trans (hr j v hv), bok_at hG4.book⟩ (fun hHeld3 => ?_)
              clear hHeld2 hK K
              try simp only [Act.put, List.setIfInBounds_toArray, List.set_cons_zero, List.set_cons_succ]
              refine wpAnyH_take (i := 12) (oi := ⟨some 13, _, _, _, _, _⟩) (v := ?_) rfl (by kernel_rfl) (by kernel_rfl) (by kernel_rfl) (fun _ _ _ h => h) (Or.inl ⟨by rfl, ?_⟩) (by assumption) ?_
              rotate_left 1
              · (intro W hSw; go_simp <;> with_reducible rfl)
              try simp only [Act.put, List.setIfInBounds_toArray, List.set_cons_zero, List.set_cons_succ]
              refine wpAnyH_done (by kernel_rfl) ?_ _
              refine NoPanic.normal ?_
              obtain ⟨q6, eq6⟩ : ∃ q, q = w4.heap.size := ⟨_, rfl⟩
              obtain ⟨w6, ew6⟩ : ∃ W, W = (w4.alloc (.cells #[.slice none 0 0, .slice none 0 0, .int .i64 0] 34)).setRow w4.heap.size (r4.bk ((His.go H s (movO s (O k))).length : Int)) := ⟨_, rfl⟩
              rw [← ew6] at hG4
              rw [← ew6, ← eq6] at hQ4
              show Exit.then _ _ _ _ ((w4.alloc (.cells #[.slice none 0 0, .slice none 0 0, .int .i64 0] 34)).setRow w4.heap.size (r4.bk ((His.go H s (movO s (O k))).length : Int)))
              rw [← ew6, ← eq6]
              clear hHeld3 hr0 hbk hr hT4 hbd hB4 hb4 ew6 eq6
              go_wp2
              go_meet
              exact ⟨L4, _, _, r4, q6, _, _, rfl, rfl, go_most _ _ _ _ hHk, hG4, hQ4⟩
            · go_simp
              obtain ⟨W5, eW6⟩ : ∃ W, W = (wr.alloc (.cells #[.slice none 0 0, .slice none 0 0, .int .i64 0] 34)).drew := ⟨_, rfl⟩
              have eW5 : W5 = wr.drew.alloc (.cells #[.slice none 0 0, .slice none 0 0, .int .i64 0] 34) := eW6
              have hb5 : Below wr.heap.size wr W5 := by rw [eW5]; exact hbd.alloc (Nat.le_refl _) _
              have hrun3 := hrun2 W5 hb5
              refine hK.out _ _ ⟨fun j v hv => by rw [← eW6]; exact ((hG.on hb5).below.cell hgw).trans (hr j v hv), by rw [← eW6]; exact bok_at (hG.on hb5).book⟩ (fun hHeld1 => ?_)
              rw [← eW6]
              have E5 := Lib.hid eW5
              clear hHeld hK K hrun hrun2 eW5 eW6
              try simp only [Act.put, List.setIfInBounds_toArray, List.set_cons_zero, List.set_cons_succ]
              refine wpAnyH_ready (rs := [6]) (by kernel_rfl) (by simp) ?_
              refine AllReadyH.cons rfl (fun K hK => ?_) AllReadyH.nil
              go_simp
              refine hrun3.mono ?_
              rintro e w4 hRan
              have hk4 := ran_kept hRan
              rw [E5.out] at hRan hk4 hb5
              obtain ⟨r4, L4, rfl, hT4⟩ := hG.ran hb5 hRan (can_mov hG.pair.inv)
              obtain ⟨hB4, hG4, hQ4⟩ := hT4.ahead hG hbd hk4 ((His.go H s (movO s (O k))).length : Int)
              refine hK.out _ _ ⟨fun j v hv => (hT4.goes.below.cell hgw).trans (hr j v hv), bok_at hT4.goes.book⟩ (fun hHeld2 => ?_)
              clear hHeld1 hK K hRan hrun3 hk4
              try simp only [Act.put, List.setIfInBounds_toArray, List.set_cons_zero, List.set_cons_succ]
              refine wpAnyH_take (i := 7) (oi := ⟨some 34, _, _, _, _, _⟩) (v := ?_) rfl (by kernel_rfl) (by kernel_rfl) (by kernel_rfl) (fun _ _ _ h => h) (Or.inl ⟨by rfl, ?_⟩) (by assumption) ?_
              rotate_left 1
              · (intro W hSw; go_simp <;> with_reducible rfl)
              try simp only [Act.put, List.setIfInBounds_toArray, List.set_cons_zero, List.set_cons_succ]
              refine wpAnyH_take (i := 8) (oi := ⟨some 42, _, _, _, _, _⟩) (v := ?_) rfl (by kernel_rfl) (by kernel_rfl) (by kernel_rfl) (fun _ _ _ h => h) (Or.inl ⟨by rfl, ?_⟩) (by assumption) ?_
              rotate_left 1
              · (intro W hSw; go_simp <;> with_reducible rfl)
              try simp only [Act.put, List.setIfInBounds_toArray, List.set_cons_zero, List.set_cons_succ]
              refine wpAnyH_take (i := 9) (oi := ⟨some 43, _, _, _, _, _⟩) (v := ?_) rfl (by kernel_rfl) (by kernel_rfl) (by kernel_rfl) (fun _ _ _ h => h) (Or.inl ⟨by rfl, ?_⟩) (by assumption) ?_
              rotate_left 1
              · (intro W hSw; go_simp <;> with_reducible rfl)
              try simp only [Act.put, List.setIfInBounds_toArray, List.set_cons_zero, List.set_cons_succ]
              refine wpAnyH_ready (rs := [11]) (by kernel_rfl) (by simp) ?_
              refine AllReadyH.cons rfl (fun K hK => ?_) AllReadyH.nil
              rw [if_pos (by rfl)]
              refine wp_store_row 34 (.tmp 12) (.tmp 42) rfl wr.drew.heap.size (r4.bk ((His.go H s (movO s (O k))).length : Int)) rfl rfl 34 _ hB4 (sz34 r4 _) rfl (one34 r4 _) ?_
              refine hK.out _ _ ⟨fun j v hv => (hG4.below.cell hgw).trans (hr j v hv), bok_at hG4.book⟩ (fun hHeld3 => ?_)
              clear hHeld2 hK K
              try simp only [Act.put, List.setIfInBounds_toArray, List.set_cons_zero, List.set_cons_succ]
              refine wpAnyH_take (i := 12) (oi := ⟨some 13, _, _, _, _, _⟩) (v := ?_) rfl (by kernel_rfl) (by kernel_rfl) (by kernel_rfl) (fun _ _ _ h => h) (Or.inl ⟨by rfl, ?_⟩) (by assumption) ?_
              rotate_left 1
              · (intro W hSw; go_simp <;> with_reducible rfl)
              try simp only [Act.put, List.setIfInBounds_toArray, List.set_cons_zero, List.set_cons_succ]
              refine wpAnyH_done (by kernel_rfl) ?_ _
              refine NoPanic.normal ?_
              obtain ⟨q6, eq6⟩ : ∃ q, q = wr.drew.heap.size := ⟨_, rfl⟩
              obtain ⟨w6, ew6⟩ : ∃ W, W = w4.setRow wr.drew.heap.size (r4.bk ((His.go H s (movO s (O k))).length : Int)) := ⟨_, rfl⟩
              rw [← ew6] at hG4
              rw [← ew6, ← eq6] at hQ4
              show Exit.then _ _ _ _ (w4.setRow wr.drew.heap.size (r4.bk ((His.go H s (movO s (O k))).length : Int)))
              have eq7 : wr.heap.size = q6 := eq6.symm
              rw [← ew6]
              simp only [eq7]
              clear hHeld3 hr0 hbk hr hT4 hbd hb5 hB4 ew6 eq6 eq7 E5
              go_wp2
              go_meet
              exact ⟨L4, _, _, r4, q6, _, _, rfl, rfl, go_most _ _ _ _ hHk, hG4, hQ4⟩
          case rest =>
            clear hr0 hbd hrun2 hrun hbk hG
            obtain ⟨L4, s4, H4, r4, q6, r0, M0, rfl, rfl, hH4, hG4, hQ4⟩ := hcut
            have hP4 := hG4.put (r4.bk (H4.length : Int))
            have hbo := hG4.book
            obtain ⟨w5, ew5⟩ : ∃ W, W = wc.setRow z (r4.bk (H4.length : Int)) := ⟨_, rfl⟩
            rw [← ew5] at hP4
            clear hG4
            have q0 := hP4.cell0
            have q1 := hP4.cell1
            have q2 := hP4.cell2
            have ht := hP4.told
            go_wp2_with (first
              | (refine wpList_load_row rfl 34 (.tmp 12) rfl q6 rfl 34 (r4.bk (H4.length : Int)) (0, 0) _ hQ4 Try.underlying34 rfl (sz34 r4 _) ?_)
              | (refine wpList_store_row rfl 34 (.tmp 10) (.tmp 44) rfl z (r4.bk (H4.length : Int)) rfl rfl 34 _ hbo (sz34 r4 _) rfl (one34 r4 _) ?_
                 show wpList _ _ _ _ _ (wc.setRow z (r4.bk (H4.length : Int)))
                 rw [← ew5]
                 clear ew5 hbo))
            refine ht.mono ?_
            rintro e w6 ⟨rfl, hb6⟩
            have hG6 := hP4.on hb6
            clear q0 q1 q2 ht hQ4 hP4
            have hl := load_any (O k).c f hG6.pair.ara hG6.pair.inv
            have c1 : w6.cell? ⟨g, o + k * 8 + 1, none⟩ = some (.int .i64 (O k).c) := (hG6.below.cell hgw).trans (hr 1 _ rfl)
            go_upto_region 12 with fail
            go_cut [14, 15] (fun v0 b0 wx => ∃ (q : Nat) (b : Bool) (v : Wd), v0 = .pointer (some ⟨q, 0, none⟩) ∧ b0 = .bool b ∧ (b = (loadM s4 (O k).c f).isSome ∧ v = (loadM s4 (O k).c f).getD noW) ∧ Goes W0 wx p z (r4.bk (H4.length : Int)) L4 s4 H4 r4 ∧ Blk wx q 24 v.cs.toArray)
            case first =>
              cases hm : loadM s4 (O k).c f with
              | none =>
                rw [hm] at hl
                have hl2 : Calls Try.prog 13 #[.pointer (some ⟨p, 0, none⟩), .int .i64 (O k).c, .int .i64 f] w6 fun e w' => e = .returned (.tuple #[.agg #[.int .i64 0, .int .i64 0, .int .i64 0], .bool false]) ∧ Below w6.heap.size w6 w' := hl
                have HM := Lib.hid hm
                clear hl hm
                go_wp2_with fail
                refine hl2.mono ?_
                rintro e w7 ⟨rfl, hb7⟩
                have hB7 : Blk (w7.alloc (.cells #[.int .i64 0, .int .i64 0, .int .i64 0] 24)) w7.heap.size 24 #[.int .i64 0, .int .i64 0, .int .i64 0] := heap_alloc_new w7 _
                obtain ⟨w8, ew8⟩ : ∃ W, W = (w7.alloc (.cells #[.int .i64 0, .int .i64 0, .int .i64 0] 24)).setRow w7.heap.size noW.cs.toArray := ⟨_, rfl⟩
                have hb8 : Below w7.heap.size w7 w8 := by rw [ew8]; exact below_setRow ((Below.refl _ w7).alloc (Nat.le_refl _) _) (Nat.le_refl _) _
                have hQ8 : Blk w8 w7.heap.size 24 noW.cs.toArray := by rw [ew8]; exact setRow_heap _ _ _ _ _ _ hB7
                have hG8 := (hG6.on hb7).on hb8
                clear hl2 hb7 hb8
                go_wp2_with (refine wpList_store_row rfl 24 (.tmp 14) (.tmp 65) rfl w7.heap.size noW.cs.toArray rfl rfl 24 #[.int .i64 0, .int .i64 0, .int .i64 0] hB7 size24 rfl (by simp [Value.oneCell', Wd.cs, noW]) ?_
                             show wpList _ _ _ _ _ ((w7.alloc (.cells #[.int .i64 0, .int .i64 0, .int .i64 0] 24)).setRow w7.heap.size noW.cs.toArray)
                             rw [← ew8]
                             clear ew8 hB7)
                go_meet
                exact ⟨_, _, _, rfl, rfl, by rw [HM.out]; exact ⟨rfl, rfl⟩, hG8, hQ8⟩
              | some v =>
                rw [hm] at hl
                have hl2 : Calls Try.prog 13 #[.pointer (some ⟨p, 0, none⟩), .int .i64 (O k).c, .int .i64 f] w6 fun e w' => e = .returned (.tuple #[.agg v.cs.toArray, .bool true]) ∧ Below w6.heap.size w6 w' := hl
                have HM := Lib.hid hm
                clear hl hm
                go_wp2_with fail
                refine hl2.mono ?_
                rintro e w7 ⟨rfl, hb7⟩
                have hB7 : Blk (w7.alloc (.cells #[.int .i64 0, .int .i64 0, .int .i64 0] 24)) w7.heap.size 24 #[.int .i64 0, .int .i64 0, .int .i64 0] := heap_alloc_new w7 _
                obtain ⟨w8, ew8⟩ : ∃ W, W = (w7.alloc (.cells #[.int .i64 0, .int .i64 0, .int .i64 0] 24)).setRow w7.heap.size v.cs.toArray := ⟨_, rfl⟩
                have hb8 : Below w7.heap.size w7 w8 := by rw [ew8]; exact below_setRow ((Below.refl _ w7).alloc (Nat.le_refl _) _) (Nat.le_refl _) _
                have hQ8 : Blk w8 w7.heap.size 24 v.cs.toArray := by rw [ew8]; exact setRow_heap _ _ _ _ _ _ hB7
                have hG8 := (hG6.on hb7).on hb8
                clear hl2 hb7 hb8
                go_wp2_with (refine wpList_store_row rfl 24 (.tmp 14) (.tmp 65) rfl w7.heap.size v.cs.toArray rfl rfl 24 #[.int .i64 0, .int .i64 0, .int .i64 0] hB7 size24 rfl (by simp [Value.oneCell', Wd.cs, noW]) ?_
                             show wpList _ _ _ _ _ ((w7.alloc (.cells #[.int .i64 0, .int .i64 0, .int .i64 0] 24)).setRow w7.heap.size v.cs.toArray)
                             rw [← ew8]
                             clear ew8 hB7)
                go_meet
                exact ⟨_, _, _, rfl, rfl, by rw [HM.out]; exact ⟨rfl, rfl⟩, hG8, hQ8⟩
            case rest =>
              clear hl hG6 c1
              obtain ⟨q7, b7, v7, rfl, rfl, hbv, hG8, hQ8⟩ := hcut
              have HS := Lib.hid hbv
              clear hbv
              have c1 : wc.cell? ⟨g, o + k * 8 + 1, none⟩ = some (.int .i64 (O k).c) := (hG8.below.cell hgw).trans (hr 1 _ rfl)
              go_upto_region 13 with fail
              go_cut [16] (fun b wx => b = .bool b7 ∧ Goes W0 wx p z (r4.bk (H4.length : Int)) L4 s4 H4 r4 ∧ Blk wx q7 24 v7.cs.toArray)
              case first =>
                have hbd : Below wc.heap.size wc wc.drew := (Below.refl _ wc).drew
                have hG9 := hG8.on hbd
                have hQ9 := hQ8.on hbd
                have hz9 := rim_at hG9.book
                have c9 : wc.drew.cell? ⟨g, o + k * 8 + 1, none⟩ = some (.int .i64 (O k).c) := c1
                have hth := there_any r4 (O k).c wc.drew
                have hways := load_ways s4 (O k).c f
                clear hG8 hQ8 hbd c1
                rcases hways with ⟨hc, hm⟩ | ⟨cl, hc, t0, hm⟩ | ⟨cl, hc, t0, t1, hm⟩ | ⟨cl, hc, t0, t1, hm⟩
                · obtain rfl : b7 = _ := HS.out.1.trans hm
                  rw [rhas_none hG9.pair.ref hc] at hth
                  clear hc hm
                  go_wp2_with fail
                  refine wp_region_noPanic ?_
                  refine wp_region_held_drew (S := fun W => W.rangeAt z 0 r4.cs.toList ∧ W.cell? ⟨g, o + k * 8 + 1, none⟩ = some (.int .i64 (O k).c)) (by kernel_rfl) ⟨hz9, c9⟩ (fun hHeld => ?_)
                  refine wpAnyH_take (i := 0) (oi := ⟨some 67, _, _, _, _, _⟩) (v := ?_) rfl (by kernel_rfl) (by kernel_rfl) (by kernel_rfl) (fun _ _ _ h => h) (Or.inl ⟨by rfl, ?_⟩) (by assumption) ?_
                  rotate_left 1
                  · (intro W hSw; go_simp <;> with_reducible rfl)
                  try simp only [Act.put, List.setIfInBounds_toArray, List.set_cons_zero, List.set_cons_succ]
                  refine wpAnyH_take (i := 1) (oi := ⟨some 68, _, _, _, _, _⟩) (v := .agg r4.cs.toList.toArray) rfl (by kernel_rfl) (by kernel_rfl) (by kernel_rfl) (fun _ _ _ h => h) (yieldsIf_load_mid (by rfl) 31 (.tmp 67) rfl z 0 rfl r4.cs.toList _ (fun W hW => hW.1) Try.underlying31 rfl size31) (by assumption) ?_
                  try simp only [Act.put, List.setIfInBounds_toArray, List.set_cons_zero, List.set_cons_succ]
                  refine wpAnyH_take (i := 2) (oi := ⟨some 69, _, _, _, _, _⟩) (v := ?_) rfl (by kernel_rfl) (by kernel_rfl) (by kernel_rfl) (fun _ _ _ h => h) (Or.inl ⟨by rfl, ?_⟩) (by assumption) ?_
                  rotate_left 1
                  · (intro W hSw; go_simp <;> with_reducible rfl)
                  try simp only [Act.put, List.setIfInBounds_toArray, List.set_cons_zero, List.set_cons_succ]
                  refine wpAnyH_take (i := 3) (oi := ⟨some 70, _, _, _, _, _⟩) (v := ?_) rfl (by kernel_rfl) (by kernel_rfl) (by kernel_rfl) (fun _ _ _ h => h) (Or.inl ⟨by rfl, ?_⟩) (by assumption) ?_
                  rotate_left 1
                  · (intro W hSw; go_simp <;> with_reducible rfl)
                  try simp only [Act.put, List.setIfInBounds_toArray, List.set_cons_zero, List.set_cons_succ]
                  refine wpAnyH_take (i := 4) (oi := ⟨some 71, _, _, _, _, _⟩) (v := ?_) rfl (by kernel_rfl) (by kernel_rfl) (by kernel_rfl) (fun _ _ _ h => h) (Or.inl ⟨by rfl, ?_⟩) (by assumption) ?_
                  rotate_left 1
                  · (intro W hSw; go_simp <;> with_reducible rfl)
                  try simp only [Act.put, List.setIfInBounds_toArray, List.set_cons_zero, List.set_cons_succ]
                  refine wpAnyH_take (i := 5) (oi := ⟨some 72, _, _, _, _, _⟩) (v := ?_) rfl (by kernel_rfl) (by kernel_rfl) (by kernel_rfl) (fun _ _ _ h => h) (Or.inl ⟨by rfl, ?_⟩) (by assumption) ?_
                  rotate_left 1
                  · (intro W hSw; go_simp <;> with_reducible rfl)
                  try simp only [Act.put, List.setIfInBounds_toArray, List.set_cons_zero, List.set_cons_succ]
                  refine wpAnyH_take (i := 6) (oi := ⟨some 73, _, _, _, _, _⟩) (v := ?_) rfl (by kernel_rfl) (by kernel_rfl) (by kernel_rfl) (fun _ _ _ h => h) (Or.inl ⟨by rfl, ?_⟩) (by assumption) ?_
                  rotate_left 1
                  · (intro W hSw; have hSw0 := hSw.2; clear hSw; go_simp <;> with_reducible rfl)
                  try simp only [Act.put, List.setIfInBounds_toArray, List.set_cons_zero, List.set_cons_succ]
                  refine wpAnyH_ready (rs := [7]) (by kernel_rfl) (by simp) ?_
                  refine AllReadyH.cons rfl (fun K hK => ?_) AllReadyH.nil
                  go_simp
                  refine hth.mono ?_
                  rintro e w9 ⟨rfl, hb9⟩
                  have hG10 := hG9.on hb9
                  have hQ10 := hQ9.on hb9
                  refine hK.out _ _ ⟨rim_at hG10.book, (hb9.cell (World.block_lt_of_cell? _ _ c9)).trans c9⟩ (fun hHeld1 => ?_)
                  clear hHeld hK K hth hG9 hQ9 hz9 c9
                  try simp only [Act.put, List.setIfInBounds_toArray, List.set_cons_zero, List.set_cons_succ]
                  refine wpAnyH_take (i := 8) (oi := ⟨some 75, _, _, _, _, _⟩) (v := ?_) rfl (by kernel_rfl) (by kernel_rfl) (by kernel_rfl) (fun _ _ _ h => h) (Or.inl ⟨by rfl, ?_⟩) (by assumption) ?_
                  rotate_left 1
                  · (intro W hSw; go_simp <;> with_reducible rfl)
                  try simp only [Act.put, List.setIfInBounds_toArray, List.set_cons_zero, List.set_cons_succ]
                  refine wpAnyH_take (i := 9) (oi := ⟨some 76, _, _, _, _, _⟩) (v := undef) rfl (by kernel_rfl) (by kernel_rfl) (by kernel_rfl) (fun _ _ _ h => h) (Or.inr ⟨by rfl, rfl⟩) (by assumption) ?_
                  try simp only [Act.put, List.setIfInBounds_toArray, List.set_cons_zero, List.set_cons_succ]
                  refine wpAnyH_take (i := 10) (oi := ⟨some 77, _, _, _, _, _⟩) (v := undef) rfl (by kernel_rfl) (by kernel_rfl) (by kernel_rfl) (fun _ _ _ h => h) (Or.inr ⟨by rfl, rfl⟩) (by assumption) ?_
                  try simp only [Act.put, List.setIfInBounds_toArray, List.set_cons_zero, List.set_cons_succ]
                  refine wpAnyH_take (i := 11) (oi := ⟨some 78, _, _, _, _, _⟩) (v := ?_) rfl (by kernel_rfl) (by kernel_rfl) (by kernel_rfl) (fun _ _ _ h => h) (Or.inl ⟨by rfl, ?_⟩) (by assumption) ?_
                  rotate_left 1
                  · (intro W hSw; go_simp <;> with_reducible rfl)
                  try simp only [Act.put, List.setIfInBounds_toArray, List.set_cons_zero, List.set_cons_succ]
                  refine wpAnyH_take (i := 12) (oi := ⟨some 79, _, _, _, _, _⟩) (v := ?_) rfl (by kernel_rfl) (by kernel_rfl) (by kernel_rfl) (fun _ _ _ h => h) (Or.inl ⟨by rfl, ?_⟩) (by assumption) ?_
                  rotate_left 1
                  · (intro W hSw; go_simp <;> with_reducible rfl)
                  try simp only [Act.put, List.setIfInBounds_toArray, List.set_cons_zero, List.set_cons_succ]
                  refine wpAnyH_take (i := 13) (oi := ⟨some 80, _, _, _, _, _⟩) (v := undef) rfl (by kernel_rfl) (by kernel_rfl) (by kernel_rfl) (fun _ _ _ h => h) (Or.inr ⟨by rfl, rfl⟩) (by assumption) ?_
                  try simp only [Act.put, List.setIfInBounds_toArray, List.set_cons_zero, List.set_cons_succ]
                  refine wpAnyH_take (i := 14) (oi := ⟨some 81, _, _, _, _, _⟩) (v := undef) rfl (by kernel_rfl) (by kernel_rfl) (by kernel_rfl) (fun _ _ _ h => h) (Or.inr ⟨by rfl, rfl⟩) (by assumption) ?_
                  try simp only [Act.put, List.setIfInBounds_toArray, List.set_cons_zero, List.set_cons_succ]
                  refine wpAnyH_take (i := 15) (oi := ⟨some 82, _, _, _, _, _⟩) (v := ?_) rfl (by kernel_rfl) (by kernel_rfl) (by kernel_rfl) (fun _ _ _ h => h) (Or.inl ⟨by rfl, ?_⟩) (by assumption) ?_
                  rotate_left 1
                  · (intro W hSw; go_simp <;> with_reducible rfl)
                  try simp only [Act.put, List.setIfInBounds_toArray, List.set_cons_zero, List.set_cons_succ]
                  refine wpAnyH_take (i := 16) (oi := ⟨some 16, _, _, _, _, _⟩) (v := ?_) rfl (by kernel_rfl) (by kernel_rfl) (by kernel_rfl) (fun _ _ _ h => h) (Or.inl ⟨by rfl, ?_⟩) (by assumption) ?_
                  rotate_left 1
                  · (intro W hSw; go_simp <;> with_reducible rfl)
                  try simp only [Act.put, List.setIfInBounds_toArray, List.set_cons_zero, List.set_cons_succ]
                  refine wpAnyH_done (by kernel_rfl) ?_ _
                  refine NoPanic.normal ?_
                  clear hHeld1
                  go_wp2
                  go_meet
                  exact ⟨rfl, hG10, hQ10⟩
                · obtain rfl : b7 = _ := HS.out.1.trans hm
                  rw [rhas_some hG9.pair.ref hc] at hth
                  clear hc hm
                  go_wp2_with fail
                  refine wp_region_noPanic ?_
                  refine wp_region_held_drew (S := fun W => W.rangeAt z 0 r4.cs.toList ∧ W.cell? ⟨g, o + k * 8 + 1, none⟩ = some (.int .i64 (O k).c)) (by kernel_rfl) ⟨hz9, c9⟩ (fun hHeld => ?_)
                  refine wpAnyH_take (i := 0) (oi := ⟨some 67, _, _, _, _, _⟩) (v := ?_) rfl (by kernel_rfl) (by kernel_rfl) (by kernel_rfl) (fun _ _ _ h => h) (Or.inl ⟨by rfl, ?_⟩) (by assumption) ?_
                  rotate_left 1
                  · (intro W hSw; go_simp <;> with_reducible rfl)
                  try simp only [Act.put, List.setIfInBounds_toArray, List.set_cons_zero, List.set_cons_succ]
                  refine wpAnyH_take (i := 1) (oi := ⟨some 68, _, _, _, _, _⟩) (v := .agg r4.cs.toList.toArray) rfl (by kernel_rfl) (by kernel_rfl) (by kernel_rfl) (fun _ _ _ h => h) (yieldsIf_load_mid (by rfl) 31 (.tmp 67) rfl z 0 rfl r4.cs.toList _ (fun W hW => hW.1) Try.underlying31 rfl size31) (by assumption) ?_
                  try simp only [Act.put, List.setIfInBounds_toArray, List.set_cons_zero, List.set_cons_succ]
                  refine wpAnyH_take (i := 2) (oi := ⟨some 69, _, _, _, _, _⟩) (v := ?_) rfl (by kernel_rfl) (by kernel_rfl) (by kernel_rfl) (fun _ _ _ h => h) (Or.inl ⟨by rfl, ?_⟩) (by assumption) ?_
                  rotate_left 1
                  · (intro W hSw; go_simp <;> with_reducible rfl)
                  try simp only [Act.put, List.setIfInBounds_toArray, List.set_cons_zero, List.set_cons_succ]
                  refine wpAnyH_take (i := 3) (oi := ⟨some 70, _, _, _, _, _⟩) (v := ?_) rfl (by kernel_rfl) (by kernel_rfl) (by kernel_rfl) (fun _ _ _ h => h) (Or.inl ⟨by rfl, ?_⟩) (by assumption) ?_
                  rotate_left 1
                  · (intro W hSw; go_simp <;> with_reducible rfl)
                  try simp only [Act.put, List.setIfInBounds_toArray, List.set_cons_zero, List.set_cons_succ]
                  refine wpAnyH_take (i := 4) (oi := ⟨some 71, _, _, _, _, _⟩) (v := ?_) rfl (by kernel_rfl) (by kernel_rfl) (by kernel_rfl) (fun _ _ _ h => h) (Or.inl ⟨by rfl, ?_⟩) (by assumption) ?_
                  rotate_left 1
                  · (intro W hSw; go_simp <;> with_reducible rfl)
                  try simp only [Act.put, List.setIfInBounds_toArray, List.set_cons_zero, List.set_cons_succ]
                  refine wpAnyH_take (i := 5) (oi := ⟨some 72, _, _, _, _, _⟩) (v := ?_) rfl (by kernel_rfl) (by kernel_rfl) (by kernel_rfl) (fun _ _ _ h => h) (Or.inl ⟨by rfl, ?_⟩) (by assumption) ?_
                  rotate_left 1
                  · (intro W hSw; go_simp <;> with_reducible rfl)
                  try simp only [Act.put, List.setIfInBounds_toArray, List.set_cons_zero, List.set_cons_succ]
                  refine wpAnyH_take (i := 6) (oi := ⟨some 73, _, _, _, _, _⟩) (v := ?_) rfl (by kernel_rfl) (by kernel_rfl) (by kernel_rfl) (fun _ _ _ h => h) (Or.inl ⟨by rfl, ?_⟩) (by assumption) ?_
                  rotate_left 1
                  · (intro W hSw; have hSw0 := hSw.2; clear hSw; go_simp <;> with_reducible rfl)
                  try simp only [Act.put, List.setIfInBounds_toArray, List.set_cons_zero, List.set_cons_succ]
                  refine wpAnyH_ready (rs := [7]) (by kernel_rfl) (by simp) ?_
                  refine AllReadyH.cons rfl (fun K hK => ?_) AllReadyH.nil
                  go_simp
                  refine hth.mono ?_
                  rintro e w9 ⟨rfl, hb9⟩
                  have hG10 := hG9.on hb9
                  have hQ10 := hQ9.on hb9
                  refine hK.out _ _ ⟨rim_at hG10.book, (hb9.cell (World.block_lt_of_cell? _ _ c9)).trans c9⟩ (fun hHeld1 => ?_)
                  clear hHeld hK K hth hG9 hQ9 hz9 c9
                  try simp only [Act.put, List.setIfInBounds_toArray, List.set_cons_zero, List.set_cons_succ]
                  refine wpAnyH_take (i := 8) (oi := ⟨some 75, _, _, _, _, _⟩) (v := ?_) rfl (by kernel_rfl) (by kernel_rfl) (by kernel_rfl) (fun _ _ _ h => h) (Or.inl ⟨by rfl, ?_⟩) (by assumption) ?_
                  rotate_left 1
                  · (intro W hSw; go_simp <;> with_reducible rfl)
                  try simp only [Act.put, List.setIfInBounds_toArray, List.set_cons_zero, List.set_cons_succ]
                  refine wpAnyH_take (i := 9) (oi := ⟨some 76, _, _, _, _, _⟩) (v := ?_) rfl (by kernel_rfl) (by kernel_rfl) (by kernel_rfl) (fun _ _ _ h => h) (Or.inl ⟨by rfl, ?_⟩) (by assumption) ?_
                  rotate_left 1
                  · (intro W hSw; go_simp <;> with_reducible rfl)
                  try simp only [Act.put, List.setIfInBounds_toArray, List.set_cons_zero, List.set_cons_succ]
                  refine wpAnyH_take (i := 10) (oi := ⟨some 77, _, _, _, _, _⟩) (v := ?_) rfl (by kernel_rfl) (by kernel_rfl) (by kernel_rfl) (fun _ _ _ h => h) (Or.inl ⟨by rfl, ?_⟩) (by assumption) ?_
                  rotate_left 1
                  · (intro W hSw; go_simp <;> with_reducible rfl)
                  try simp only [Act.put, List.setIfInBounds_toArray, List.set_cons_zero, List.set_cons_succ]
                  refine wpAnyH_take (i := 11) (oi := ⟨some 78, _, _, _, _, _⟩) (v := ?_) rfl (by kernel_rfl) (by kernel_rfl) (by kernel_rfl) (fun _ _ _ h => h) (Or.inl ⟨by rfl, ?_⟩) (by assumption) ?_
                  rotate_left 1
                  · (intro W hSw; go_simp <;> with_reducible rfl)
                  try simp only [Act.put, List.setIfInBounds_toArray, List.set_cons_zero, List.set_cons_succ]
                  refine wpAnyH_take (i := 12) (oi := ⟨some 79, _, _, _, _, _⟩) (v := ?_) rfl (by kernel_rfl) (by kernel_rfl) (by kernel_rfl) (fun _ _ _ h => h) (Or.inl ⟨by rfl, ?_⟩) (by assumption) ?_
                  rotate_left 1
                  · (intro W hSw; go_simp <;> with_reducible rfl)
                  try simp only [Act.put, List.setIfInBounds_toArray, List.set_cons_zero, List.set_cons_succ]
                  refine wpAnyH_take (i := 13) (oi := ⟨some 80, _, _, _, _, _⟩) (v := undef) rfl (by kernel_rfl) (by kernel_rfl) (by kernel_rfl) (fun _ _ _ h => h) (Or.inr ⟨by rfl, rfl⟩) (by assumption) ?_
                  try simp only [Act.put, List.setIfInBounds_toArray, List.set_cons_zero, List.set_cons_succ]
                  refine wpAnyH_take (i := 14) (oi := ⟨some 81, _, _, _, _, _⟩) (v := undef) rfl (by kernel_rfl) (by kernel_rfl) (by kernel_rfl) (fun _ _ _ h => h) (Or.inr ⟨by rfl, rfl⟩) (by assumption) ?_
                  try simp only [Act.put, List.setIfInBounds_toArray, List.set_cons_zero, List.set_cons_succ]
                  refine wpAnyH_take (i := 15) (oi := ⟨some 82, _, _, _, _, _⟩) (v := ?_) rfl (by kernel_rfl) (by kernel_rfl) (by kernel_rfl) (fun _ _ _ h => h) (Or.inl ⟨by rfl, ?_⟩) (by assumption) ?_
                  rotate_left 1
                  · (intro W hSw; go_simp <;> with_reducible rfl)
                  try simp only [Act.put, List.setIfInBounds_toArray, List.set_cons_zero, List.set_cons_succ]
                  refine wpAnyH_take (i := 16) (oi := ⟨some 16, _, _, _, _, _⟩) (v := ?_) rfl (by kernel_rfl) (by kernel_rfl) (by kernel_rfl) (fun _ _ _ h => h) (Or.inl ⟨by rfl, ?_⟩) (by assumption) ?_
                  rotate_left 1
                  · (intro W hSw; go_simp <;> with_reducible rfl)
                  try simp only [Act.put, List.setIfInBounds_toArray, List.set_cons_zero, List.set_cons_succ]
                  refine wpAnyH_done (by kernel_rfl) ?_ _
                  refine NoPanic.normal ?_
                  clear hHeld1
                  go_wp2
                  go_meet
                  exact ⟨rfl, hG10, hQ10⟩
                · obtain rfl : b7 = _ := HS.out.1.trans hm
                  rw [rhas_some hG9.pair.ref hc] at hth
                  clear hc hm
                  go_wp2_with fail
                  refine wp_region_noPanic ?_
                  refine wp_region_held_drew (S := fun W => W.rangeAt z 0 r4.cs.toList ∧ W.cell? ⟨g, o + k * 8 + 1, none⟩ = some (.int .i64 (O k).c)) (by kernel_rfl) ⟨hz9, c9⟩ (fun hHeld => ?_)
                  refine wpAnyH_take (i := 0) (oi := ⟨some 67, _, _, _, _, _⟩) (v := ?_) rfl (by kernel_rfl) (by kernel_rfl) (by kernel_rfl) (fun _ _ _ h => h) (Or.inl ⟨by rfl, ?_⟩) (by assumption) ?_
                  rotate_left 1
                  · (intro W hSw; go_simp <;> with_reducible rfl)
                  try simp only [Act.put, List.setIfInBounds_toArray, List.set_cons_zero, List.set_cons_succ]
                  refine wpAnyH_take (i := 1) (oi := ⟨some 68, _, _, _, _, _⟩) (v := .agg r4.cs.toList.toArray) rfl (by kernel_rfl) (by kernel_rfl) (by kernel_rfl) (fun _ _ _ h => h) (yieldsIf_load_mid (by rfl) 31 (.tmp 67) rfl z 0 rfl r4.cs.toList _ (fun W hW => hW.1) Try.underlying31 rfl size31) (by assumption) ?_
                  try simp only [Act.put, List.setIfInBounds_toArray, List.set_cons_zero, List.set_cons_succ]
                  refine wpAnyH_take (i := 2) (oi := ⟨some 69, _, _, _, _, _⟩) (v := ?_) rfl (by kernel_rfl) (by kernel_rfl) (by kernel_rfl) (fun _ _ _ h => h) (Or.inl ⟨by rfl, ?_⟩) (by assumption) ?_
                  rotate_left 1
                  · (intro W hSw; go_simp <;> with_reducible rfl)
                  try simp only [Act.put, List.setIfInBounds_toArray, List.set_cons_zero, List.set_cons_succ]
                  refine wpAnyH_take (i := 3) (oi := ⟨some 70, _, _, _, _, _⟩) (v := ?_) rfl (by kernel_rfl) (by kernel_rfl) (by kernel_rfl) (fun _ _ _ h => h) (Or.inl ⟨by rfl, ?_⟩) (by assumption) ?_
                  rotate_left 1
                  · (intro W hSw; go_simp <;> with_reducible rfl)
                  try simp only [Act.put, List.setIfInBounds_toArray, List.set_cons_zero, List.set_cons_succ]
                  refine wpAnyH_take (i := 4) (oi := ⟨some 71, _, _, _, _, _⟩) (v := ?_) rfl (by kernel_rfl) (by kernel_rfl) (by kernel_rfl) (fun _ _ _ h => h) (Or.inl ⟨by rfl, ?_⟩) (by assumption) ?_
                  rotate_left 1
                  · (intro W hSw; go_simp <;> with_reducible rfl)
                  try simp only [Act.put, List.setIfInBounds_toArray, List.set_cons_zero, List.set_cons_succ]
                  refine wpAnyH_take (i := 5) (oi := ⟨some 72, _, _, _, _, _⟩) (v := ?_) rfl (by kernel_rfl) (by kernel_rfl) (by kernel_rfl) (fun _ _ _ h => h) (Or.inl ⟨by rfl, ?_⟩) (by assumption) ?_
                  rotate_left 1
                  · (intro W hSw; go_simp <;> with_reducible rfl)
                  try simp only [Act.put, List.setIfInBounds_toArray, List.set_cons_zero, List.set_cons_succ]
                  refine wpAnyH_take (i := 6) (oi := ⟨some 73, _, _, _, _, _⟩) (v := ?_) rfl (by kernel_rfl) (by kernel_rfl) (by kernel_rfl) (fun _ _ _ h => h) (Or.inl ⟨by rfl, ?_⟩) (by assumption) ?_
                  rotate_left 1
                  · (intro W hSw; have hSw0 := hSw.2; clear hSw; go_simp <;> with_reducible rfl)
                  try simp only [Act.put, List.setIfInBounds_toArray, List.set_cons_zero, List.set_cons_succ]
                  refine wpAnyH_ready (rs := [7]) (by kernel_rfl) (by simp) ?_
                  refine AllReadyH.cons rfl (fun K hK => ?_) AllReadyH.nil
                  go_simp
                  refine hth.mono ?_
                  rintro e w9 ⟨rfl, hb9⟩
                  have hG10 := hG9.on hb9
                  have hQ10 := hQ9.on hb9
                  refine hK.out _ _ ⟨rim_at hG10.book, (hb9.cell (World.block_lt_of_cell? _ _ c9)).trans c9⟩ (fun hHeld1 => ?_)
                  clear hHeld hK K hth hG9 hQ9 hz9 c9
                  try simp only [Act.put, List.setIfInBounds_toArray, List.set_cons_zero, List.set_cons_succ]
                  refine wpAnyH_take (i := 8) (oi := ⟨some 75, _, _, _, _, _⟩) (v := ?_) rfl (by kernel_rfl) (by kernel_rfl) (by kernel_rfl) (fun _ _ _ h => h) (Or.inl ⟨by rfl, ?_⟩) (by assumption) ?_
                  rotate_left 1
                  · (intro W hSw; go_simp <;> with_reducible rfl)
                  try simp only [Act.put, List.setIfInBounds_toArray, List.set_cons_zero, List.set_cons_succ]
                  refine wpAnyH_take (i := 9) (oi := ⟨some 76, _, _, _, _, _⟩) (v := ?_) rfl (by kernel_rfl) (by kernel_rfl) (by kernel_rfl) (fun _ _ _ h => h) (Or.inl ⟨by rfl, ?_⟩) (by assumption) ?_
                  rotate_left 1
                  · (intro W hSw; go_simp <;> with_reducible rfl)
                  try simp only [Act.put, List.setIfInBounds_toArray, List.set_cons_zero, List.set_cons_succ]
                  refine wpAnyH_take (i := 10) (oi := ⟨some 77, _, _, _, _, _⟩) (v := ?_) rfl (by kernel_rfl) (by kernel_rfl) (by kernel_rfl) (fun _ _ _ h => h) (Or.inl ⟨by rfl, ?_⟩) (by assumption) ?_
                  rotate_left 1
                  · (intro W hSw; go_simp <;> with_reducible rfl)
                  try simp only [Act.put, List.setIfInBounds_toArray, List.set_cons_zero, List.set_cons_succ]
                  refine wpAnyH_take (i := 11) (oi := ⟨some 78, _, _, _, _, _⟩) (v := ?_) rfl (by kernel_rfl) (by kernel_rfl) (by kernel_rfl) (fun _ _ _ h => h) (Or.inl ⟨by rfl, ?_⟩) (by assumption) ?_
                  rotate_left 1
                  · (intro W hSw; go_simp <;> with_reducible rfl)
                  try simp only [Act.put, List.setIfInBounds_toArray, List.set_cons_zero, List.set_cons_succ]
                  refine wpAnyH_take (i := 12) (oi := ⟨some 79, _, _, _, _, _⟩) (v := ?_) rfl (by kernel_rfl) (by kernel_rfl) (by kernel_rfl) (fun _ _ _ h => h) (Or.inl ⟨by rfl, ?_⟩) (by assumption) ?_
                  rotate_left 1
                  · (intro W hSw; go_simp <;> with_reducible rfl)
                  try simp only [Act.put, List.setIfInBounds_toArray, List.set_cons_zero, List.set_cons_succ]
                  refine wpAnyH_take (i := 13) (oi := ⟨some 80, _, _, _, _, _⟩) (v := ?_) rfl (by kernel_rfl) (by kernel_rfl) (by kernel_rfl) (fun _ _ _ h => h) (Or.inl ⟨by rfl, ?_⟩) (by assumption) ?_
                  rotate_left 1
                  · (intro W hSw; go_simp <;> with_reducible rfl)
                  try simp only [Act.put, List.setIfInBounds_toArray, List.set_cons_zero, List.set_cons_succ]
                  refine wpAnyH_take (i := 14) (oi := ⟨some 81, _, _, _, _, _⟩) (v := ?_) rfl (by kernel_rfl) (by kernel_rfl) (by kernel_rfl) (fun _ _ _ h => h) (Or.inl ⟨by rfl, ?_⟩) (by assumption) ?_
                  rotate_left 1
                  · (intro W hSw; go_simp <;> with_reducible rfl)
                  try simp only [Act.put, List.setIfInBounds_toArray, List.set_cons_zero, List.set_cons_succ]
                  refine wpAnyH_take (i := 15) (oi := ⟨some 82, _, _, _, _, _⟩) (v := ?_) rfl (by kernel_rfl) (by kernel_rfl) (by kernel_rfl) (fun _ _ _ h => h) (Or.inl ⟨by rfl, ?_⟩) (by assumption) ?_
                  rotate_left 1
                  · (intro W hSw; go_simp <;> with_reducible rfl)
                  try simp only [Act.put, List.setIfInBounds_toArray, List.set_cons_zero, List.set_cons_succ]
                  refine wpAnyH_take (i := 16) (oi := ⟨some 16, _, _, _, _, _⟩) (v := ?_) rfl (by kernel_rfl) (by kernel_rfl) (by kernel_rfl) (fun _ _ _ h => h) (Or.inl ⟨by rfl, ?_⟩) (by assumption) ?_
                  rotate_left 1
                  · (intro W hSw; go_simp <;> with_reducible rfl)
                  try simp only [Act.put, List.setIfInBounds_toArray, List.set_cons_zero, List.set_cons_succ]
                  refine wpAnyH_done (by kernel_rfl) ?_ _
                  refine NoPanic.normal ?_
                  clear hHeld1
                  go_wp2
                  go_meet
                  exact ⟨rfl, hG10, hQ10⟩
                · obtain rfl : b7 = _ := HS.out.1.trans hm
                  rw [rhas_some hG9.pair.ref hc] at hth
                  clear hc hm
                  go_wp2_with fail
                  refine wp_region_noPanic ?_
                  refine wp_region_held_drew (S := fun W => W.rangeAt z 0 r4.cs.toList ∧ W.cell? ⟨g, o + k * 8 + 1, none⟩ = some (.int .i64 (O k).c)) (by kernel_rfl) ⟨hz9, c9⟩ (fun hHeld => ?_)
                  refine wpAnyH_take (i := 0) (oi := ⟨some 67, _, _, _, _, _⟩) (v := ?_) rfl (by kernel_rfl) (by kernel_rfl) (by kernel_rfl) (fun _ _ _ h => h) (Or.inl ⟨by rfl, ?_⟩) (by assumption) ?_
                  rotate_left 1
                  · (intro W hSw; go_simp <;> with_reducible rfl)
                  try simp only [Act.put, List.setIfInBounds_toArray, List.set_cons_zero, List.set_cons_succ]
                  refine wpAnyH_take (i := 1) (oi := ⟨some 68, _, _, _, _, _⟩) (v := .agg r4.cs.toList.toArray) rfl (by kernel_rfl) (by kernel_rfl) (by kernel_rfl) (fun _ _ _ h => h) (yieldsIf_load_mid (by rfl) 31 (.tmp 67) rfl z 0 rfl r4.cs.toList _ (fun W hW => hW.1) Try.underlying31 rfl size31) (by assumption) ?_
                  try simp only [Act.put, List.setIfInBounds_toArray, List.set_cons_zero, List.set_cons_succ]
                  refine wpAnyH_take (i := 2) (oi := ⟨some 69, _, _, _, _, _⟩) (v := ?_) rfl (by kernel_rfl) (by kernel_rfl) (by kernel_rfl) (fun _ _ _ h => h) (Or.inl ⟨by rfl, ?_⟩) (by assumption) ?_
                  rotate_left 1
                  · (intro W hSw; go_simp <;> with_reducible rfl)
                  try simp only [Act.put, List.setIfInBounds_toArray, List.set_cons_zero, List.set_cons_succ]
                  refine wpAnyH_take (i := 3) (oi := ⟨some 70, _, _, _, _, _⟩) (v := ?_) rfl (by kernel_rfl) (by kernel_rfl) (by kernel_rfl) (fun _ _ _ h => h) (Or.inl ⟨by rfl, ?_⟩) (by assumption) ?_
                  rotate_left 1
                  · (intro W hSw; go_simp <;> with_reducible rfl)
                  try simp only [Act.put, List.setIfInBounds_toArray, List.set_cons_zero, List.set_cons_succ]
                  refine wpAnyH_take (i := 4) (oi := ⟨some 71, _, _, _, _, _⟩) (v := ?_) rfl (by kernel_rfl) (by kernel_rfl) (by kernel_rfl) (fun _ _ _ h => h) (Or.inl ⟨by rfl, ?_⟩) (by assumption) ?_
                  rotate_left 1
                  · (intro W hSw; go_simp <;> with_reducible rfl)
                  try simp only [Act.put, List.setIfInBounds_toArray, List.set_cons_zero, List.set_cons_succ]
                  refine wpAnyH_take (i := 5) (oi := ⟨some 72, _, _, _, _, _⟩) (v := ?_) rfl (by kernel_rfl) (by kernel_rfl) (by kernel_rfl) (fun _ _ _ h => h) (Or.inl ⟨by rfl, ?_⟩) (by assumption) ?_
                  rotate_left 1
                  · (intro W hSw; go_simp <;> with_reducible rfl)
                  try simp only [Act.put, List.setIfInBounds_toArray, List.set_cons_zero, List.set_cons_succ]
                  refine wpAnyH_take (i := 6) (oi := ⟨some 73, _, _, _, _, _⟩) (v := ?_) rfl (by kernel_rfl) (by kernel_rfl) (by kernel_rfl) (fun _ _ _ h => h) (Or.inl ⟨by rfl, ?_⟩) (by assumption) ?_
                  rotate_left 1
                  · (intro W hSw; have hSw0 := hSw.2; clear hSw; go_simp <;> with_reducible rfl)
                  try simp only [Act.put, List.setIfInBounds_toArray, List.set_cons_zero, List.set_cons_succ]
                  refine wpAnyH_ready (rs := [7]) (by kernel_rfl) (by simp) ?_
                  refine AllReadyH.cons rfl (fun K hK => ?_) AllReadyH.nil
                  go_simp
                  refine hth.mono ?_
                  rintro e w9 ⟨rfl, hb9⟩
                  have hG10 := hG9.on hb9
                  have hQ10 := hQ9.on hb9
                  refine hK.out _ _ ⟨rim_at hG10.book, (hb9.cell (World.block_lt_of_cell? _ _ c9)).trans c9⟩ (fun hHeld1 => ?_)
                  clear hHeld hK K hth hG9 hQ9 hz9 c9
                  try simp only [Act.put, List.setIfInBounds_toArray, List.set_cons_zero, List.set_cons_succ]
                  refine wpAnyH_take (i := 8) (oi := ⟨some 75, _, _, _, _, _⟩) (v := ?_) rfl (by kernel_rfl) (by kernel_rfl) (by kernel_rfl) (fun _ _ _ h => h) (Or.inl ⟨by rfl, ?_⟩) (by assumption) ?_
                  rotate_left 1
                  · (intro W hSw; go_simp <;> with_reducible rfl)
                  try simp only [Act.put, List.setIfInBounds_toArray, List.set_cons_zero, List.set_cons_succ]
                  refine wpAnyH_take (i := 9) (oi := ⟨some 76, _, _, _, _, _⟩) (v := ?_) rfl (by kernel_rfl) (by kernel_rfl) (by kernel_rfl) (fun _ _ _ h => h) (Or.inl ⟨by rfl, ?_⟩) (by assumption) ?_
                  rotate_left 1
                  · (intro W hSw; go_simp <;> with_reducible rfl)
                  try simp only [Act.put, List.setIfInBounds_toArray, List.set_cons_zero, List.set_cons_succ]
                  refine wpAnyH_take (i := 10) (oi := ⟨some 77, _, _, _, _, _⟩) (v := ?_) rfl (by kernel_rfl) (by kernel_rfl) (by kernel_rfl) (fun _ _ _ h => h) (Or.inl ⟨by rfl, ?_⟩) (by assumption) ?_
                  rotate_left 1
                  · (intro W hSw; go_simp <;> with_reducible rfl)
                  try simp only [Act.put, List.setIfInBounds_toArray, List.set_cons_zero, List.set_cons_succ]
                  refine wpAnyH_take (i := 11) (oi := ⟨some 78, _, _, _, _, _⟩) (v := ?_) rfl (by kernel_rfl) (by kernel_rfl) (by kernel_rfl) (fun _ _ _ h => h) (Or.inl ⟨by rfl, ?_⟩) (by assumption) ?_
                  rotate_left 1
                  · (intro W hSw; go_simp <;> with_reducible rfl)
                  try simp only [Act.put, List.setIfInBounds_toArray, List.set_cons_zero, List.set_cons_succ]
                  refine wpAnyH_take (i := 12) (oi := ⟨some 79, _, _, _, _, _⟩) (v := ?_) rfl (by kernel_rfl) (by kernel_rfl) (by kernel_rfl) (fun _ _ _ h => h) (Or.inl ⟨by rfl, ?_⟩) (by assumption) ?_
                  rotate_left 1
                  · (intro W hSw; go_simp <;> with_reducible rfl)
                  try simp only [Act.put, List.setIfInBounds_toArray, List.set_cons_zero, List.set_cons_succ]
                  refine wpAnyH_take (i := 13) (oi := ⟨some 80, _, _, _, _, _⟩) (v := ?_) rfl (by kernel_rfl) (by kernel_rfl) (by kernel_rfl) (fun _ _ _ h => h) (Or.inl ⟨by rfl, ?_⟩) (by assumption) ?_
                  rotate_left 1
                  · (intro W hSw; go_simp <;> with_reducible rfl)
                  try simp only [Act.put, List.setIfInBounds_toArray, List.set_cons_zero, List.set_cons_succ]
                  refine wpAnyH_take (i := 14) (oi := ⟨some 81, _, _, _, _, _⟩) (v := ?_) rfl (by kernel_rfl) (by kernel_rfl) (by kernel_rfl) (fun _ _ _ h => h) (Or.inl ⟨by rfl, ?_⟩) (by assumption) ?_
                  rotate_left 1
                  · (intro W hSw; go_simp <;> with_reducible rfl)
                  try simp only [Act.put, List.setIfInBounds_toArray, List.set_cons_zero, List.set_cons_succ]
                  refine wpAnyH_take (i := 15) (oi := ⟨some 82, _, _, _, _, _⟩) (v := ?_) rfl (by kernel_rfl) (by kernel_rfl) (by kernel_rfl) (fun _ _ _ h => h) (Or.inl ⟨by rfl, ?_⟩) (by assumption) ?_
                  rotate_left 1
                  · (intro W hSw; go_simp <;> with_reducible rfl)
                  try simp only [Act.put, List.setIfInBounds_toArray, List.set_cons_zero, List.set_cons_succ]
                  refine wpAnyH_take (i := 16) (oi := ⟨some 16, _, _, _, _, _⟩) (v := ?_) rfl (by kernel_rfl) (by kernel_rfl) (by kernel_rfl) (fun _ _ _ h => h) (Or.inl ⟨by rfl, ?_⟩) (by assumption) ?_
                  rotate_left 1
                  · (intro W hSw; go_simp <;> with_reducible rfl)
                  try simp only [Act.put, List.setIfInBounds_toArray, List.set_cons_zero, List.set_cons_succ]
                  refine wpAnyH_done (by kernel_rfl) ?_ _
                  refine NoPanic.normal ?_
                  clear hHeld1
                  go_wp2
                  go_meet
                  exact ⟨rfl, hG10, hQ10⟩
              case rest =>
                clear hG8 hQ8 c1
                obtain ⟨rfl, hG9, hQ9⟩ := hcut
                have c1 : wc.cell? ⟨g, o + k * 8 + 1, none⟩ = some (.int .i64 (O k).c) := (hG9.below.cell hgw).trans (hr 1 _ rfl)
                go_upto_region 14 with fail
                go_cut [115] (fun b wx => b = .bool false ∧ Goes W0 wx p z (r4.bk (H4.length : Int)) L4 s4 H4 r4)
                case first =>
                  rcases load_parts s4 (O k).c f with hm | ⟨cl, j, hc, hj, hC, rfl, hm⟩ | ⟨cl, j, hc, hj, hC, rfl, hm⟩
                  · obtain rfl : b7 = false := HS.out.1.trans (by rw [hm]; rfl)
                    obtain rfl : v7 = noW := HS.out.2.trans (by rw [hm]; rfl)
                    have b0 : wc.cell? ⟨q7, 0, none⟩ = some (.int .i64 0) := hQ9.cell 0
                    have b1 : wc.cell? ⟨q7, 1, none⟩ = some (.int .i64 0) := hQ9.cell 1
                    have b2 : wc.cell? ⟨q7, 2, none⟩ = some (.int .i64 0) := hQ9.cell 2
                    clear hm hQ9 c1
                    go_wp2_with fail
                    go_quiet (fail)
                    go_wp2
                    go_meet
                    exact ⟨rfl, hG9.on drewN_below⟩
                  · obtain rfl : b7 = true := HS.out.1.trans (by rw [hm]; rfl)
                    obtain rfl : v7 = cl.x := HS.out.2.trans (by rw [hm]; rfl)
                    obtain ⟨j2, gC, hj2, hC2, hk2j, hjn, eA, ⟨cs0, hgC⟩, hrC, hw⟩ := ref_at hG9.pair.ref hc
                    have hlC := hG9.pair.ref.lenC
                    have hle := hG9.pair.inv.le
                    have hj6 : j2 < 6 := by omega
                    have hwj : IntKind.i64.wrap ((O k).c - 1) = (j2 : Int) := by rw [hj2, IntKind.wrap_i64]; omega
                    have p0 : wc.cell? ⟨z, 0, none⟩ = some (.slice (some ⟨gC, 0, none⟩) r4.n r4.cc) := by rw [← eA]; exact hG9.cell0
                    have hjn2 : (j2 : Int) < (r4.n : Int) := by omega
                    have b0 : wc.cell? ⟨q7, 0, none⟩ = some (.int .i64 cl.x.n) := hQ9.cell 0
                    have b1 : wc.cell? ⟨q7, 1, none⟩ = some (.int .i64 cl.x.c) := hQ9.cell 1
                    have b2 : wc.cell? ⟨q7, 2, none⟩ = some (.int .i64 cl.x.g) := hQ9.cell 2
                    have d0 : wc.cell? ⟨gC, j2 * 10 + 4, none⟩ = some (.int .i64 cl.x.n) := hrC 4 _ rfl
                    have d1 : wc.cell? ⟨gC, j2 * 10 + 5, none⟩ = some (.int .i64 cl.x.c) := hrC 5 _ rfl
                    have d2 : wc.cell? ⟨gC, j2 * 10 + 6, none⟩ = some (.int .i64 cl.x.g) := hrC 6 _ rfl
                    clear hm hQ9 hc hj hC hj2 hC2 hk2j hlC hle eA hgC hrC hw hjn cs0
                    go_wp2_with fail
                    go_quiet (fail)
                    go_wp2
                    go_meet
                    exact ⟨rfl, hG9.on drewN_below⟩
                  · obtain rfl : b7 = true := HS.out.1.trans (by rw [hm]; rfl)
                    obtain rfl : v7 = cl.y := HS.out.2.trans (by rw [hm]; rfl)
                    obtain ⟨j2, gC, hj2, hC2, hk2j, hjn, eA, ⟨cs0, hgC⟩, hrC, hw⟩ := ref_at hG9.pair.ref hc
                    have hlC := hG9.pair.ref.lenC
                    have hle := hG9.pair.inv.le
                    have hj6 : j2 < 6 := by omega
                    have hwj : IntKind.i64.wrap ((O k).c - 1) = (j2 : Int) := by rw [hj2, IntKind.wrap_i64]; omega
                    have p0 : wc.cell? ⟨z, 0, none⟩ = some (.slice (some ⟨gC, 0, none⟩) r4.n r4.cc) := by rw [← eA]; exact hG9.cell0
                    have hjn2 : (j2 : Int) < (r4.n : Int) := by omega
                    have b0 : wc.cell? ⟨q7, 0, none⟩ = some (.int .i64 cl.y.n) := hQ9.cell 0
                    have b1 : wc.cell? ⟨q7, 1, none⟩ = some (.int .i64 cl.y.c) := hQ9.cell 1
                    have b2 : wc.cell? ⟨q7, 2, none⟩ = some (.int .i64 cl.y.g) := hQ9.cell 2
                    have d0 : wc.cell? ⟨gC, j2 * 10 + 7, none⟩ = some (.int .i64 cl.y.n) := hrC 7 _ rfl
                    have d1 : wc.cell? ⟨gC, j2 * 10 + 8, none⟩ = some (.int .i64 cl.y.c) := hrC 8 _ rfl
                    have d2 : wc.cell? ⟨gC, j2 * 10 + 9, none⟩ = some (.int .i64 cl.y.g) := hrC 9 _ rfl
                    clear hm hQ9 hc hj hC hj2 hC2 hk2j hlC hle eA hgC hrC hw hjn cs0
                    go_wp2_with fail
                    go_quiet (fail)
                    go_wp2
                    go_meet
                    exact ⟨rfl, hG9.on drewN_below⟩
                case rest =>
                  clear hG9 hQ9 c1
                  obtain ⟨rfl, hG10⟩ := hcut
                  have hbd : Below wc.heap.size wc wc.drew := (Below.refl _ wc).drew
                  have hG11 := hG10.on hbd
                  have hfi := hG11.find y
                  have hz11 := rim_at hG11.book
                  have hx11 : wc.drew.rangeAt bx 0 y.cs := word_at (x0.on hG11.below)
                  go_wp2_with fail
                  refine wp_region_noPanic ?_
                  refine wp_region_held_drew (S := fun W => W.rangeAt z 0 r4.cs.toList ∧ W.rangeAt bx 0 y.cs) (by kernel_rfl) ⟨hz11, hx11⟩ (fun hHeld => ?_)
                  refine wpAnyH_take (i := 0) (oi := ⟨some 116, _, _, _, _, _⟩) (v := ?_) rfl (by kernel_rfl) (by kernel_rfl) (by kernel_rfl) (fun _ _ _ h => h) (Or.inl ⟨by rfl, ?_⟩) (by assumption) ?_
                  rotate_left 1
                  · (intro W hSw; go_simp <;> with_reducible rfl)
                  try simp only [Act.put, List.setIfInBounds_toArray, List.set_cons_zero, List.set_cons_succ]
                  refine wpAnyH_take (i := 1) (oi := ⟨some 117, _, _, _, _, _⟩) (v := .agg y.cs.toArray) rfl (by kernel_rfl) (by kernel_rfl) (by kernel_rfl) (fun _ _ _ h => h) (yieldsIf_load_mid (by rfl) 24 (.tmp 6) rfl bx 0 rfl y.cs _ (fun W hW => hW.2) Try.underlying24 rfl size24) (by assumption) ?_
                  try simp only [Act.put, List.setIfInBounds_toArray, List.set_cons_zero, List.set_cons_succ]
                  refine wpAnyH_take (i := 3) (oi := ⟨some 119, _, _, _, _, _⟩) (v := ?_) rfl (by kernel_rfl) (by kernel_rfl) (by kernel_rfl) (fun _ _ _ h => h) (Or.inl ⟨by rfl, ?_⟩) (by assumption) ?_
                  rotate_left 1
                  · (intro W hSw; go_simp <;> with_reducible rfl)
                  try simp only [Act.put, List.setIfInBounds_toArray, List.set_cons_zero, List.set_cons_succ]
                  refine wpAnyH_take (i := 4) (oi := ⟨some 120, _, _, _, _, _⟩) (v := .agg r4.cs.toList.toArray) rfl (by kernel_rfl) (by kernel_rfl) (by kernel_rfl) (fun _ _ _ h => h) (yieldsIf_load_mid (by rfl) 31 (.tmp 119) rfl z 0 rfl r4.cs.toList _ (fun W hW => hW.1) Try.underlying31 rfl size31) (by assumption) ?_
                  try simp only [Act.put, List.setIfInBounds_toArray, List.set_cons_zero, List.set_cons_succ]
                  refine wpAnyH_take (i := 5) (oi := ⟨some 121, _, _, _, _, _⟩) (v := .agg y.cs.toArray) rfl (by kernel_rfl) (by kernel_rfl) (by kernel_rfl) (fun _ _ _ h => h) (yieldsIf_load_mid (by rfl) 24 (.tmp 6) rfl bx 0 rfl y.cs _ (fun W hW => hW.2) Try.underlying24 rfl size24) (by assumption) ?_
                  try simp only [Act.put, List.setIfInBounds_toArray, List.set_cons_zero, List.set_cons_succ]
                  refine wpAnyH_ready (rs := [2]) (by kernel_rfl) (by simp) ?_
                  refine AllReadyH.cons rfl (fun K hK => ?_) AllReadyH.nil
                  go_simp
                  refine hfi.mono ?_
                  rintro e w12 ⟨rfl, hb12⟩
                  have hG12 := hG11.on hb12
                  have hrf := hG12.rfind y
                  refine hK.out _ _ ⟨rim_at hG12.book, word_at (x0.on hG12.below)⟩ (fun hHeld1 => ?_)
                  clear hHeld hK K hfi hG11 hz11 hx11 hG10 hbd
                  try simp only [Act.put, List.setIfInBounds_toArray, List.set_cons_zero, List.set_cons_succ]
                  refine wpAnyH_ready (rs := [6]) (by kernel_rfl) (by simp) ?_
                  refine AllReadyH.cons rfl (fun K hK => ?_) AllReadyH.nil
                  go_simp
                  refine hrf.mono ?_
                  rintro e w13 ⟨rfl, hb13⟩
                  have hG13 := hG12.on hb13
                  refine hK.out _ _ ⟨rim_at hG13.book, word_at (x0.on hG13.below)⟩ (fun hHeld2 => ?_)
                  clear hHeld1 hK K hrf hG12
                  try simp only [Act.put, List.setIfInBounds_toArray, List.set_cons_zero, List.set_cons_succ]
                  refine wpAnyH_take (i := 7) (oi := ⟨some 123, _, _, _, _, _⟩) (v := ?_) rfl (by kernel_rfl) (by kernel_rfl) (by kernel_rfl) (fun _ _ _ h => h) (Or.inl ⟨by rfl, ?_⟩) (by assumption) ?_
                  rotate_left 1
                  · (intro W hSw; go_simp <;> with_reducible rfl)
                  try simp only [Act.put, List.setIfInBounds_toArray, List.set_cons_zero, List.set_cons_succ]
                  refine wpAnyH_done (by kernel_rfl) ?_ _
                  refine NoPanic.normal ?_
                  clear hHeld2
                  go_wp2
                  go_roundw
                  case rel => exact ⟨k + 1, L4, s4, H4, r4, by go_num, by omega, by omega, by omega, hG13⟩
                  case measure => simp [intOf]; omega
        · obtain rfl : k = 50 := by omega
          go_wp2
          go_meet
          exact ⟨L, s, H, r, hG⟩
      · obtain rfl : k = n := by omega
        go_wp2
        go_meet
        exact ⟨L, s, H, r, hG⟩
  case rest =>
    clear hG0
    obtain ⟨L, s, H, r, hG⟩ := hcut
    have hbd : Below wc.heap.size wc wc.drew := (Below.refl _ wc).drew
    have hG1 := hG.on hbd
    have hto := hG1.told
    have hbk : wc.drew.rangeAt z 0 (Bok.cs (r, (H.length : Int))) := bok_at hG1.book
    have hx1 : wc.drew.rangeAt bx 0 y.cs := word_at (x0.on hG1.below)
    clear hG hbd
    go_wp2_with fail
    refine wp_region_noPanic ?_
    refine wp_region_held_drew (S := fun W => W.rangeAt z 0 (Bok.cs (r, (H.length : Int))) ∧ W.rangeAt bx 0 y.cs) (by kernel_rfl) ⟨hbk, hx1⟩ (fun hHeld => ?_)
    refine wpAnyH_take (i := 0) (oi := ⟨some 124, _, _, _, _, _⟩) (v := ?_) rfl (by kernel_rfl) (by kernel_rfl) (by kernel_rfl) (fun _ _ _ h => h) (Or.inl ⟨by rfl, ?_⟩) (by assumption) ?_
    rotate_left 1
    · (intro W hSw; go_simp <;> with_reducible rfl)
    try simp only [Act.put, List.setIfInBounds_toArray, List.set_cons_zero, List.set_cons_succ]
    refine wpAnyH_take (i := 1) (oi := ⟨some 125, _, _, _, _, _⟩) (v := ?_) rfl (by kernel_rfl) (by kernel_rfl) (by kernel_rfl) (fun _ _ _ h => h) (Or.inl ⟨by rfl, ?_⟩) (by assumption) ?_
    rotate_left 1
    · (intro W hSw; go_simp <;> with_reducible rfl)
    try simp only [Act.put, List.setIfInBounds_toArray, List.set_cons_zero, List.set_cons_succ]
    refine wpAnyH_take (i := 2) (oi := ⟨some 126, _, _, _, _, _⟩) (v := .agg r.cs.toList.toArray) rfl (by kernel_rfl) (by kernel_rfl) (by kernel_rfl) (fun _ _ _ h => h) (yieldsIf_load_mid (by rfl) 31 (.tmp 125) rfl z 0 rfl r.cs.toList _ (fun W hW => rim_of hW.1) Try.underlying31 rfl size31) (by assumption) ?_
    try simp only [Act.put, List.setIfInBounds_toArray, List.set_cons_zero, List.set_cons_succ]
    refine wpAnyH_take (i := 3) (oi := ⟨some 127, _, _, _, _, _⟩) (v := ?_) rfl (by kernel_rfl) (by kernel_rfl) (by kernel_rfl) (fun _ _ _ h => h) (Or.inl ⟨by rfl, ?_⟩) (by assumption) ?_
    rotate_left 1
    · (intro W hSw; go_simp <;> with_reducible rfl)
    try simp only [Act.put, List.setIfInBounds_toArray, List.set_cons_zero, List.set_cons_succ]
    refine wpAnyH_take (i := 4) (oi := ⟨some 128, _, _, _, _, _⟩) (v := ?_) rfl (by kernel_rfl) (by kernel_rfl) (by kernel_rfl) (fun _ _ _ h => h) (Or.inl ⟨by rfl, ?_⟩) (by assumption) ?_
    rotate_left 1
    · (intro W hSw; have hSw0 := hSw.1 2 _ rfl; clear hSw; go_simp <;> with_reducible rfl)
    try simp only [Act.put, List.setIfInBounds_toArray, List.set_cons_zero, List.set_cons_succ]
    refine wpAnyH_ready (rs := [5]) (by kernel_rfl) (by simp) ?_
    refine AllReadyH.cons rfl (fun K hK => ?_) AllReadyH.nil
    go_simp
    refine hto.mono ?_
    rintro e w2 ⟨rfl, hbw2⟩
    have hG2 := hG1.on hbw2
    have hfi := hG2.find y
    refine hK.out _ _ ⟨bok_at hG2.book, word_at (x0.on hG2.below)⟩ (fun hHeld1 => ?_)
    clear hHeld hK K hto hG1
    try simp only [Act.put, List.setIfInBounds_toArray, List.set_cons_zero, List.set_cons_succ]
    refine wpAnyH_take (i := 6) (oi := ⟨some 130, _, _, _, _, _⟩) (v := ?_) rfl (by kernel_rfl) (by kernel_rfl) (by kernel_rfl) (fun _ _ _ h => h) (Or.inl ⟨by rfl, ?_⟩) (by assumption) ?_
    rotate_left 1
    · (intro W hSw; go_simp <;> with_reducible rfl)
    try simp only [Act.put, List.setIfInBounds_toArray, List.set_cons_zero, List.set_cons_succ]
    refine wpAnyH_take (i := 7) (oi := ⟨some 131, _, _, _, _, _⟩) (v := ?_) rfl (by kernel_rfl) (by kernel_rfl) (by kernel_rfl) (fun _ _ _ h => h) (Or.inl ⟨by rfl, ?_⟩) (by assumption) ?_
    rotate_left 1
    · (intro W hSw; go_simp <;> with_reducible rfl)
    try simp only [Act.put, List.setIfInBounds_toArray, List.set_cons_zero, List.set_cons_succ]
    refine wpAnyH_take (i := 8) (oi := ⟨some 132, _, _, _, _, _⟩) (v := .agg y.cs.toArray) rfl (by kernel_rfl) (by kernel_rfl) (by kernel_rfl) (fun _ _ _ h => h) (yieldsIf_load_mid (by rfl) 24 (.tmp 6) rfl bx 0 rfl y.cs _ (fun W hW => hW.2) Try.underlying24 rfl size24) (by assumption) ?_
    try simp only [Act.put, List.setIfInBounds_toArray, List.set_cons_zero, List.set_cons_succ]
    refine wpAnyH_take (i := 10) (oi := ⟨some 134, _, _, _, _, _⟩) (v := ?_) rfl (by kernel_rfl) (by kernel_rfl) (by kernel_rfl) (fun _ _ _ h => h) (Or.inl ⟨by rfl, ?_⟩) (by assumption) ?_
    rotate_left 1
    · (intro W hSw; go_simp <;> with_reducible rfl)
    try simp only [Act.put, List.setIfInBounds_toArray, List.set_cons_zero, List.set_cons_succ]
    refine wpAnyH_take (i := 11) (oi := ⟨some 135, _, _, _, _, _⟩) (v := .agg r.cs.toList.toArray) rfl (by kernel_rfl) (by kernel_rfl) (by kernel_rfl) (fun _ _ _ h => h) (yieldsIf_load_mid (by rfl) 31 (.tmp 134) rfl z 0 rfl r.cs.toList _ (fun W hW => rim_of hW.1) Try.underlying31 rfl size31) (by assumption) ?_
    try simp only [Act.put, List.setIfInBounds_toArray, List.set_cons_zero, List.set_cons_succ]
    refine wpAnyH_take (i := 12) (oi := ⟨some 136, _, _, _, _, _⟩) (v := .agg y.cs.toArray) rfl (by kernel_rfl) (by kernel_rfl) (by kernel_rfl) (fun _ _ _ h => h) (yieldsIf_load_mid (by rfl) 24 (.tmp 6) rfl bx 0 rfl y.cs _ (fun W hW => hW.2) Try.underlying24 rfl size24) (by assumption) ?_
    try simp only [Act.put, List.setIfInBounds_toArray, List.set_cons_zero, List.set_cons_succ]
    refine wpAnyH_ready (rs := [9]) (by kernel_rfl) (by simp) ?_
    refine AllReadyH.cons rfl (fun K hK => ?_) AllReadyH.nil
    go_simp
    refine hfi.mono ?_
    rintro e w3 ⟨rfl, hbw3⟩
    have hG3 := hG2.on hbw3
    have hrf := hG3.rfind y
    refine hK.out _ _ ⟨bok_at hG3.book, word_at (x0.on hG3.below)⟩ (fun hHeld2 => ?_)
    clear hHeld1 hK K hfi hG2
    try simp only [Act.put, List.setIfInBounds_toArray, List.set_cons_zero, List.set_cons_succ]
    refine wpAnyH_ready (rs := [13]) (by kernel_rfl) (by simp) ?_
    refine AllReadyH.cons rfl (fun K hK => ?_) AllReadyH.nil
    go_simp
    refine hrf.mono ?_
    rintro e w4 ⟨rfl, hbw4⟩
    have hG4 := hG3.on hbw4
    refine hK.out _ _ ⟨bok_at hG4.book, word_at (x0.on hG4.below)⟩ (fun hHeld3 => ?_)
    clear hHeld2 hK K hrf hG3
    try simp only [Act.put, List.setIfInBounds_toArray, List.set_cons_zero, List.set_cons_succ]
    refine wpAnyH_take (i := 14) (oi := ⟨some 138, _, _, _, _, _⟩) (v := ?_) rfl (by kernel_rfl) (by kernel_rfl) (by kernel_rfl) (fun _ _ _ h => h) (Or.inl ⟨by rfl, ?_⟩) (by assumption) ?_
    rotate_left 1
    · (intro W hSw; go_simp <;> with_reducible rfl)
    try simp only [Act.put, List.setIfInBounds_toArray, List.set_cons_zero, List.set_cons_succ]
    refine wpAnyH_take (i := 15) (oi := ⟨some 139, _, _, _, _, _⟩) (v := ?_) rfl (by kernel_rfl) (by kernel_rfl) (by kernel_rfl) (fun _ _ _ h => h) (Or.inl ⟨by rfl, ?_⟩) (by assumption) ?_
    rotate_left 1
    · (intro W hSw; go_simp <;> with_reducible rfl)
    try simp only [Act.put, List.setIfInBounds_toArray, List.set_cons_zero, List.set_cons_succ]
    refine wpAnyH_take (i := 16) (oi := ⟨some 8, _, _, _, _, _⟩) (v := ?_) rfl (by kernel_rfl) (by kernel_rfl) (by kernel_rfl) (fun _ _ _ h => h) (Or.inl ⟨by rfl, ?_⟩) (by assumption) ?_
    rotate_left 1
    · (intro W hSw; go_simp <;> with_reducible rfl)
    try simp only [Act.put, List.setIfInBounds_toArray, List.set_cons_zero, List.set_cons_succ]
    refine wpAnyH_done (by kernel_rfl) ?_ _
    refine NoPanic.normal ?_
    clear hHeld3
    go_wp2
    go_ret
    exact ⟨rfl, hb0.trans (hG4.below.mono hb0.size)⟩
end Go.Proofs.Ytdilmapcjmdabaa
