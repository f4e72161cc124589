/- An undo to any mark, calls behind it, and an undo of all: the walk. Conditions: none. -/
import Derived.Test.YtdilmapcjmdabaaUndone
set_option linter.unusedSimpArgs false
namespace Go.Proofs.Ytdilmapcjmdabaa
open Go.ChangeShapes Go.WideShapes Go.RowKit
set_option maxRecDepth 100000 in
set_option maxHeartbeats 2000000 in
theorem undoes_walk (x : Int) (A1 : Option Addr) (n1 c1 : Nat) (O1 : Nat → OpR) (A2 : Option Addr) (n2 c2 : Nat) (O2 : Nat → OpR) (mark : Int) (w : World)
    (ho1 : IsOps w A1 n1 c1 O1) (ho2 : IsOps w A2 n2 c2 O2) :
    Calls Try.prog 5 #[.int .i64 x, .slice A1 n1 c1, .slice A2 n2 c2, .int .i64 mark] w fun e w' => e = .returned (.bool true) ∧ Below w.heap.size w w' := by
  have hn1 : (n1 : Int) ≤ 9223372036854775807 := by have := ho1.room; have := ho1.most; unfold maxLen at this; omega
  have hn2 : (n2 : Int) ≤ 9223372036854775807 := by have := ho2.room; have := ho2.most; unfold maxLen at this; omega
  go_enter Try.func5, Try.ntmps5
  go_wp2_with fail
  refine (alive_any _).mono ?_
  rintro e w1 ⟨rfl, hb1⟩
  go_wp2_with fail
  refine (new_any x w1).mono ?_
  rintro e w2 ⟨p, L, rfl, hA2, hb2, hf2⟩
  go_wp2_with fail
  refine (rnew_any x w2).mono ?_
  rintro e w3 ⟨r, rfl, hN3⟩
  have hG0 := Goes.start (hb1.trans (hb2.mono hb1.size)) hA2 (fun g hg => Nat.le_trans hb1.size (hf2 g hg)) hN3
  obtain ⟨z, ez⟩ : ∃ z, z = w3.heap.size := ⟨_, rfl⟩
  obtain ⟨W, eW⟩ : ∃ W, W = (w3.alloc (.cells #[.slice none 0 0, .slice none 0 0, .int .i64 0] 34)).setRow w3.heap.size (r.bk 0) := ⟨_, rfl⟩
  rw [← eW, ← ez] at hG0
  have hsz : r.cs.size = 2 := rfl
  go_upto_region 5 with (refine wpList_store_row rfl 34 (.tmp 10) (.tmp 23) rfl w3.heap.size (r.bk 0) rfl rfl 34 #[.slice none 0 0, .slice none 0 0, .int .i64 0] (heap_alloc_new w3 _) (sz34 r 0) rfl (one34 r 0) ?_)
  rw [← eW, ← ez]
  clear hA2 hb2 hf2 hN3 eW ez hb1 hsz
  have hnot := noted_any (w := W) (A := none) (n := 0) (c := 0) (l := []) r 0 (World.ownsRow_nil _ _ _ _) (Nat.zero_le _) rfl
  have hbo := hG0.book
  go_wp2_with (refine wpList_load_row rfl 34 (.tmp 10) rfl z rfl 34 (r.bk 0) (0, 0) _ hbo Try.underlying34 rfl (sz34 r _) ?_)
  refine hnot.mono ?_
  rintro e w4 hN4
  rw [if_pos (show (0 : Int) = ((0 : Nat) : Int) from rfl)] at hN4
  obtain ⟨A, c, rfl, N4, G4, off4⟩ := noting_new hG0 hN4
  clear hN4 hnot hG0 hbo
  go_upto_block 0 with fail
  go_cut [11, 12] (fun v _ wr => ∃ (L : Lim) (s : Sta) (H : His) (r : Rim) (A : Option Addr) (c : Nat) (l : List Bok), v = .slice A l.length c ∧ H.length ≤ 40 ∧ Since (sta0 (cellsN x)) s H ∧ Goes w wr p z (r.bk (H.length : Int)) L s H r ∧ Noting w wr p z L A c s H l)
  case first =>
    go_wp2_with fail
    go_loopw [11, 12] (fun v i wr => ∃ (k : Nat) (L : Lim) (s : Sta) (H : His) (r : Rim) (A : Option Addr) (c : Nat) (l : List Bok), i = .int .i64 k ∧ v = .slice A l.length c ∧ k ≤ n1 ∧ k ≤ 40 ∧ H.length ≤ k ∧ Since (sta0 (cellsN x)) s H ∧ Goes w wr p z (r.bk (H.length : Int)) L s H r ∧ Noting w wr p z L A c s H l ∧ ∀ g, r.S g → ¬ lies A g) (fun _ i _ => 40 - (intOf i).toNat)
    case atStart => exact ⟨0, L, _, [], r, A, c, _, rfl, rfl, Nat.zero_le _, Nat.zero_le _, Nat.le_refl _, since_new _, G4, N4, off4⟩
    case round =>
      clear G4 N4 off4
      obtain ⟨k, L, s, H, r, A, c, l, rfl, rfl, hkn, hk40, hHk, hsi, hG, hN, hoff⟩ := hrel
      by_cases hk1 : k < n1
      · by_cases hk2 : k < 40
        · have hk3 : (k : Int) < 40 := by omega
          obtain ⟨g, o, rfl, hgw, hr⟩ := ho1.at_ k hk1
          have hr0 : wr.drew.rangeAt g (o + k * 8) (O1 k).cs := fun j v hv => (hG.below.cell hgw).trans (hr j v hv)
          have hbd : Below wr.heap.size wr wr.drew := (Below.refl _ wr).drew
          have hrun := run_any (o := O1 k) (hG.on hbd).pair (Nat.le_trans hHk (by omega))
          have hbk : Blk wr.drew z 34 (r.bk (H.length : Int)) := (hG.on hbd).book
          have hgz : g ≠ z := by have := hG.farz; omega
          go_wp2_with fail
          refine wp_region_noPanic ?_
          refine wp_region_held_drew (S := fun W => W.rangeAt g (o + k * 8) (O1 k).cs) (by kernel_rfl) hr0 (fun hHeld => ?_)
          refine wpAnyH_take (i := 0) (oi := ⟨some 37, _, _, _, _, _⟩) (v := ?_) rfl (by kernel_rfl) (by kernel_rfl) (by kernel_rfl) (fun _ _ _ h => h) (Or.inl ⟨by rfl, ?_⟩) (by assumption) ?_
          rotate_left 1
          · (intro W hSw; go_simp <;> with_reducible rfl)
          try simp only [Act.put, List.setIfInBounds_toArray, List.set_cons_zero, List.set_cons_succ]
          refine wpAnyH_take (i := 2) (oi := ⟨some 39, _, _, _, _, _⟩) (v := ?_) rfl (by kernel_rfl) (by kernel_rfl) (by kernel_rfl) (fun _ _ _ h => h) (Or.inl ⟨by rfl, ?_⟩) (by assumption) ?_
          rotate_left 1
          · (intro W hSw; go_simp <;> with_reducible rfl)
          try simp only [Act.put, List.setIfInBounds_toArray, List.set_cons_zero, List.set_cons_succ]
          refine wpAnyH_take (i := 3) (oi := ⟨some 40, _, _, _, _, _⟩) (v := ?_) rfl (by kernel_rfl) (by kernel_rfl) (by kernel_rfl) (fun _ _ _ h => h) (Or.inl ⟨by rfl, ?_⟩) (by assumption) ?_
          rotate_left 1
          · (intro W hSw; go_simp <;> with_reducible rfl)
          try simp only [Act.put, List.setIfInBounds_toArray, List.set_cons_zero, List.set_cons_succ]
          refine wpAnyH_take (i := 4) (oi := ⟨some 41, _, _, _, _, _⟩) (v := ?_) rfl (by kernel_rfl) (by kernel_rfl) (by kernel_rfl) (fun _ _ _ h => h) (Or.inl ⟨by rfl, ?_⟩) (by assumption) ?_
          rotate_left 1
          · (intro W hSw; go_simp <;> with_reducible rfl)
          try simp only [Act.put, List.setIfInBounds_toArray, List.set_cons_zero, List.set_cons_succ]
          refine wpAnyH_take (i := 5) (oi := ⟨some 42, _, _, _, _, _⟩) (v := .agg (O1 k).cs.toArray) rfl (by kernel_rfl) (by kernel_rfl) (by kernel_rfl) (fun _ _ _ h => h) (yieldsIf_load_mid (by rfl) 38 (.tmp 41) rfl g (o + k * 8) rfl (O1 k).cs _ (fun W hW => hW) Try.underlying38 rfl (load38 (O1 k))) (by assumption) ?_
          try simp only [Act.put, List.setIfInBounds_toArray, List.set_cons_zero, List.set_cons_succ]
          refine wpAnyH_ready (rs := [1]) (by kernel_rfl) (by simp) ?_
          refine AllReadyH.cons rfl (fun K hK => ?_) AllReadyH.nil
          rw [if_pos (by rfl)]
          refine wp_load_row 34 (.tmp 10) rfl z rfl 34 (r.bk (H.length : Int)) (0, 0) _ hbk Try.underlying34 rfl (sz34 r _) ?_
          refine hK.out _ _ hr0 (fun hHeld1 => ?_)
          clear hHeld hK K
          try simp only [Act.put, List.setIfInBounds_toArray, List.set_cons_zero, List.set_cons_succ]
          refine wpAnyH_ready (rs := [6]) (by kernel_rfl) (by simp) ?_
          refine AllReadyH.cons rfl (fun K hK => ?_) AllReadyH.nil
          go_simp
          refine hrun.mono ?_
          rintro e w4 hRan
          obtain ⟨r4, L4, rfl, hT4⟩ := hG.ran hbd hRan (can_mov hG.pair.inv)
          have hP4 := hT4.goes.put (r4.bk ((His.go H s (movO s (O1 k))).length : Int))
          obtain ⟨hN4, hoff4⟩ := hT4.noting hG hN hbd (r4.bk ((His.go H s (movO s (O1 k))).length : Int))
          refine hK.out _ _ (fun j v hv => (hT4.goes.below.cell hgw).trans (hr j v hv)) (fun hHeld2 => ?_)
          clear hHeld1 hK K hRan hrun
          try simp only [Act.put, List.setIfInBounds_toArray, List.set_cons_zero, List.set_cons_succ]
          refine wpAnyH_take (i := 7) (oi := ⟨some 36, _, _, _, _, _⟩) (v := ?_) rfl (by kernel_rfl) (by kernel_rfl) (by kernel_rfl) (fun _ _ _ h => h) (Or.inl ⟨by rfl, ?_⟩) (by assumption) ?_
          rotate_left 1
          · (intro W hSw; go_simp <;> with_reducible rfl)
          try simp only [Act.put, List.setIfInBounds_toArray, List.set_cons_zero, List.set_cons_succ]
          refine wpAnyH_take (i := 8) (oi := ⟨some 44, _, _, _, _, _⟩) (v := ?_) rfl (by kernel_rfl) (by kernel_rfl) (by kernel_rfl) (fun _ _ _ h => h) (Or.inl ⟨by rfl, ?_⟩) (by assumption) ?_
          rotate_left 1
          · (intro W hSw; go_simp <;> with_reducible rfl)
          try simp only [Act.put, List.setIfInBounds_toArray, List.set_cons_zero, List.set_cons_succ]
          refine wpAnyH_take (i := 9) (oi := ⟨some 45, _, _, _, _, _⟩) (v := ?_) rfl (by kernel_rfl) (by kernel_rfl) (by kernel_rfl) (fun _ _ _ h => h) (Or.inl ⟨by rfl, ?_⟩) (by assumption) ?_
          rotate_left 1
          · (intro W hSw; go_simp <;> with_reducible rfl)
          try simp only [Act.put, List.setIfInBounds_toArray, List.set_cons_zero, List.set_cons_succ]
          refine wpAnyH_ready (rs := [10]) (by kernel_rfl) (by simp) ?_
          refine AllReadyH.cons rfl (fun K hK => ?_) AllReadyH.nil
          rw [if_pos (by rfl)]
          refine wp_store_row 34 (.tmp 10) (.tmp 44) rfl z (r4.bk ((His.go H s (movO s (O1 k))).length : Int)) rfl rfl 34 _ hT4.goes.book (sz34 r4 _) rfl (one34 r4 _) ?_
          refine hK.out _ _ (fun j v hv => (hP4.below.cell hgw).trans (hr j v hv)) (fun hHeld3 => ?_)
          clear hHeld2 hK K
          try simp only [Act.put, List.setIfInBounds_toArray, List.set_cons_zero, List.set_cons_succ]
          refine wpAnyH_done (by kernel_rfl) ?_ _
          refine NoPanic.normal ?_
          clear hHeld3 hr0 hbk hr hT4 hbd
          have hnot := noted_any r4 ((His.go H s (movO s (O1 k))).length : Int) hN4.row (by have := hN4.len; omega) rfl
          have hbo := hP4.book
          go_wp2_with (refine wpList_load_row rfl 34 (.tmp 10) rfl z rfl 34 (r4.bk ((His.go H s (movO s (O1 k))).length : Int)) (0, 0) _ hbo Try.underlying34 rfl (sz34 r4 _) ?_)
          refine hnot.mono ?_
          rintro e w6 hN6
          obtain ⟨A6, c6, l6, rfl, N6, G6, off6⟩ := hN4.noted hP4 hoff4 hN6
          clear hnot hbo hN6 hN4 hP4 hoff4
          go_wp2
          go_roundw
          case rel => exact ⟨k + 1, L4, _, _, r4, A6, c6, l6, by go_num, rfl, by omega, by omega, go_most _ _ _ _ hHk, since_go hsi, G6, N6, off6⟩
          case measure => simp [intOf]; omega
        · obtain rfl : k = 40 := by omega
          go_wp2
          go_meet
          exact ⟨L, s, H, r, A, c, l, rfl, hHk, hsi, hG, hN⟩
      · obtain rfl : k = n1 := by omega
        go_wp2
        go_meet
        exact ⟨L, s, H, r, A, c, l, rfl, by omega, hsi, hG, hN⟩
  case rest =>
    clear G4 N4 off4
    obtain ⟨L, s, H, r, A, c, l, rfl, hH, hsi, hG, hN⟩ := hcut
    have hlen := Lib.hid hN.len
    by_cases hm : 0 ≤ mark ∧ mark ≤ (H.length : Int)
    · obtain ⟨q, rfl⟩ : ∃ q : Nat, mark = (q : Int) := ⟨mark.toNat, by omega⟩
      have hq : q ≤ H.length := by omega
      have t0 : decide ((q : Int) < 0) = false := decide_eq_false (by omega)
      have t1 : ¬ l.length ≤ q := by have := hlen.out; omega
      obtain ⟨b, hb⟩ : ∃ b, l[q]? = some b := ⟨_, List.getElem?_eq_getElem (by have := hlen.out; omega)⟩
      have hu := undo_any hG.pair.ara hG.pair.inv hG.trail (by omega) hq
      clear hm
      go_wp2_with fail
      refine hu.mono ?_
      rintro e w7 ⟨rfl, hd⟩
      obtain ⟨rb, Mb⟩ := b
      obtain rfl : Mb = (q : Int) := (hN.each q _ hb).1
      obtain ⟨L7, U7⟩ := hG.undone hN hq hb hd
      have hsi7 := since_drop hsi (H.length - q) (Nat.sub_le _ _)
      generalize stateAt s H (H.length - q) = st at U7 hsi7 hd
      generalize H.drop (H.length - q) = H7 at U7 hsi7 hd
      obtain ⟨g, o, rfl, hr7⟩ := sees_at Bok.len (own_sees U7.row) hb (by omega)
      have hU := Lib.hid (And.intro U7 hsi7)
      have hq40 := Nat.le_trans hq hH
      have ht := U7.told
      have b0 : w7.cell? ⟨g, o + q * 3, none⟩ = some (.slice rb.Ac rb.n rb.cc) := by have := hr7 0 _ rfl; simpa using this
      have b1 : w7.cell? ⟨g, o + q * 3 + 1, none⟩ = some (.slice rb.Ar rb.m rb.cr) := hr7 1 _ rfl
      clear hu hd hG hN hsi hH hq hb U7 hsi7
      go_wp2_with fail
      refine ht.mono ?_
      rintro e w8 ⟨rfl, hb8⟩
      obtain ⟨U7, hsi7⟩ := hU.out
      have hr8 : w8.rangeAt g (o + q * 3) (Bok.cs (rb, (q : Int))) := fun j v hv => (hb8.cell (show g < w7.heap.size from World.block_lt_of_cell? _ _ b0)).trans (hr7 j v hv)
      have U8 := U7.on hb8
      have hG8 := U8.start
      have hlq := U8.len
      obtain ⟨z3, ez3⟩ : ∃ z, z = w8.heap.size := ⟨_, rfl⟩
      obtain ⟨W8, eW8⟩ : ∃ W, W = (w8.alloc (.cells #[.slice none 0 0, .slice none 0 0, .int .i64 0] 34)).setRow w8.heap.size (rb.bk (q : Int)) := ⟨_, rfl⟩
      rw [show ((rb, (q : Int)) : Bok).1 = rb from rfl, ← eW8, ← ez3] at hG8
      have hq7 : H7.length ≤ 40 := by omega
      clear ht b0 b1 U7 hU hr7 U8 hb8 hlq
      go_upto_block 2 with (first
        | (refine wpList_load_mid rfl 34 (.tmp 86) rfl g (o + q * 3) rfl (Bok.cs (rb, (q : Int))) _ hr8 Try.underlying34 rfl size34 ?_)
        | (refine wpList_store_row rfl 34 (.tmp 13) (.tmp 87) rfl w8.heap.size (rb.bk (q : Int)) rfl rfl 34 #[.slice none 0 0, .slice none 0 0, .int .i64 0] (heap_alloc_new w8 _) (sz34 rb _) rfl (one34 rb _) ?_))
      rw [← eW8, ← ez3]
      clear eW8 ez3 hr8
      go_cut [14, 15, 16] (fun _ _ _ wr => ∃ (L : Lim) (s : Sta) (H : His) (r : Rim), H.length ≤ 60 ∧ Since (sta0 (cellsN x)) s H ∧ Goes w wr p z3 (r.bk (H.length : Int)) L s H r)
      case first =>
        go_wp2_with fail
        go_loopw [14] (fun i wr => ∃ (k : Nat) (L : Lim) (s : Sta) (H : His) (r : Rim), i = .int .i64 k ∧ k ≤ n2 ∧ k ≤ 20 ∧ H.length ≤ 40 + k ∧ Since (sta0 (cellsN x)) s H ∧ Goes w wr p z3 (r.bk (H.length : Int)) L s H r) (fun i _ => 20 - (intOf i).toNat)
        case atStart => exact ⟨0, L7, st, H7, rb, rfl, Nat.zero_le _, Nat.zero_le _, hq7, hsi7, hG8⟩
        case round =>
          clear hG8
          obtain ⟨k, L, s, H, r, rfl, hkn, hk20, hHk, hsi, hG⟩ := hrel
          by_cases hk1 : k < n2
          · by_cases hk2 : k < 20
            · have hk3 : (k : Int) < 20 := by omega
              obtain ⟨g, o, rfl, hgw, hr⟩ := ho2.at_ k hk1
              have hr0 : wr.drew.rangeAt g (o + k * 8) (O2 k).cs := fun j v hv => (hG.below.cell hgw).trans (hr j v hv)
              have hbd : Below wr.heap.size wr wr.drew := (Below.refl _ wr).drew
              have hrun2 := fun (W : World) (hW : Below wr.heap.size wr W) => run_any (o := O2 k) (hG.on hW).pair (Nat.le_trans hHk (by omega))
              have hrun := hrun2 _ hbd
              have hbk : wr.drew.rangeAt z3 0 (Bok.cs (r, (H.length : Int))) := bok_at (hG.on hbd).book
              go_wp2_with fail
              refine wp_region_noPanic ?_
              refine wp_region_held_drew (S := fun W => W.rangeAt g (o + k * 8) (O2 k).cs ∧ W.rangeAt z3 0 (Bok.cs (r, (H.length : Int)))) (by kernel_rfl) ⟨hr0, hbk⟩ (fun hHeld => ?_)
              refine wpAnyH_take (i := 0) (oi := ⟨some 99, _, _, _, _, _⟩) (v := ?_) rfl (by kernel_rfl) (by kernel_rfl) (by kernel_rfl) (fun _ _ _ h => h) (Or.inl ⟨by rfl, ?_⟩) (by assumption) ?_
              rotate_left 1
              · (intro W hSw; go_simp <;> with_reducible rfl)
              try simp only [Act.put, List.setIfInBounds_toArray, List.set_cons_zero, List.set_cons_succ]
              refine wpAnyH_take (i := 2) (oi := ⟨some 101, _, _, _, _, _⟩) (v := ?_) rfl (by kernel_rfl) (by kernel_rfl) (by kernel_rfl) (fun _ _ _ h => h) (Or.inl ⟨by rfl, ?_⟩) (by assumption) ?_
              rotate_left 1
              · (intro W hSw; go_simp <;> with_reducible rfl)
              try simp only [Act.put, List.setIfInBounds_toArray, List.set_cons_zero, List.set_cons_succ]
              refine wpAnyH_take (i := 3) (oi := ⟨some 102, _, _, _, _, _⟩) (v := ?_) rfl (by kernel_rfl) (by kernel_rfl) (by kernel_rfl) (fun _ _ _ h => h) (Or.inl ⟨by rfl, ?_⟩) (by assumption) ?_
              rotate_left 1
              · (intro W hSw; go_simp <;> with_reducible rfl)
              try simp only [Act.put, List.setIfInBounds_toArray, List.set_cons_zero, List.set_cons_succ]
              refine wpAnyH_take (i := 4) (oi := ⟨some 103, _, _, _, _, _⟩) (v := ?_) rfl (by kernel_rfl) (by kernel_rfl) (by kernel_rfl) (fun _ _ _ h => h) (Or.inl ⟨by rfl, ?_⟩) (by assumption) ?_
              rotate_left 1
              · (intro W hSw; go_simp <;> with_reducible rfl)
              try simp only [Act.put, List.setIfInBounds_toArray, List.set_cons_zero, List.set_cons_succ]
              refine wpAnyH_take (i := 5) (oi := ⟨some 104, _, _, _, _, _⟩) (v := .agg (O2 k).cs.toArray) rfl (by kernel_rfl) (by kernel_rfl) (by kernel_rfl) (fun _ _ _ h => h) (yieldsIf_load_mid (by rfl) 38 (.tmp 103) rfl g (o + k * 8) rfl (O2 k).cs _ (fun W hW => hW.1) Try.underlying38 rfl (load38 (O2 k))) (by assumption) ?_
              try simp only [Act.put, List.setIfInBounds_toArray, List.set_cons_zero, List.set_cons_succ]
              refine wpAnyH_take (i := 1) (oi := ⟨some 100, _, _, _, _, _⟩) (v := .agg (Bok.cs (r, (H.length : Int))).toArray) rfl (by kernel_rfl) (by kernel_rfl) (by kernel_rfl) (fun _ _ _ h => h) (yieldsIf_load_mid (by rfl) 34 (.tmp 13) rfl z3 0 rfl (Bok.cs (r, (H.length : Int))) _ (fun W hW => hW.2) Try.underlying34 rfl size34) (by assumption) ?_
              try simp only [Act.put, List.setIfInBounds_toArray, List.set_cons_zero, List.set_cons_succ]
              refine wpAnyH_ready (rs := [6, 10]) (by kernel_rfl) (by simp) ?_
              refine AllReadyH.cons rfl (fun K hK => ?_) (AllReadyH.cons rfl (fun K hK => ?_) AllReadyH.nil)
              · go_simp
                refine hrun.mono ?_
                rintro e w4 hRan
                obtain ⟨r4, L4, rfl, hT4⟩ := hG.ran hbd hRan (can_mov hG.pair.inv)
                obtain ⟨hG4, hQ4⟩ := hT4.behind ((His.go H s (movO s (O2 k))).length : Int)
                have hB4 : Blk (w4.alloc (.cells #[.slice none 0 0, .slice none 0 0, .int .i64 0] 34)) w4.heap.size 34 #[.slice none 0 0, .slice none 0 0, .int .i64 0] := heap_alloc_new w4 _
                have hb4 : Below w4.heap.size w4 (w4.alloc (.cells #[.slice none 0 0, .slice none 0 0, .int .i64 0] 34)) := (Below.refl _ _).alloc (Nat.le_refl _) _
                refine hK.out _ _ ⟨fun j v hv => (hT4.goes.below.cell hgw).trans (hr j v hv), bok_at hT4.goes.book⟩ (fun hHeld1 => ?_)
                clear hHeld hK K hRan hrun hrun2
                try simp only [Act.put, List.setIfInBounds_toArray, List.set_cons_zero, List.set_cons_succ]
                refine wpAnyH_take (i := 7) (oi := ⟨some 98, _, _, _, _, _⟩) (v := ?_) rfl (by kernel_rfl) (by kernel_rfl) (by kernel_rfl) (fun _ _ _ h => h) (Or.inl ⟨by rfl, ?_⟩) (by assumption) ?_
                rotate_left 1
                · (intro W hSw; go_simp <;> with_reducible rfl)
                try simp only [Act.put, List.setIfInBounds_toArray, List.set_cons_zero, List.set_cons_succ]
                refine wpAnyH_take (i := 8) (oi := ⟨some 106, _, _, _, _, _⟩) (v := ?_) rfl (by kernel_rfl) (by kernel_rfl) (by kernel_rfl) (fun _ _ _ h => h) (Or.inl ⟨by rfl, ?_⟩) (by assumption) ?_
                rotate_left 1
                · (intro W hSw; go_simp <;> with_reducible rfl)
                try simp only [Act.put, List.setIfInBounds_toArray, List.set_cons_zero, List.set_cons_succ]
                refine wpAnyH_take (i := 9) (oi := ⟨some 107, _, _, _, _, _⟩) (v := ?_) rfl (by kernel_rfl) (by kernel_rfl) (by kernel_rfl) (fun _ _ _ h => h) (Or.inl ⟨by rfl, ?_⟩) (by assumption) ?_
                rotate_left 1
                · (intro W hSw; go_simp <;> with_reducible rfl)
                try simp only [Act.put, List.setIfInBounds_toArray, List.set_cons_zero, List.set_cons_succ]
                refine wpAnyH_ready (rs := [10]) (by kernel_rfl) (by simp) ?_
                refine AllReadyH.cons rfl (fun K hK => ?_) AllReadyH.nil
                go_simp
                refine hK.out _ _ ⟨fun j v hv => ((hT4.goes.on hb4).below.cell hgw).trans (hr j v hv), bok_at (hT4.goes.on hb4).book⟩ (fun hHeld2 => ?_)
                clear hHeld1 hK K
                try simp only [Act.put, List.setIfInBounds_toArray, List.set_cons_zero, List.set_cons_succ]
                refine wpAnyH_ready (rs := [11]) (by kernel_rfl) (by simp) ?_
                refine AllReadyH.cons rfl (fun K hK => ?_) AllReadyH.nil
                rw [if_pos (by rfl)]
                refine wp_store_row 34 (.tmp 15) (.tmp 106) rfl w4.heap.size (r4.bk ((His.go H s (movO s (O2 k))).length : Int)) rfl rfl 34 _ hB4 (sz34 r4 _) rfl (one34 r4 _) ?_
                refine hK.out _ _ ⟨fun j v hv => (hG4.below.cell hgw).trans (hr j v hv), bok_at hG4.book⟩ (fun hHeld3 => ?_)
                clear hHeld2 hK K
                try simp only [Act.put, List.setIfInBounds_toArray, List.set_cons_zero, List.set_cons_succ]
                refine wpAnyH_take (i := 12) (oi := ⟨some 16, _, _, _, _, _⟩) (v := ?_) rfl (by kernel_rfl) (by kernel_rfl) (by kernel_rfl) (fun _ _ _ h => h) (Or.inl ⟨by rfl, ?_⟩) (by assumption) ?_
                rotate_left 1
                · (intro W hSw; go_simp <;> with_reducible rfl)
                try simp only [Act.put, List.setIfInBounds_toArray, List.set_cons_zero, List.set_cons_succ]
                refine wpAnyH_done (by kernel_rfl) ?_ _
                refine NoPanic.normal ?_
                obtain ⟨q6, eq6⟩ : ∃ q, q = w4.heap.size := ⟨_, rfl⟩
                obtain ⟨w6, ew6⟩ : ∃ W, W = (w4.alloc (.cells #[.slice none 0 0, .slice none 0 0, .int .i64 0] 34)).setRow w4.heap.size (r4.bk ((His.go H s (movO s (O2 k))).length : Int)) := ⟨_, rfl⟩
                rw [← ew6] at hG4
                rw [← ew6, ← eq6] at hQ4
                show Exit.then _ _ _ _ ((w4.alloc (.cells #[.slice none 0 0, .slice none 0 0, .int .i64 0] 34)).setRow w4.heap.size (r4.bk ((His.go H s (movO s (O2 k))).length : Int)))
                rw [← ew6, ← eq6]
                clear hHeld3 hr0 hbk hr hT4 hbd hB4 hb4 ew6 eq6
                have hP4 := hG4.put (r4.bk ((His.go H s (movO s (O2 k))).length : Int))
                have hbo := hG4.book
                go_wp2_with (first
                  | (refine wpList_load_row rfl 34 (.tmp 15) rfl q6 rfl 34 (r4.bk ((His.go H s (movO s (O2 k))).length : Int)) (0, 0) _ hQ4 Try.underlying34 rfl (sz34 r4 _) ?_)
                  | (refine wpList_store_row rfl 34 (.tmp 13) (.tmp 108) rfl z3 (r4.bk ((His.go H s (movO s (O2 k))).length : Int)) rfl rfl 34 _ hbo (sz34 r4 _) rfl (one34 r4 _) ?_))
                go_roundw
                case rel => exact ⟨k + 1, L4, _, _, r4, by go_num, by omega, by omega, go_most _ _ _ _ hHk, since_go hsi, hP4⟩
                case measure => simp [intOf]; omega
              · go_simp
                obtain ⟨W5, eW6⟩ : ∃ W, W = (wr.alloc (.cells #[.slice none 0 0, .slice none 0 0, .int .i64 0] 34)).drew := ⟨_, rfl⟩
                have eW5 : W5 = wr.drew.alloc (.cells #[.slice none 0 0, .slice none 0 0, .int .i64 0] 34) := eW6
                have hb5 : Below wr.heap.size wr W5 := by rw [eW5]; exact hbd.alloc (Nat.le_refl _) _
                have hrun3 := hrun2 W5 hb5
                refine hK.out _ _ ⟨fun j v hv => by rw [← eW6]; exact ((hG.on hb5).below.cell hgw).trans (hr j v hv), by rw [← eW6]; exact bok_at (hG.on hb5).book⟩ (fun hHeld1 => ?_)
                rw [← eW6]
                have E5 := Lib.hid eW5
                clear hHeld hK K hrun hrun2 eW5 eW6
                try simp only [Act.put, List.setIfInBounds_toArray, List.set_cons_zero, List.set_cons_succ]
                refine wpAnyH_ready (rs := [6]) (by kernel_rfl) (by simp) ?_
                refine AllReadyH.cons rfl (fun K hK => ?_) AllReadyH.nil
                go_simp
                refine hrun3.mono ?_
                rintro e w4 hRan
                have hk4 := ran_kept hRan
                rw [E5.out] at hRan hk4 hb5
                obtain ⟨r4, L4, rfl, hT4⟩ := hG.ran hb5 hRan (can_mov hG.pair.inv)
                obtain ⟨hB4, hG4, hQ4⟩ := hT4.ahead hG hbd hk4 ((His.go H s (movO s (O2 k))).length : Int)
                refine hK.out _ _ ⟨fun j v hv => (hT4.goes.below.cell hgw).trans (hr j v hv), bok_at hT4.goes.book⟩ (fun hHeld2 => ?_)
                clear hHeld1 hK K hRan hrun3 hk4
                try simp only [Act.put, List.setIfInBounds_toArray, List.set_cons_zero, List.set_cons_succ]
                refine wpAnyH_take (i := 7) (oi := ⟨some 98, _, _, _, _, _⟩) (v := ?_) rfl (by kernel_rfl) (by kernel_rfl) (by kernel_rfl) (fun _ _ _ h => h) (Or.inl ⟨by rfl, ?_⟩) (by assumption) ?_
                rotate_left 1
                · (intro W hSw; go_simp <;> with_reducible rfl)
                try simp only [Act.put, List.setIfInBounds_toArray, List.set_cons_zero, List.set_cons_succ]
                refine wpAnyH_take (i := 8) (oi := ⟨some 106, _, _, _, _, _⟩) (v := ?_) rfl (by kernel_rfl) (by kernel_rfl) (by kernel_rfl) (fun _ _ _ h => h) (Or.inl ⟨by rfl, ?_⟩) (by assumption) ?_
                rotate_left 1
                · (intro W hSw; go_simp <;> with_reducible rfl)
                try simp only [Act.put, List.setIfInBounds_toArray, List.set_cons_zero, List.set_cons_succ]
                refine wpAnyH_take (i := 9) (oi := ⟨some 107, _, _, _, _, _⟩) (v := ?_) rfl (by kernel_rfl) (by kernel_rfl) (by kernel_rfl) (fun _ _ _ h => h) (Or.inl ⟨by rfl, ?_⟩) (by assumption) ?_
                rotate_left 1
                · (intro W hSw; go_simp <;> with_reducible rfl)
                try simp only [Act.put, List.setIfInBounds_toArray, List.set_cons_zero, List.set_cons_succ]
                refine wpAnyH_ready (rs := [11]) (by kernel_rfl) (by simp) ?_
                refine AllReadyH.cons rfl (fun K hK => ?_) AllReadyH.nil
                rw [if_pos (by rfl)]
                refine wp_store_row 34 (.tmp 15) (.tmp 106) rfl wr.drew.heap.size (r4.bk ((His.go H s (movO s (O2 k))).length : Int)) rfl rfl 34 _ hB4 (sz34 r4 _) rfl (one34 r4 _) ?_
                refine hK.out _ _ ⟨fun j v hv => (hG4.below.cell hgw).trans (hr j v hv), bok_at hG4.book⟩ (fun hHeld3 => ?_)
                clear hHeld2 hK K
                try simp only [Act.put, List.setIfInBounds_toArray, List.set_cons_zero, List.set_cons_succ]
                refine wpAnyH_take (i := 12) (oi := ⟨some 16, _, _, _, _, _⟩) (v := ?_) rfl (by kernel_rfl) (by kernel_rfl) (by kernel_rfl) (fun _ _ _ h => h) (Or.inl ⟨by rfl, ?_⟩) (by assumption) ?_
                rotate_left 1
                · (intro W hSw; go_simp <;> with_reducible rfl)
                try simp only [Act.put, List.setIfInBounds_toArray, List.set_cons_zero, List.set_cons_succ]
                refine wpAnyH_done (by kernel_rfl) ?_ _
                refine NoPanic.normal ?_
                obtain ⟨q6, eq6⟩ : ∃ q, q = wr.drew.heap.size := ⟨_, rfl⟩
                obtain ⟨w6, ew6⟩ : ∃ W, W = w4.setRow wr.drew.heap.size (r4.bk ((His.go H s (movO s (O2 k))).length : Int)) := ⟨_, rfl⟩
                rw [← ew6] at hG4
                rw [← ew6, ← eq6] at hQ4
                show Exit.then _ _ _ _ (w4.setRow wr.drew.heap.size (r4.bk ((His.go H s (movO s (O2 k))).length : Int)))
                have eq7 : wr.heap.size = q6 := eq6.symm
                rw [← ew6]
                simp only [eq7]
                clear hHeld3 hr0 hbk hr hT4 hbd hb5 hB4 ew6 eq6 eq7 E5
                have hP4 := hG4.put (r4.bk ((His.go H s (movO s (O2 k))).length : Int))
                have hbo := hG4.book
                go_wp2_with (first
                  | (refine wpList_load_row rfl 34 (.tmp 15) rfl q6 rfl 34 (r4.bk ((His.go H s (movO s (O2 k))).length : Int)) (0, 0) _ hQ4 Try.underlying34 rfl (sz34 r4 _) ?_)
                  | (refine wpList_store_row rfl 34 (.tmp 13) (.tmp 108) rfl z3 (r4.bk ((His.go H s (movO s (O2 k))).length : Int)) rfl rfl 34 _ hbo (sz34 r4 _) rfl (one34 r4 _) ?_))
                go_roundw
                case rel => exact ⟨k + 1, L4, _, _, r4, by go_num, by omega, by omega, go_most _ _ _ _ hHk, since_go hsi, hP4⟩
                case measure => simp [intOf]; omega
            · obtain rfl : k = 20 := by omega
              go_wp2
              go_meet
              exact ⟨L, s, H, r, by omega, hsi, hG⟩
          · obtain rfl : k = n2 := by omega
            go_wp2
            go_meet
            exact ⟨L, s, H, r, by omega, hsi, hG⟩
      case rest =>
        clear hG8 hsi7
        obtain ⟨L, s, H, r, hH, hsi, hG⟩ := hcut
        have q0 := hG.cell0
        have q1 := hG.cell1
        have q2 := hG.cell2
        have ht := hG.told
        go_wp2_with fail
        refine ht.mono ?_
        rintro e w8 ⟨rfl, hb8⟩
        have hG9 := hG.on hb8
        clear q0 q1 q2 ht hG
        have hu := hG9.undo0 (by omega) hsi
        go_wp2_with fail
        refine hu.mono ?_
        rintro e w9 ⟨rfl, L9, hA9, k9, hm9⟩
        have hbw := hG9.below
        have hb9 := hbw.trans (k9.under _ hbw.size hG9.far)
        clear hu hG9 k9 hm9
        have hn := rnew_any x w9
        go_wp2_with fail
        refine hn.mono ?_
        rintro e w10 ⟨r10, rfl, hR10, hb10, _⟩
        have ht := told_new (hA9.below hb10) hR10 (inv0 _ (cellsN_le x))
        clear hn
        go_wp2_with fail
        refine ht.mono ?_
        rintro e w11 ⟨rfl, hb11⟩
        go_wp2
        go_ret
        exact ⟨rfl, hb9.trans ((hb10.trans (hb11.mono hb10.size)).mono hb9.size)⟩
    · have hu := undo_out hG.pair.ara hm
      have hbo0 := hG.cell0
      have hbo1 := hG.cell1
      have hbo2 := hG.cell2
      have ht := hG.told
      rcases (by have := hlen.out; omega : mark < 0 ∨ (0 ≤ mark ∧ (l.length : Int) ≤ mark)) with h1 | ⟨h1, h2⟩
      · have t0 : decide (mark < 0) = true := decide_eq_true h1
        clear hm
        go_wp2_with fail
        refine hu.mono ?_
        rintro e w7 ⟨rfl, rfl⟩
        go_wp2_with fail
        refine ht.mono ?_
        rintro e w8 ⟨rfl, hb8⟩
        go_wp2
        go_ret
        exact ⟨rfl, hG.below.trans (hb8.mono hG.below.size)⟩
      · have t0 : decide (mark < 0) = false := decide_eq_false (by omega)
        have t1 : decide ((l.length : Int) ≤ mark) = true := decide_eq_true h2
        clear hm
        go_wp2_with fail
        refine hu.mono ?_
        rintro e w7 ⟨rfl, rfl⟩
        go_wp2_with fail
        refine ht.mono ?_
        rintro e w8 ⟨rfl, hb8⟩
        go_wp2
        go_ret
        exact ⟨rfl, hG.below.trans (hb8.mono hG.below.size)⟩
end Go.Proofs.Ytdilmapcjmdabaa
