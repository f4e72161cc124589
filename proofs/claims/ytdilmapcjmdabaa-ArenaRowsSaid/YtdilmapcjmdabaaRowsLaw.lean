/- The row and the cells are as they should be, whatever the calls. Conditions: none. -/
import Derived.Test.YtdilmapcjmdabaaHeld
set_option linter.unusedSimpArgs false
namespace Go.Proofs.Ytdilmapcjmdabaa
open Go.ChangeShapes Go.WideShapes Go.RowKit
theorem count_is {s : Sta} {i : Nat} {c : Cel} (h : Inv s) (hc : s.C[i]? = some c) : s.R.count ((i : Int) + 1) = if c.s = 0 then 1 else 0 := by
  rw [h.nodup.count]
  have hcel : s.cel ((i : Int) + 1) = some c := cel_iff.2 ⟨i, by omega, hc⟩
  by_cases h0 : c.s = 0
  · rw [if_pos h0, if_pos ((h.row _).2 ⟨c, hcel, h0⟩)]
  · rw [if_neg h0, if_neg]
    intro hm
    obtain ⟨c', e, h1⟩ := (h.row _).1 hm
    rw [hcel] at e
    cases e
    exact h0 h1
theorem count_step {R : List Int} {j : Nat} {x : Int} (b : Int) (h : R[j]? = some x) : (R.take (j + 1)).count b = (R.take j).count b + if x = b then 1 else 0 := by
  rw [List.take_add_one, List.count_append, h]
  by_cases e : x = b
  · subst e
    simp
  · simp [e]
set_option maxRecDepth 100000 in
set_option maxHeartbeats 1000000 in
theorem rows_walk (x : Int) (A : Option Addr) (n c : Nat) (O : Nat → OpR) (w : World) (ho : IsOps w A n c O) : Calls Try.prog 4 #[.int .i64 x, .slice A n c] w fun e w' => e = .returned (.bool true) ∧ Below w.heap.size w w' := by
  have hn63 : (n : Int) ≤ 9223372036854775807 := by have := ho.room; have := ho.most; unfold maxLen at this; omega
  go_enter Try.func4, Try.ntmps4
  go_wp2_with fail
  refine (alive_any _).mono ?_
  rintro e w1 ⟨rfl, hb1⟩
  go_wp2_with fail
  refine (new_any x w1).mono ?_
  rintro e w2 ⟨p, L, rfl, hA2, hb2, hf2⟩
  go_wp2_with fail
  refine (rnew_any x w2).mono ?_
  rintro e w3 ⟨r, rfl, hN3⟩
  have hG0 := Goes.start (hb1.trans (hb2.mono hb1.size)) hA2 (fun g hg => Nat.le_trans hb1.size (hf2 g hg)) hN3
  obtain ⟨z, ez⟩ : ∃ z, z = w3.heap.size := ⟨_, rfl⟩
  obtain ⟨W, eW⟩ : ∃ W, W = (w3.alloc (.cells #[.slice none 0 0, .slice none 0 0, .int .i64 0] 34)).setRow w3.heap.size (r.bk 0) := ⟨_, rfl⟩
  rw [← eW, ← ez] at hG0
  have hsz : r.cs.size = 2 := rfl
  go_wp2_with (refine wpList_store_row rfl 34 (.tmp 6) (.tmp 19) rfl w3.heap.size (r.bk 0) rfl rfl 34 #[.slice none 0 0, .slice none 0 0, .int .i64 0] (heap_alloc_new w3 _) (sz34 r 0) rfl (one34 r 0) ?_)
  rw [← eW, ← ez]
  clear hsz
  clear hA2 hb2 hf2 hN3 eW ez hb1
  go_loopw [7] (fun i wr => ∃ (k : Nat) (L : Lim) (s : Sta) (H : His) (r : Rim), i = .int .i64 k ∧ k ≤ n ∧ k ≤ 50 ∧ H.length ≤ k ∧ s.C.length = cellsN x ∧ Goes w wr p z (r.bk (H.length : Int)) L s H r) (fun i _ => 50 - (intOf i).toNat)
  case atStart => exact ⟨0, L, _, [], r, rfl, Nat.zero_le _, Nat.zero_le _, Nat.le_refl _, List.length_replicate .., hG0⟩
  case round =>
    clear hG0
    obtain ⟨k, L, s, H, r, rfl, hkn, hk50, hHk, hsC, hG⟩ := hrel
    by_cases hk1 : k < n
    · by_cases hk2 : k < 50
      · have hk3 : (k : Int) < 50 := by omega
        obtain ⟨g, o, rfl, hgw, hr⟩ := ho.at_ k hk1
        have hr0 : wr.drew.rangeAt g (o + k * 8) (O k).cs := fun j v hv => (hG.below.cell hgw).trans (hr j v hv)
        have hbd : Below wr.heap.size wr wr.drew := (Below.refl _ wr).drew
        have hrun := run_any (o := O k) (hG.on hbd).pair (Nat.le_trans hHk (by omega))
        have hbk : Blk wr.drew z 34 (r.bk (H.length : Int)) := (hG.on hbd).book
        have hgz : g ≠ z := by have := hG.farz; omega
        go_wp2_with fail
        refine wp_region_noPanic ?_
        refine wp_region_held_drew (S := fun W => W.rangeAt g (o + k * 8) (O k).cs) (by kernel_rfl) hr0 (fun hHeld => ?_)
        refine wpAnyH_take (i := 0) (oi := ⟨some 31, _, _, _, _, _⟩) (v := ?_) rfl (by kernel_rfl) (by kernel_rfl) (by kernel_rfl) (fun _ _ _ h => h) (Or.inl ⟨by rfl, ?_⟩) (by assumption) ?_
        rotate_left 1
        · (intro W hSw; go_simp <;> with_reducible rfl)
        try simp only [Act.put, List.setIfInBounds_toArray, List.set_cons_zero, List.set_cons_succ]
        refine wpAnyH_take (i := 2) (oi := ⟨some 33, _, _, _, _, _⟩) (v := ?_) rfl (by kernel_rfl) (by kernel_rfl) (by kernel_rfl) (fun _ _ _ h => h) (Or.inl ⟨by rfl, ?_⟩) (by assumption) ?_
        rotate_left 1
        · (intro W hSw; go_simp <;> with_reducible rfl)
        try simp only [Act.put, List.setIfInBounds_toArray, List.set_cons_zero, List.set_cons_succ]
        refine wpAnyH_take (i := 3) (oi := ⟨some 34, _, _, _, _, _⟩) (v := ?_) rfl (by kernel_rfl) (by kernel_rfl) (by kernel_rfl) (fun _ _ _ h => h) (Or.inl ⟨by rfl, ?_⟩) (by assumption) ?_
        rotate_left 1
        · (intro W hSw; go_simp <;> with_reducible rfl)
        try simp only [Act.put, List.setIfInBounds_toArray, List.set_cons_zero, List.set_cons_succ]
        refine wpAnyH_take (i := 4) (oi := ⟨some 35, _, _, _, _, _⟩) (v := ?_) rfl (by kernel_rfl) (by kernel_rfl) (by kernel_rfl) (fun _ _ _ h => h) (Or.inl ⟨by rfl, ?_⟩) (by assumption) ?_
        rotate_left 1
        · (intro W hSw; go_simp <;> with_reducible rfl)
        try simp only [Act.put, List.setIfInBounds_toArray, List.set_cons_zero, List.set_cons_succ]
        refine wpAnyH_take (i := 5) (oi := ⟨some 36, _, _, _, _, _⟩) (v := .agg (O k).cs.toArray) rfl (by kernel_rfl) (by kernel_rfl) (by kernel_rfl) (fun _ _ _ h => h) (yieldsIf_load_mid (by rfl) 38 (.tmp 35) rfl g (o + k * 8) rfl (O k).cs _ (fun W hW => hW) Try.underlying38 rfl (load38 (O k))) (by assumption) ?_
        try simp only [Act.put, List.setIfInBounds_toArray, List.set_cons_zero, List.set_cons_succ]
        refine wpAnyH_ready (rs := [1]) (by kernel_rfl) (by simp) ?_
        refine AllReadyH.cons rfl (fun K hK => ?_) AllReadyH.nil
        rw [if_pos (by rfl)]
        refine wp_load_row 34 (.tmp 6) rfl z rfl 34 (r.bk (H.length : Int)) (0, 0) _ hbk Try.underlying34 rfl (sz34 r _) ?_
        refine hK.out _ _ hr0 (fun hHeld1 => ?_)
        clear hHeld hK K
        try simp only [Act.put, List.setIfInBounds_toArray, List.set_cons_zero, List.set_cons_succ]
        refine wpAnyH_ready (rs := [6]) (by kernel_rfl) (by simp) ?_
        refine AllReadyH.cons rfl (fun K hK => ?_) AllReadyH.nil
        go_simp
        refine hrun.mono ?_
        rintro e w4 hRan
        obtain ⟨r4, L4, rfl, hT4⟩ := hG.ran hbd hRan (can_mov hG.pair.inv)
        have hP4 := hT4.goes.put (r4.bk ((His.go H s (movO s (O k))).length : Int))
        refine hK.out _ _ (fun j v hv => (hT4.goes.below.cell hgw).trans (hr j v hv)) (fun hHeld2 => ?_)
        clear hHeld1 hK K hRan hrun
        try simp only [Act.put, List.setIfInBounds_toArray, List.set_cons_zero, List.set_cons_succ]
        refine wpAnyH_take (i := 7) (oi := ⟨some 30, _, _, _, _, _⟩) (v := ?_) rfl (by kernel_rfl) (by kernel_rfl) (by kernel_rfl) (fun _ _ _ h => h) (Or.inl ⟨by rfl, ?_⟩) (by assumption) ?_
        rotate_left 1
        · (intro W hSw; go_simp <;> with_reducible rfl)
        try simp only [Act.put, List.setIfInBounds_toArray, List.set_cons_zero, List.set_cons_succ]
        refine wpAnyH_take (i := 8) (oi := ⟨some 38, _, _, _, _, _⟩) (v := ?_) rfl (by kernel_rfl) (by kernel_rfl) (by kernel_rfl) (fun _ _ _ h => h) (Or.inl ⟨by rfl, ?_⟩) (by assumption) ?_
        rotate_left 1
        · (intro W hSw; go_simp <;> with_reducible rfl)
        try simp only [Act.put, List.setIfInBounds_toArray, List.set_cons_zero, List.set_cons_succ]
        refine wpAnyH_take (i := 9) (oi := ⟨some 39, _, _, _, _, _⟩) (v := ?_) rfl (by kernel_rfl) (by kernel_rfl) (by kernel_rfl) (fun _ _ _ h => h) (Or.inl ⟨by rfl, ?_⟩) (by assumption) ?_
        rotate_left 1
        · (intro W hSw; go_simp <;> with_reducible rfl)
        try simp only [Act.put, List.setIfInBounds_toArray, List.set_cons_zero, List.set_cons_succ]
        refine wpAnyH_ready (rs := [10]) (by kernel_rfl) (by simp) ?_
        refine AllReadyH.cons rfl (fun K hK => ?_) AllReadyH.nil
        rw [if_pos (by rfl)]
        refine wp_store_row 34 (.tmp 6) (.tmp 38) rfl z (r4.bk ((His.go H s (movO s (O k))).length : Int)) rfl rfl 34 _ hT4.goes.book (sz34 r4 _) rfl (one34 r4 _) ?_
        refine hK.out _ _ (fun j v hv => (hP4.below.cell hgw).trans (hr j v hv)) (fun hHeld3 => ?_)
        clear hHeld2 hK K
        try simp only [Act.put, List.setIfInBounds_toArray, List.set_cons_zero, List.set_cons_succ]
        refine wpAnyH_done (by kernel_rfl) ?_ _
        refine NoPanic.normal ?_
        clear hHeld3 hr0 hbk hr hT4 hbd
        go_wp2
        go_roundw
        case rel => exact ⟨k + 1, L4, _, _, r4, by go_num, by omega, by omega, go_most _ _ _ _ hHk, by rw [go_len]; exact hsC, hP4⟩
        case measure => simp [intOf]; omega
      · obtain rfl : k = 50 := by omega
        clear hHk
        have hI := hG.pair.inv
        have hlC := hG.pair.ara.lenC
        have hlR := hG.pair.ara.lenR
        have hle := hI.le
        have hleR := hI.lenR
        have hnum := hI.num
        have hLi := list_any hG.pair.ara (by omega)
        have hbB := hG.below
        have hAr := hG.pair.ara
        clear hG
        go_wp2_with fail
        refine hLi.mono ?_
        rintro e w4 ⟨A4, c4, rfl, ho4, hb4⟩
        have hCe := cells_any (hAr.below hb4) (by omega)
        go_wp2_with fail
        refine hCe.mono ?_
        rintro e w5 ⟨A5, c5, rfl, ho5, hb5⟩
        have hSR : Sees w5 1 A4 L.m c4 (ints s.R) := (own_sees ho4).below hb5
        have hSC : Sees w5 10 A5 L.n c5 (flatC s.C) := own_sees ho5
        have hbw : Below w.heap.size w w5 := hbB.trans ((hb4.trans (hb5.mono hb4.size)).mono hbB.size)
        clear ho4 ho5 hb4 hb5 hAr hbB hLi hCe
        go_wp2_with fail
        go_loopw [10] (fun i wr => ∃ j : Nat, i = .int .i64 j ∧ j ≤ L.n ∧ Below w5.heap.size w5 wr) (fun i _ => L.n - (intOf i).toNat)
        case atStart => exact ⟨0, rfl, Nat.zero_le _, Below.refl _ _⟩
        case round =>
          obtain ⟨i, rfl, hin, hb6⟩ := hrel
          by_cases hi1 : i < L.n
          · obtain ⟨cl, hcl⟩ : ∃ x, s.C[i]? = some x := ⟨_, List.getElem?_eq_getElem (by omega)⟩
            have hcnt := count_is hI hcl
            have hi6 : (i : Int) < 6 := by omega
            go_wp2_with fail
            go_loopw [11, 12] (fun q j wr => ∃ a : Nat, j = .int .i64 a ∧ a ≤ L.m ∧ q = .int .i64 ((s.R.take a).count ((i : Int) + 1) : Nat) ∧ Below w5.heap.size w5 wr) (fun _ j _ => L.m - (intOf j).toNat)
            case atStart => exact ⟨0, rfl, Nat.zero_le _, rfl, hb6⟩
            case round =>
              clear hb6
              obtain ⟨a, rfl, ham, rfl, hb7⟩ := hrel
              by_cases ha1 : a < L.m
              · obtain ⟨y, hy⟩ : ∃ y, s.R[a]? = some y := ⟨_, List.getElem?_eq_getElem (by omega)⟩
                have hst := count_step ((i : Int) + 1) hy
                have hq6 : (s.R.take a).count ((i : Int) + 1) ≤ 6 := Nat.le_trans List.count_le_length (by rw [List.length_take]; omega)
                obtain ⟨g, o, rfl, hr⟩ := sees_at int_len (hSR.below hb7) hy (by omega)
                have c0 : wr.cell? ⟨g, o + a, none⟩ = some (.int .i64 y) := by have := hr 0 _ rfl; simpa using this
                have q1 : (((s.R.take a).count ((i : Int) + 1) : Nat) : Int) ≤ 6 := by omega
                generalize (s.R.take a).count ((i : Int) + 1) = q at *
                have ei : IntKind.i64.wrap ((i : Int) + 1) = (i : Int) + 1 := by rw [IntKind.wrap_i64]; omega
                have eq : IntKind.i64.wrap ((q : Int) + 1) = (q : Int) + 1 := by rw [IntKind.wrap_i64]; omega
                by_cases hyi : y = (i : Int) + 1
                · have t0 : (y == (i : Int) + 1) = true := by simpa using hyi
                  rw [if_pos hyi] at hst
                  clear hyi hr hy
                  go_wp2
                  go_roundw
                  case rel => exact ⟨a + 1, by go_num, by omega, by rw [hst]; go_num, hb7⟩
                  case measure => simp [intOf]; omega
                · have t0 : (y == (i : Int) + 1) = false := by simpa using hyi
                  rw [if_neg hyi] at hst
                  clear hyi hr hy
                  go_wp2
                  go_roundw
                  case rel => exact ⟨a + 1, by go_num, by omega, by rw [hst]; rfl, hb7⟩
                  case measure => simp [intOf]; omega
              · obtain rfl : a = L.m := by omega
                rw [List.take_of_length_le (by omega), hcnt]
                obtain ⟨g, o, rfl, hr⟩ := sees_at Cel.len (hSC.below hb7) hcl (by omega)
                have c0 : wr.cell? ⟨g, o + i * 10, none⟩ = some (.int .i64 cl.s) := by have := hr 0 _ rfl; simpa using this
                clear hcnt hcl hr ha1
                by_cases h0 : cl.s = 0
                · have t0 : (cl.s == 0) = true := by simpa using h0
                  have t1 : (cl.s != 0) = false := by simpa using h0
                  rw [if_pos h0]
                  clear h0
                  go_wp2
                  go_roundw
                  case rel => exact ⟨i + 1, by go_num, by omega, hb7⟩
                  case measure => simp [intOf]; omega
                · have t0 : (cl.s == 0) = false := by simpa using h0
                  have t1 : (cl.s != 0) = true := by simpa using h0
                  rw [if_neg h0]
                  clear h0
                  go_wp2
                  go_roundw
                  case rel => exact ⟨i + 1, by go_num, by omega, hb7⟩
                  case measure => simp [intOf]; omega
          · obtain rfl : i = L.n := by omega
            have hnear := near_any x wr
            have t0 : decide ((L.m : Int) ≤ (L.n : Int)) = true := decide_eq_true (by omega)
            rw [← hsC, hlC] at hnear
            go_wp2_with fail
            refine hnear.mono ?_
            rintro e w7 ⟨rfl, rfl⟩
            go_wp2
            go_ret
            exact ⟨rfl, hbw.trans (hb6.mono hbw.size)⟩
    · obtain rfl : k = n := by omega
      clear hHk
      have hI := hG.pair.inv
      have hlC := hG.pair.ara.lenC
      have hlR := hG.pair.ara.lenR
      have hle := hI.le
      have hleR := hI.lenR
      have hnum := hI.num
      have hLi := list_any hG.pair.ara (by omega)
      have hbB := hG.below
      have hAr := hG.pair.ara
      clear hG
      go_wp2_with fail
      refine hLi.mono ?_
      rintro e w4 ⟨A4, c4, rfl, ho4, hb4⟩
      have hCe := cells_any (hAr.below hb4) (by omega)
      go_wp2_with fail
      refine hCe.mono ?_
      rintro e w5 ⟨A5, c5, rfl, ho5, hb5⟩
      have hSR : Sees w5 1 A4 L.m c4 (ints s.R) := (own_sees ho4).below hb5
      have hSC : Sees w5 10 A5 L.n c5 (flatC s.C) := own_sees ho5
      have hbw : Below w.heap.size w w5 := hbB.trans ((hb4.trans (hb5.mono hb4.size)).mono hbB.size)
      clear ho4 ho5 hb4 hb5 hAr hbB hLi hCe
      go_wp2_with fail
      go_loopw [10] (fun i wr => ∃ j : Nat, i = .int .i64 j ∧ j ≤ L.n ∧ Below w5.heap.size w5 wr) (fun i _ => L.n - (intOf i).toNat)
      case atStart => exact ⟨0, rfl, Nat.zero_le _, Below.refl _ _⟩
      case round =>
        obtain ⟨i, rfl, hin, hb6⟩ := hrel
        by_cases hi1 : i < L.n
        · obtain ⟨cl, hcl⟩ : ∃ x, s.C[i]? = some x := ⟨_, List.getElem?_eq_getElem (by omega)⟩
          have hcnt := count_is hI hcl
          have hi6 : (i : Int) < 6 := by omega
          go_wp2_with fail
          go_loopw [11, 12] (fun q j wr => ∃ a : Nat, j = .int .i64 a ∧ a ≤ L.m ∧ q = .int .i64 ((s.R.take a).count ((i : Int) + 1) : Nat) ∧ Below w5.heap.size w5 wr) (fun _ j _ => L.m - (intOf j).toNat)
          case atStart => exact ⟨0, rfl, Nat.zero_le _, rfl, hb6⟩
          case round =>
            clear hb6
            obtain ⟨a, rfl, ham, rfl, hb7⟩ := hrel
            by_cases ha1 : a < L.m
            · obtain ⟨y, hy⟩ : ∃ y, s.R[a]? = some y := ⟨_, List.getElem?_eq_getElem (by omega)⟩
              have hst := count_step ((i : Int) + 1) hy
              have hq6 : (s.R.take a).count ((i : Int) + 1) ≤ 6 := Nat.le_trans List.count_le_length (by rw [List.length_take]; omega)
              obtain ⟨g, o, rfl, hr⟩ := sees_at int_len (hSR.below hb7) hy (by omega)
              have c0 : wr.cell? ⟨g, o + a, none⟩ = some (.int .i64 y) := by have := hr 0 _ rfl; simpa using this
              have q1 : (((s.R.take a).count ((i : Int) + 1) : Nat) : Int) ≤ 6 := by omega
              generalize (s.R.take a).count ((i : Int) + 1) = q at *
              have ei : IntKind.i64.wrap ((i : Int) + 1) = (i : Int) + 1 := by rw [IntKind.wrap_i64]; omega
              have eq : IntKind.i64.wrap ((q : Int) + 1) = (q : Int) + 1 := by rw [IntKind.wrap_i64]; omega
              by_cases hyi : y = (i : Int) + 1
              · have t0 : (y == (i : Int) + 1) = true := by simpa using hyi
                rw [if_pos hyi] at hst
                clear hyi hr hy
                go_wp2
                go_roundw
                case rel => exact ⟨a + 1, by go_num, by omega, by rw [hst]; go_num, hb7⟩
                case measure => simp [intOf]; omega
              · have t0 : (y == (i : Int) + 1) = false := by simpa using hyi
                rw [if_neg hyi] at hst
                clear hyi hr hy
                go_wp2
                go_roundw
                case rel => exact ⟨a + 1, by go_num, by omega, by rw [hst]; rfl, hb7⟩
                case measure => simp [intOf]; omega
            · obtain rfl : a = L.m := by omega
              rw [List.take_of_length_le (by omega), hcnt]
              obtain ⟨g, o, rfl, hr⟩ := sees_at Cel.len (hSC.below hb7) hcl (by omega)
              have c0 : wr.cell? ⟨g, o + i * 10, none⟩ = some (.int .i64 cl.s) := by have := hr 0 _ rfl; simpa using this
              clear hcnt hcl hr ha1
              by_cases h0 : cl.s = 0
              · have t0 : (cl.s == 0) = true := by simpa using h0
                have t1 : (cl.s != 0) = false := by simpa using h0
                rw [if_pos h0]
                clear h0
                go_wp2
                go_roundw
                case rel => exact ⟨i + 1, by go_num, by omega, hb7⟩
                case measure => simp [intOf]; omega
              · have t0 : (cl.s == 0) = false := by simpa using h0
                have t1 : (cl.s != 0) = true := by simpa using h0
                rw [if_neg h0]
                clear h0
                go_wp2
                go_roundw
                case rel => exact ⟨i + 1, by go_num, by omega, hb7⟩
                case measure => simp [intOf]; omega
        · obtain rfl : i = L.n := by omega
          have hnear := near_any x wr
          have t0 : decide ((L.m : Int) ≤ (L.n : Int)) = true := decide_eq_true (by omega)
          rw [← hsC, hlC] at hnear
          go_wp2_with fail
          refine hnear.mono ?_
          rintro e w7 ⟨rfl, rfl⟩
          go_wp2
          go_ret
          exact ⟨rfl, hbw.trans (hb6.mono hbw.size)⟩
end Go.Proofs.Ytdilmapcjmdabaa
