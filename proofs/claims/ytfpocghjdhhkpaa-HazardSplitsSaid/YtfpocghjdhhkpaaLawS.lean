/- Of any bag those may go whose cells' numbers were not seen; both parts are together the bag, in order. Conditions: none. -/
import Derived.Test.YtfpocghjdhhkpaaLawT
import Derived.Test.YtfpocghjdhhkpaaBags
namespace Go.Proofs.Ytfpocghjdhhkpaa
open Go.RowKit Go.Shelf Go.ChangeShapes Go.WideShapes Go.Sort

theorem under30 : Try.prog.underlying 30 = some (.slice (Try.prog.elem 30)) := by kernel_rfl
theorem under31 : Try.prog.underlying 31 = some (.slice (Try.prog.elem 31)) := by kernel_rfl
theorem sizeE30 (w : World) : (sizeOf (Try.prog.elem 30)).run Try.prog w = .ok 3 w := by kernel_rfl
theorem sizeE31 (w : World) : (sizeOf (Try.prog.elem 31)).run Try.prog w = .ok 1 w := by kernel_rfl
theorem upto30 (A : Option Addr) (n cap k : Nat) (hk : k ≤ cap) (hA : A = none → cap = 0) (w : World) :
    (Instr.slice 30 (.slice A n cap) none (some (.int .i64 (k : Int))) none).run Try.prog w = .ok (.slice A k cap) w := by
  rw [run_slice_h w 30 _ n cap under30 .i64 _ (by omega) (by omega), sizeE30]
  simp only [Result.andThen, sliced, Int.toNat_natCast, Nat.sub_zero, Nat.zero_mul]
  rcases A with _ | ad
  · have := hA rfl
    subst this
    obtain rfl : k = 0 := by omega
    rfl
  · split <;> simp [Addr.add]
theorem upto31 (A : Option Addr) (n cap k : Nat) (hk : k ≤ cap) (hA : A = none → cap = 0) (w : World) :
    (Instr.slice 31 (.slice A n cap) none (some (.int .i64 (k : Int))) none).run Try.prog w = .ok (.slice A k cap) w := by
  rw [run_slice_h w 31 _ n cap under31 .i64 _ (by omega) (by omega), sizeE31]
  simp only [Result.andThen, sliced, Int.toNat_natCast, Nat.sub_zero, Nat.zero_mul]
  rcases A with _ | ad
  · have := hA rfl
    subst this
    obtain rfl : k = 0 := by omega
    rfl
  · split <;> simp [Addr.add]
theorem near40 (n : Nat) (w : World) : Calls Try.prog 6 #[.int .i64 (n : Int), .int .i64 0, .int .i64 40] w fun e w' => e = .returned (.int .i64 ((min n 40 : Nat) : Int)) ∧ w = w' := by
  have h := near_any (n : Int) 40 w
  have e : cl (n : Int) 40 = ((min n 40 : Nat) : Int) := by
    unfold cl
    rw [if_neg (by omega)]
    split <;> omega
  rw [e] at h
  exact h
theorem in_next {l : List Int} {k : Nat} (c : Int) (hk : k < l.length) : decide (c ∈ l.take (k + 1)) = (decide (c ∈ l.take k) || l.getD k 0 == c) := by
  rw [List.take_add_one, List.getElem?_eq_getElem hk, List.getD, List.getElem?_eq_getElem hk]
  simp only [Option.toList_some, Option.getD_some, List.mem_append, List.mem_singleton]
  by_cases h1 : c ∈ l.take k
  · simp [h1]
  · by_cases h2 : c = l[k]
    · simp [h2]
    · have h3 : ¬ l[k] = c := fun e => h2 e.symm
      simp [h1, h2, h3]
set_option maxRecDepth 100000 in
set_option maxHeartbeats 8000000 in
theorem splits_any {w : World} {A Az : Option Addr} {n cap m cz : Nat} {l : List Bg} {z : List Int} (hS : SeesB w A n cap l) (hz : SeesI w Az m cz z) :
    Calls Try.prog 4 #[.slice A n cap, .slice Az m cz] w fun e w' => e = .returned (.bool true) ∧ Below w.heap.size w w' := by
  have hl := hS.len
  have hlz := hz.len
  have hn63 : (n : Int) ≤ 9223372036854775807 := by have := Sees.room hS; have := Sees.most hS; unfold maxLen at this; omega
  have hm63 : (m : Int) ≤ 9223372036854775807 := by have := Sees.room hz; have := Sees.most hz; unfold maxLen at this; omega
  obtain ⟨N, eN⟩ : ∃ N, N = min n 40 := ⟨_, rfl⟩
  obtain ⟨M, eM⟩ : ∃ M, M = min m 40 := ⟨_, rfl⟩
  have hNn : N ≤ n := by omega
  have hMm : M ≤ m := by omega
  have hN40 : N ≤ 40 := by omega
  have hM40 : M ≤ 40 := by omega
  have cA := fun W => near40 n W
  have cZ := fun W => near40 m W
  have uA := fun W => upto30 A n cap N (Nat.le_trans hNn (Sees.room hS)) (Sees.none_ hS) W
  have uZ := fun W => upto31 Az m cz M (Nat.le_trans hMm (Sees.room hz)) (Sees.none_ hz) W
  rw [← eN] at cA
  rw [← eM] at cZ
  go_enter Try.func4, Try.ntmps4
  go_wp2_with fail
  refine (alive_any w).mono ?_
  rintro e W ⟨rfl, hbW⟩
  have hSW := hS.on hbW
  have hzW := hz.on hbW
  have HK := Lib.hid (And.intro hbW (And.intro hSW (And.intro hzW (And.intro hl (And.intro hlz (And.intro eN eM))))))
  have HU := Lib.hid (And.intro uA uZ)
  clear hS hz hbW hSW hzW hl hlz eN eM uA uZ
  go_wp2_with fail
  go_loopw [5, 6, 7] (fun f q i wr => ∃ k : Nat, k ≤ N ∧ i = .int .i64 (k : Int) ∧ ∃ A1 c1 A2 c2, f = .slice A1 (freeL (l.take k) (z.take M)).length c1 ∧ q = .slice A2 (keptL (l.take k) (z.take M)).length c2 ∧ Pair W.heap.size W wr A1 (freeL (l.take k) (z.take M)).length c1 A2 (keptL (l.take k) (z.take M)).length c2 (freeL (l.take k) (z.take M)) (keptL (l.take k) (z.take M))) (fun _ _ i _ => N - (intOf i).toNat)
  case atStart => exact ⟨0, Nat.zero_le _, rfl, none, 0, none, 0, rfl, rfl, pair_nil _ _⟩
  case round =>
    obtain ⟨k, hk, rfl, A1, c1, A2, c2, rfl, rfl, hP⟩ := hrel
    obtain ⟨hbW, hSW, hzW, hl, hlz, eN, eM⟩ := HK.out
    by_cases hlt : k < N
    · obtain ⟨x, hx⟩ : ∃ x, l[k]? = some x := ⟨_, List.getElem?_eq_getElem (by omega)⟩
      obtain ⟨g, o, rfl, hr⟩ := (hSW.on hP.below).at_ hx
      have hnx := parts_next (z.take M) hx
      have hsf : (freeL (l.take k) (z.take M)).length ≤ 1000 := Nat.le_trans (freeL_len _ _) (by rw [List.length_take]; omega)
      have hsk : (keptL (l.take k) (z.take M)).length ≤ 1000 := Nat.le_trans (keptL_len _ _) (by rw [List.length_take]; omega)
      have hBs := hP.below.size
      have hzr := hzW.on hP.below
      have t1 : decide ((k : Int) < (n : Int)) = true := decide_eq_true (by omega)
      have t2 : decide ((k : Int) < 40) = true := decide_eq_true (by omega)
      have hkn : (k : Int) < (n : Int) := by omega
      have hk0 : (0 : Int) ≤ (k : Int) := by omega
      have hmM : ∀ j, j < M ↔ j < m ∧ j < 40 := fun j => by omega
      have hx0 : wr.cell? ⟨g, o + k * 3, none⟩ = some (.int .i64 x.c) := hr 0 _ rfl
      have hgl := World.block_lt_of_cell? _ _ hx0
      have HX := Lib.hid (And.intro hP (And.intro hr (And.intro hBs hnx)))
      have HZ := Lib.hid (And.intro hzr (And.intro hlz (And.intro hx0 hgl)))
      clear hP hr hBs hnx hzr hlz hx0 hgl hbW hSW hzW hl eN eM hx
      generalize freeL (l.take k) (z.take M) = F at *
      generalize keptL (l.take k) (z.take M) = K at *
      go_wp2_with fail
      generalize wr = w0 at *
      go_loopw [8, 9] (fun b i ws => ∃ j : Nat, j ≤ M ∧ i = .int .i64 (j : Int) ∧ b = .bool (decide (x.c ∈ z.take j)) ∧ Below w0.heap.size w0 ws) (fun _ i _ => M - (intOf i).toNat)
      case atStart => exact ⟨0, Nat.zero_le _, rfl, by simp, Below.refl _ _⟩
      case round =>
        obtain ⟨j, hj, rfl, rfl, hb⟩ := hrel
        by_cases hjl : j < M
        · obtain ⟨hzr, hlz, hx0, hgl⟩ := HZ.out
          obtain ⟨gz, oz, rfl, r0⟩ := (hzr.on hb).get (show j < m by omega)
          have x0 : wr.cell? ⟨g, o + k * 3, none⟩ = some (.int .i64 x.c) := (hb.cell (p := ⟨g, o + k * 3, none⟩) hgl).trans hx0
          have hin := in_next x.c (show j < z.length by omega)
          have t3 : decide ((j : Int) < (m : Int)) = true := decide_eq_true (by omega)
          have t4 : decide ((j : Int) < 40) = true := decide_eq_true (by omega)
          have hjm : (j : Int) < (m : Int) := by omega
          have hj0 : (0 : Int) ≤ (j : Int) := by omega
          obtain ⟨b, eb⟩ : ∃ b, decide (x.c ∈ z.take j) = b := ⟨_, rfl⟩
          rw [eb] at hin ⊢
          generalize z.getD j 0 = y at r0 hin
          have HI := Lib.hid (And.intro hin hb)
          clear hin hb eb hzr hlz hx0 hgl
          cases b with
          | true =>
            go_wp2
            go_quiet (fail)
            go_wp2
            go_roundw
            case rel => exact ⟨j + 1, by omega, by go_num, by rw [HI.out.1]; rfl, below_dn HI.out.2 _⟩
            case measure => simp [intOf]; omega
          | false =>
            go_wp2
            go_quiet (fail)
            go_wp2
            go_roundw
            case rel => exact ⟨j + 1, by omega, by go_num, by rw [HI.out.1]; rfl, below_dn HI.out.2 _⟩
            case measure => simp [intOf]; omega
        · have hjM : j = M := by omega
          subst hjM
          have hmj := hmM j
          obtain ⟨hP, hr, hBs, hnx⟩ := HX.out
          have hPr := hP.on hBs hb
          have hgl := HZ.out.2.2.2
          have hr' : wr.rangeAt g (o + k * 3) [.int .i64 x.c, .int .i64 x.g, .int .i64 x.n] := fun i v hv => (hb.cell (p := ⟨g, o + k * 3 + i, none⟩) hgl).trans (hr i v hv)
          have hBr := hPr.below.size
          have hb4 : Below wr.heap.size wr (wr.alloc (.cells #[.int .i64 x.c, .int .i64 x.g, .int .i64 x.n] 33)) := (Below.refl _ wr).alloc (Nat.le_refl _) _
          have hP4 := hPr.on hBr hb4
          have hx4 : Blk (wr.alloc (.cells #[.int .i64 x.c, .int .i64 x.g, .int .i64 x.n] 33)) wr.heap.size 33 #[.int .i64 x.c, .int .i64 x.g, .int .i64 x.n] := heap_alloc_new wr _
          have hB4 : W.heap.size ≤ (wr.alloc (.cells #[.int .i64 x.c, .int .i64 x.g, .int .i64 x.n] 33)).heap.size := hP4.below.size
          obtain ⟨b, eb⟩ : ∃ b, decide (x.c ∈ z.take j) = b := ⟨_, rfl⟩
          rw [eb] at hnx ⊢
          have hkk : (k : Int) < (n : Int) := hkn
          clear eb hP hr hBs hb hPr hgl hb4
          rcases Nat.lt_or_ge j m with h1 | h1
          all_goals first
            | (have t3 : decide ((j : Int) < (m : Int)) = true := decide_eq_true (by omega)
               have t4 : decide ((j : Int) < 40) = false := decide_eq_false (by omega))
            | (have t3 : decide ((j : Int) < (m : Int)) = false := decide_eq_false (by omega))
          all_goals
            cases b with
            | true =>
              obtain ⟨eF, eK⟩ := hnx.1 rfl
              have HN := Lib.hid (And.intro eF eK)
              clear hnx eF eK
              go_wp2_with (first
                | (refine wpList_load_mid rfl 33 (.tmp 51) rfl g (o + k * 3) rfl [.int .i64 x.c, .int .i64 x.g, .int .i64 x.n] _ hr' Try.underlying33 rfl size33 ?_)
                | (at_builtin; refine wpList_one rfl _ _ rfl rfl hP4.k (by omega) hB4 wr.heap.size x rfl hx4 ?_; intro A3 c3 w3 ho3 hg3 hl3; have hP5 := hP4.add ho3 hg3 hl3 hB4; clear ho3 hg3 hl3 hP4))
              obtain ⟨eF, eK⟩ := HN.out
              go_roundw
              case rel => exact ⟨k + 1, by omega, by go_num, A1, c1, A3, c3, by rw [eF], by rw [eK, List.length_append]; rfl, by rw [eF, eK, List.length_append]; exact hP5⟩
              case measure => simp [intOf]; omega
            | false =>
              obtain ⟨eF, eK⟩ := hnx.2 rfl
              have HN := Lib.hid (And.intro eF eK)
              clear hnx eF eK
              go_wp2_with (first
                | (refine wpList_load_mid rfl 33 (.tmp 58) rfl g (o + k * 3) rfl [.int .i64 x.c, .int .i64 x.g, .int .i64 x.n] _ hr' Try.underlying33 rfl size33 ?_)
                | (at_builtin; refine wpList_one rfl _ _ rfl rfl hP4.f (by omega) hB4 wr.heap.size x rfl hx4 ?_; intro A3 c3 w3 ho3 hg3 hl3; have hP5 := (hP4.symm.add ho3 hg3 hl3 hB4).symm; clear ho3 hg3 hl3 hP4))
              obtain ⟨eF, eK⟩ := HN.out
              go_roundw
              case rel => exact ⟨k + 1, by omega, by go_num, A3, c3, A2, c2, by rw [eF, List.length_append]; rfl, by rw [eK], by rw [eF, eK, List.length_append]; exact hP5⟩
              case measure => simp [intOf]; omega
    · have hkN : k = N := by omega
      subst hkN
      have hSV := hSW.on hP.below
      have hzV := hzW.on hP.below
      have hbV := hbW.trans (hP.below.mono hbW.size)
      have hBV := hP.below.size
      generalize wr = V at *
      have hs1 : SeesB V A k cap (l.take k) := Sees.first Bg.len hSV k hNn (by omega)
      have hs2 : SeesI V Az M cz (z.take M) := Sees.first int1_len hzV M hMm (by omega)
      have hsp : ∀ W', Below V.heap.size V W' → Calls Try.prog 9 #[.slice A k cap, .slice Az M cz] W' _ := fun W' hW' => split_any (hs1.on hW') (hs2.on hW') (by omega) (by omega)
      obtain ⟨uA, uZ⟩ := HU.out
      have hkn : k = min n 40 := eN
      have HP := Lib.hid (And.intro hP (And.intro hbV hBV))
      clear hP hbV hBV hs1 hs2 hSV hzV hbW hSW hzW eN eM hl hlz
      generalize freeL (l.take k) (z.take M) = F at *
      generalize keptL (l.take k) (z.take M) = K at *
      have k0 : Below V.heap.size V V.drew := (Below.refl _ V).drew
      rcases Nat.lt_or_ge k n with h1 | h1
      all_goals first
        | (have t1 : decide ((k : Int) < (n : Int)) = true := decide_eq_true (by omega)
           have t2 : decide ((k : Int) < 40) = false := decide_eq_false (by omega))
        | (have t1 : decide ((k : Int) < (n : Int)) = false := decide_eq_false (by omega))
      all_goals
        clear hkn
        go_wp2_with fail
        refine wp_region_noPanic ?_
        refine wp_region_held_drew (S := (fun W => Below V.heap.size V W)) (by kernel_rfl) k0 (fun hHeld => ?_)
        refine wpAnyH_take (i := 0) (oi := ⟨some 63, _, _, _, _, _⟩) (v := ?_) rfl (by kernel_rfl) (by kernel_rfl) (by kernel_rfl) (fun _ _ _ h => h) (Or.inl ⟨by rfl, ?_⟩) (by assumption) ?_
        rotate_left 1
        · (intro W hSw; go_simp <;> with_reducible rfl)
        try simp only [Act.put, List.setIfInBounds_toArray, List.set_cons_zero, List.set_cons_succ]
        refine wpAnyH_take (i := 1) (oi := ⟨some 64, _, _, _, _, _⟩) (v := ?_) rfl (by kernel_rfl) (by kernel_rfl) (by kernel_rfl) (fun _ _ _ h => h) (Or.inl ⟨by rfl, ?_⟩) (by assumption) ?_
        rotate_left 1
        · (intro W hSw; go_simp <;> with_reducible rfl)
        try simp only [Act.put, List.setIfInBounds_toArray, List.set_cons_zero, List.set_cons_succ]
        refine wpAnyH_take (i := 2) (oi := ⟨some 65, _, _, _, _, _⟩) (v := ?_) rfl (by kernel_rfl) (by kernel_rfl) (by kernel_rfl) (fun _ _ _ h => h) (Or.inl ⟨by rfl, ?_⟩) (by assumption) ?_
        rotate_left 1
        · (intro W hSw; go_simp <;> with_reducible rfl)
        try simp only [Act.put, List.setIfInBounds_toArray, List.set_cons_zero, List.set_cons_succ]
        refine wpAnyH_take (i := 5) (oi := ⟨some 68, _, _, _, _, _⟩) (v := ?_) rfl (by kernel_rfl) (by kernel_rfl) (by kernel_rfl) (fun _ _ _ h => h) (Or.inl ⟨by rfl, ?_⟩) (by assumption) ?_
        rotate_left 1
        · (intro W hSw; go_simp <;> with_reducible rfl)
        try simp only [Act.put, List.setIfInBounds_toArray, List.set_cons_zero, List.set_cons_succ]
        refine wpAnyH_take (i := 6) (oi := ⟨some 69, _, _, _, _, _⟩) (v := ?_) rfl (by kernel_rfl) (by kernel_rfl) (by kernel_rfl) (fun _ _ _ h => h) (Or.inl ⟨by rfl, ?_⟩) (by assumption) ?_
        rotate_left 1
        · (intro W hSw; go_simp <;> with_reducible rfl)
        try simp only [Act.put, List.setIfInBounds_toArray, List.set_cons_zero, List.set_cons_succ]
        refine wpAnyH_take (i := 7) (oi := ⟨some 70, _, _, _, _, _⟩) (v := ?_) rfl (by kernel_rfl) (by kernel_rfl) (by kernel_rfl) (fun _ _ _ h => h) (Or.inl ⟨by rfl, ?_⟩) (by assumption) ?_
        rotate_left 1
        · (intro W hSw; go_simp <;> with_reducible rfl)
        try simp only [Act.put, List.setIfInBounds_toArray, List.set_cons_zero, List.set_cons_succ]
        refine wpAnyH_ready (rs := [3]) (by kernel_rfl) (by simp) ?_
        refine AllReadyH.cons rfl (fun K hK => ?_) AllReadyH.nil
        go_simp
        refine (cA _).mono ?_
        rintro e w' ⟨rfl, rfl⟩
        have hKeep := k0
        refine hK.out _ _ ?_ (fun hHeld1 => ?_)
        · exact hKeep
        clear hHeld hK K hKeep
        try simp only [Act.put, List.setIfInBounds_toArray, List.set_cons_zero, List.set_cons_succ]
        refine wpAnyH_take (i := 4) (oi := ⟨some 67, _, _, _, _, _⟩) (v := ?_) rfl (by kernel_rfl) (by kernel_rfl) (by kernel_rfl) (fun _ _ _ h => h) (Or.inl ⟨by rfl, ?_⟩) (by assumption) ?_
        rotate_left 1
        · (intro W hSw; go_simp <;> with_reducible rfl)
        try simp only [Act.put, List.setIfInBounds_toArray, List.set_cons_zero, List.set_cons_succ]
        refine wpAnyH_ready (rs := [8]) (by kernel_rfl) (by simp) ?_
        refine AllReadyH.cons rfl (fun K hK => ?_) AllReadyH.nil
        go_simp
        refine (cZ _).mono ?_
        rintro e w' ⟨rfl, rfl⟩
        have hKeep := k0
        refine hK.out _ _ ?_ (fun hHeld2 => ?_)
        · exact hKeep
        clear hHeld1 hK K hKeep
        try simp only [Act.put, List.setIfInBounds_toArray, List.set_cons_zero, List.set_cons_succ]
        refine wpAnyH_take (i := 9) (oi := ⟨some 72, _, _, _, _, _⟩) (v := ?_) rfl (by kernel_rfl) (by kernel_rfl) (by kernel_rfl) (fun _ _ _ h => h) (Or.inl ⟨by rfl, ?_⟩) (by assumption) ?_
        rotate_left 1
        · (intro W hSw; go_simp <;> with_reducible rfl)
        try simp only [Act.put, List.setIfInBounds_toArray, List.set_cons_zero, List.set_cons_succ]
        refine wpAnyH_ready (rs := [10]) (by kernel_rfl) (by simp) ?_
        refine AllReadyH.cons rfl (fun K hK => ?_) AllReadyH.nil
        go_simp
        refine (hsp _ k0).mono ?_
        rintro e W5 ⟨Aa, ca, Ab, cb, rfl, hSa, hSb, hb5⟩
        have hKeep5 : Below V.heap.size V W5 := k0.trans (hb5.mono k0.size)
        have hKeep := hKeep5
        refine hK.out _ _ ?_ (fun hHeld3 => ?_)
        · exact hKeep
        clear hHeld2 hK K hKeep
        try simp only [Act.put, List.setIfInBounds_toArray, List.set_cons_zero, List.set_cons_succ]
        refine wpAnyH_take (i := 11) (oi := ⟨some 62, _, _, _, _, _⟩) (v := ?_) rfl (by kernel_rfl) (by kernel_rfl) (by kernel_rfl) (fun _ _ _ h => h) (Or.inl ⟨by rfl, ?_⟩) (by assumption) ?_
        rotate_left 1
        · (intro W hSw; go_simp <;> with_reducible rfl)
        try simp only [Act.put, List.setIfInBounds_toArray, List.set_cons_zero, List.set_cons_succ]
        refine wpAnyH_take (i := 12) (oi := ⟨some 74, _, _, _, _, _⟩) (v := ?_) rfl (by kernel_rfl) (by kernel_rfl) (by kernel_rfl) (fun _ _ _ h => h) (Or.inl ⟨by rfl, ?_⟩) (by assumption) ?_
        rotate_left 1
        · (intro W hSw; go_simp <;> with_reducible rfl)
        try simp only [Act.put, List.setIfInBounds_toArray, List.set_cons_zero, List.set_cons_succ]
        refine wpAnyH_take (i := 13) (oi := ⟨some 75, _, _, _, _, _⟩) (v := ?_) rfl (by kernel_rfl) (by kernel_rfl) (by kernel_rfl) (fun _ _ _ h => h) (Or.inl ⟨by rfl, ?_⟩) (by assumption) ?_
        rotate_left 1
        · (intro W hSw; go_simp <;> with_reducible rfl)
        try simp only [Act.put, List.setIfInBounds_toArray, List.set_cons_zero, List.set_cons_succ]
        refine wpAnyH_take (i := 14) (oi := ⟨some 10, _, _, _, _, _⟩) (v := ?_) rfl (by kernel_rfl) (by kernel_rfl) (by kernel_rfl) (fun _ _ _ h => h) (Or.inl ⟨by rfl, ?_⟩) (by assumption) ?_
        rotate_left 1
        · (intro W hSw; go_simp <;> with_reducible rfl)
        try simp only [Act.put, List.setIfInBounds_toArray, List.set_cons_zero, List.set_cons_succ]
        refine wpAnyH_take (i := 15) (oi := ⟨some 11, _, _, _, _, _⟩) (v := ?_) rfl (by kernel_rfl) (by kernel_rfl) (by kernel_rfl) (fun _ _ _ h => h) (Or.inl ⟨by rfl, ?_⟩) (by assumption) ?_
        rotate_left 1
        · (intro W hSw; go_simp <;> with_reducible rfl)
        try simp only [Act.put, List.setIfInBounds_toArray, List.set_cons_zero, List.set_cons_succ]
        refine wpAnyH_done (by kernel_rfl) ?_ _
        refine NoPanic.normal ?_
        obtain ⟨hP, hbV, hBV⟩ := HP.out
        have hP5 := hP.on hBV hKeep5
        have hbw5 := hbV.trans (hKeep5.mono hbV.size)
        have cb1 := bags_same Aa A1 F.length ca c1 F W5 hSa (own_seesB hP5.f)
        have HQ := Lib.hid (And.intro hSb (And.intro (own_seesB hP5.k) hbw5))
        clear hSa hSb hb5 hKeep5 hP hbV hBV hP5 hbw5
        go_wp2_with fail
        refine cb1.mono ?_
        rintro e W6 ⟨rfl, hb6⟩
        obtain ⟨hSb, hSk, hbw5⟩ := HQ.out
        have cb2 := bags_same Ab A2 K.length cb c2 K W6 (hSb.on hb6) (hSk.on hb6)
        have HR := Lib.hid (hbw5.trans (hb6.mono hbw5.size))
        clear hSb hSk hbw5 hb6 cb1
        go_wp2_with fail
        refine cb2.mono ?_
        rintro e W7 ⟨rfl, hb7⟩
        have HS := Lib.hid (HR.out.trans (hb7.mono HR.out.size))
        clear hb7 cb2
        go_wp2
        go_ret
        exact ⟨rfl, HS.out⟩
end Go.Proofs.Ytfpocghjdhhkpaa
