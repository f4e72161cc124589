/- What is found through a word. Conditions: at most 1000 changes. -/
import Derived.Test.YtdilmapcjmdabaaAsk
namespace Go.Proofs.Ytdilmapcjmdabaa
open Go.ChangeShapes Go.WideShapes Go.RowKit
section
variable {w w' : World} {p : Nat} {L : Lim} {s : Sta} {H : His} {P : List Chg}
theorem find_plain {x : Wd} {v : Value} (hx : ¬ 1 ≤ x.c) : Calls Try.prog 15 #[v, .agg x.cs.toArray] w fun e w' => e = .returned (.int .i64 0) ∧ Below w.heap.size w w' := by
  obtain ⟨W1, eW1⟩ : ∃ W, W = w.alloc (.cells x.cs.toArray 24) := ⟨_, rfl⟩
  have hb1 : Below w.heap.size w W1 := by rw [eW1]; exact (Below.refl _ w).alloc (Nat.le_refl _) _
  have hB : Blk W1 w.heap.size 24 x.cs.toArray := by rw [eW1]; exact heap_alloc_new w _
  have hi := is_any x W1
  rw [decide_eq_false hx] at hi
  clear hx
  go_enter Try.func15, Try.ntmps15
  go_wp2_with (refine wpList_load_row rfl 24 (.tmp 3) rfl w.heap.size rfl 24 x.cs.toArray (0, 0) _ (eW1 ▸ hB) Try.underlying24 rfl size24 ?_)
  rw [← eW1]
  clear eW1
  refine hi.mono ?_
  rintro e w1 ⟨rfl, hb2⟩
  go_wp2
  go_ret
  exact ⟨rfl, hb1.trans (hb2.mono hb1.size)⟩
theorem find_no {x : Wd} {v : Value} (hx : 1 ≤ x.c) (h : ∀ W, Below w.heap.size w W → Calls Try.prog 36 #[v, .int .i64 x.c] W fun e w' => e = .returned (.bool false) ∧ W = w') :
    Calls Try.prog 15 #[v, .agg x.cs.toArray] w fun e w' => e = .returned (.int .i64 0) ∧ Below w.heap.size w w' := by
  obtain ⟨W1, eW1⟩ : ∃ W, W = w.alloc (.cells x.cs.toArray 24) := ⟨_, rfl⟩
  have hb1 : Below w.heap.size w W1 := by rw [eW1]; exact (Below.refl _ w).alloc (Nat.le_refl _) _
  have hB : Blk W1 w.heap.size 24 x.cs.toArray := by rw [eW1]; exact heap_alloc_new w _
  have hi := is_any x W1
  rw [decide_eq_true hx] at hi
  clear hx
  go_enter Try.func15, Try.ntmps15
  go_wp2_with (refine wpList_load_row rfl 24 (.tmp 3) rfl w.heap.size rfl 24 x.cs.toArray (0, 0) _ (eW1 ▸ hB) Try.underlying24 rfl size24 ?_)
  rw [← eW1]
  clear eW1
  refine hi.mono ?_
  rintro e w1 ⟨rfl, hb2⟩
  have c1 : w1.cell? ⟨w.heap.size, 1, none⟩ = some (.int .i64 x.c) := (hB.on hb2).cell 1
  go_wp2_with fail
  refine (h w1 (hb1.trans (hb2.mono hb1.size))).mono ?_
  rintro e w2 ⟨rfl, rfl⟩
  go_wp2
  go_ret
  exact ⟨rfl, hb1.trans (hb2.mono hb1.size)⟩
set_option maxRecDepth 100000 in
set_option maxHeartbeats 1000000 in
theorem find_at {x : Wd} {c : Cel} (h : Are w p L s.C s.R P) (hI : Inv s) (hc : s.cel x.c = some c) (hx : 1 ≤ x.c) :
    Calls Try.prog 15 #[.pointer (some ⟨p, 0, none⟩), .agg x.cs.toArray] w fun e w' => e = .returned (.int .i64 (if c.s = 0 ∨ c.g ≠ x.g then 1 else if c.s = 1 then 2 else 3)) ∧ Below w.heap.size w w' := by
  obtain ⟨R, eR⟩ : ∃ r : Int, r = (if c.s = 0 ∨ c.g ≠ x.g then 1 else if c.s = 1 then 2 else 3) := ⟨_, rfl⟩
  rw [← eR]
  obtain ⟨z, ez⟩ : ∃ z, z = w.heap.size := ⟨_, rfl⟩
  obtain ⟨W1, eW1⟩ : ∃ W, W = w.alloc (.cells x.cs.toArray 24) := ⟨_, rfl⟩
  have hb1 : Below w.heap.size w W1 := by rw [eW1]; exact (Below.refl _ w).alloc (Nat.le_refl _) _
  have hB : Blk W1 w.heap.size 24 x.cs.toArray := by rw [eW1]; exact heap_alloc_new w _
  have hi := is_any x W1
  rw [decide_eq_true hx] at hi
  have h1 := h.below hb1
  go_enter Try.func15, Try.ntmps15
  go_wp2_with (refine wpList_load_row rfl 24 (.tmp 3) rfl w.heap.size rfl 24 x.cs.toArray (0, 0) _ (eW1 ▸ hB) Try.underlying24 rfl size24 ?_)
  rw [← eW1, ← ez]
  rw [← ez] at hB hb1
  clear eW1
  have EZ := Lib.hid ez
  clear ez
  refine hi.mono ?_
  rintro e w1 ⟨rfl, hb2⟩
  have hB2 := hB.on hb2
  have c1 : w1.cell? ⟨z, 1, none⟩ = some (.int .i64 x.c) := hB2.cell 1
  have h2 := h1.below hb2
  have hh1 := has_any h2 x.c
  rw [has_some h2 hc] at hh1
  go_wp2_with fail
  refine hh1.mono ?_
  rintro e w2 ⟨rfl, rfl⟩
  go_wp2_with fail
  have h2d : Are w1.drew p L s.C s.R P := ⟨h2.box, ⟨h2.past.box, h2.past.op⟩, ⟨h2.stock.box, h2.stock.oc, h2.stock.or⟩⟩
  have hf0 : w1.drew.cell? ⟨p, 1, none⟩ = some (.pointer (some ⟨L.ps, 0, none⟩)) ∧ w1.drew.cell? ⟨z, 1, none⟩ = some (.int .i64 x.c) := ⟨h2.at1, c1⟩
  have hz1 : z < w1.drew.heap.size := hB2.lt
  have hfix : ∀ W, Below w1.drew.heap.size w1.drew W → W.cell? ⟨p, 1, none⟩ = some (.pointer (some ⟨L.ps, 0, none⟩)) ∧ W.cell? ⟨z, 1, none⟩ = some (.int .i64 x.c) := fun W hW =>
    ⟨(hW.cell h2d.box.lt).trans hf0.1, (hW.cell hz1).trans hf0.2⟩
  have hgo : ∀ W z6, Below w1.drew.heap.size w1.drew W → w1.drew.heap.size ≤ z6 → Blk W z6 45 c.cs.toArray → W.cell? ⟨z6, 0, none⟩ = some (.int .i64 c.s) ∧ W.cell? ⟨z6, 1, none⟩ = some (.int .i64 c.g) ∧ W.cell? ⟨z, 2, none⟩ = some (.int .i64 x.g) ∧ Below w.heap.size w W := fun W z6 hW _ hb =>
    ⟨hb.cell 0, hb.cell 1, (hW.cell hz1).trans (hB2.cell 2), by rw [← EZ.out]; exact hb1.trans (((hb2.mono (Nat.le_of_lt hB.lt)).drew).trans (hW.mono (Nat.le_of_lt hz1)))⟩
  clear hh1 hi c1
  refine wp_region_noPanic ?_
  refine wp_region_held_drew (S := fun W => W.cell? ⟨p, 1, none⟩ = some (.pointer (some ⟨L.ps, 0, none⟩)) ∧ W.cell? ⟨z, 1, none⟩ = some (.int .i64 x.c)) (by kernel_rfl) hf0 (fun hHeld => ?_)
  refine wpAnyH_take (i := 0) (oi := ⟨some 16, _, _, _, _, _⟩) (v := ?_) rfl (by kernel_rfl) (by kernel_rfl) (by kernel_rfl) (fun _ _ _ h => h) (Or.inl ⟨by rfl, ?_⟩) (by assumption) ?_
  rotate_left 1
  · (intro W hSw; go_simp <;> with_reducible rfl)
  try simp only [Act.put, List.setIfInBounds_toArray, List.set_cons_zero, List.set_cons_succ]
  refine wpAnyH_take (i := 1) (oi := ⟨some 17, _, _, _, _, _⟩) (v := ?_) rfl (by kernel_rfl) (by kernel_rfl) (by kernel_rfl) (fun _ _ _ h => h) (Or.inl ⟨by rfl, ?_⟩) (by assumption) ?_
  rotate_left 1
  · (intro W hSw; go_simp <;> with_reducible rfl)
  try simp only [Act.put, List.setIfInBounds_toArray, List.set_cons_zero, List.set_cons_succ]
  refine wpAnyH_take (i := 2) (oi := ⟨some 18, _, _, _, _, _⟩) (v := ?_) rfl (by kernel_rfl) (by kernel_rfl) (by kernel_rfl) (fun _ _ _ h => h) (Or.inl ⟨by rfl, ?_⟩) (by assumption) ?_
  rotate_left 1
  · (intro W hSw; go_simp <;> with_reducible rfl)
  try simp only [Act.put, List.setIfInBounds_toArray, List.set_cons_zero, List.set_cons_succ]
  refine wpAnyH_take (i := 3) (oi := ⟨some 19, _, _, _, _, _⟩) (v := ?_) rfl (by kernel_rfl) (by kernel_rfl) (by kernel_rfl) (fun _ _ _ h => h) (Or.inl ⟨by rfl, ?_⟩) (by assumption) ?_
  rotate_left 1
  · (intro W hSw; have hSw0 := hSw.1; clear hSw; go_simp <;> with_reducible rfl)
  try simp only [Act.put, List.setIfInBounds_toArray, List.set_cons_zero, List.set_cons_succ]
  refine wpAnyH_take (i := 4) (oi := ⟨some 20, _, _, _, _, _⟩) (v := ?_) rfl (by kernel_rfl) (by kernel_rfl) (by kernel_rfl) (fun _ _ _ h => h) (Or.inl ⟨by rfl, ?_⟩) (by assumption) ?_
  rotate_left 1
  · (intro W hSw; go_simp <;> with_reducible rfl)
  try simp only [Act.put, List.setIfInBounds_toArray, List.set_cons_zero, List.set_cons_succ]
  refine wpAnyH_take (i := 5) (oi := ⟨some 21, _, _, _, _, _⟩) (v := ?_) rfl (by kernel_rfl) (by kernel_rfl) (by kernel_rfl) (fun _ _ _ h => h) (Or.inl ⟨by rfl, ?_⟩) (by assumption) ?_
  rotate_left 1
  · (intro W hSw; have hSw0 := hSw.2; clear hSw; go_simp <;> with_reducible rfl)
  try simp only [Act.put, List.setIfInBounds_toArray, List.set_cons_zero, List.set_cons_succ]
  refine wpAnyH_ready (rs := [6, 7]) (by kernel_rfl) (by simp) ?_
  refine AllReadyH.cons rfl (fun K hK => ?_) (AllReadyH.cons rfl (fun K hK => ?_) AllReadyH.nil)
  · go_simp
    refine (at_did h2d hI hc).mono ?_
    rintro e w3 ⟨rfl, hb3⟩
    refine hK.out _ _ (hfix _ hb3) (fun hHeld1 => ?_)
    clear hHeld hK K
    try simp only [Act.put, List.setIfInBounds_toArray, List.set_cons_zero, List.set_cons_succ]
    refine wpAnyH_ready (rs := [7]) (by kernel_rfl) (by simp) ?_
    refine AllReadyH.cons rfl (fun K hK => ?_) AllReadyH.nil
    go_simp
    have hb4 : Below w1.drew.heap.size w1.drew (w3.alloc (.cells noC.cs.toArray 45)) := hb3.alloc hb3.size _
    refine hK.out _ _ (hfix _ hb4) (fun hHeld2 => ?_)
    clear hHeld1 hK K
    try simp only [Act.put, List.setIfInBounds_toArray, List.set_cons_zero, List.set_cons_succ]
    refine wpAnyH_ready (rs := [8]) (by kernel_rfl) (by simp) ?_
    refine AllReadyH.cons rfl (fun K hK => ?_) AllReadyH.nil
    rw [if_pos (by rfl)]
    have hB6 : Blk (w3.alloc (.cells noC.cs.toArray 45)) w3.heap.size 45 noC.cs.toArray := heap_alloc_new w3 _
    refine wp_store_row 45 (.tmp 5) (.tmp 22) rfl w3.heap.size c.cs.toArray rfl rfl 45 noC.cs.toArray hB6 size45 rfl c.onea ?_
    have hb5 := below_setRow hb4 hb3.size c.cs.toArray
    refine hK.out _ _ (hfix _ hb5) (fun hHeld3 => ?_)
    clear hHeld2 hK K
    refine wpAnyH_done (by kernel_rfl) ?_ _
    refine NoPanic.normal ?_
    obtain ⟨w6, ew6⟩ : ∃ W, W = (w3.alloc (.cells noC.cs.toArray 45)).setRow w3.heap.size c.cs.toArray := ⟨_, rfl⟩
    have hB7 : Blk w6 w3.heap.size 45 c.cs.toArray := by rw [ew6]; exact setRow_heap _ _ _ _ _ _ hB6
    show Exit.then _ _ _ _ ((w3.alloc (.cells noC.cs.toArray 45)).setRow w3.heap.size c.cs.toArray)
    rw [← ew6] at hb5 ⊢
    clear ew6 hHeld3
    obtain ⟨q0, q1, q2, hbw⟩ := hgo w6 w3.heap.size hb5 hb3.size hB7
    by_cases s0 : c.s = 0
    · have t0 : (c.s == 0) = true := by simpa using s0
      obtain rfl : R = 1 := by rw [eR, if_pos (.inl s0)]
      clear eR s0
      go_wp2
      go_ret
      exact ⟨rfl, hbw⟩
    · have t0 : (c.s == 0) = false := by simpa using s0
      by_cases s1 : c.g = x.g
      · have t1 : (c.g != x.g) = false := by simpa using s1
        by_cases s2 : c.s = 1
        · have t2 : (c.s == 1) = true := by simpa using s2
          obtain rfl : R = 2 := by rw [eR, if_neg (by simp [s0, s1]), if_pos s2]
          clear eR s0 s1 s2
          go_wp2
          go_ret
          exact ⟨rfl, hbw⟩
        · have t2 : (c.s == 1) = false := by simpa using s2
          obtain rfl : R = 3 := by rw [eR, if_neg (by simp [s0, s1]), if_neg s2]
          clear eR s0 s1 s2
          go_wp2
          go_ret
          exact ⟨rfl, hbw⟩
      · have t1 : (c.g != x.g) = true := by simpa using s1
        obtain rfl : R = 1 := by rw [eR, if_pos (.inr s1)]
        clear eR s0 s1
        go_wp2
        go_ret
        exact ⟨rfl, hbw⟩
  · go_simp
    have hb4 : Below w1.drew.heap.size w1.drew (w1.drew.alloc (.cells noC.cs.toArray 45)) := (Below.refl _ _).alloc (Nat.le_refl _) _
    have hB6 : Blk (w1.drew.alloc (.cells noC.cs.toArray 45)) w1.drew.heap.size 45 noC.cs.toArray := heap_alloc_new w1.drew _
    refine hK.out _ _ (hfix _ hb4) (fun hHeld1 => ?_)
    clear hHeld hK K
    try simp only [Act.put, List.setIfInBounds_toArray, List.set_cons_zero, List.set_cons_succ]
    refine wpAnyH_ready (rs := [6]) (by kernel_rfl) (by simp) ?_
    refine AllReadyH.cons rfl (fun K hK => ?_) AllReadyH.nil
    go_simp
    refine (at_did (w := w1.drew.alloc (.cells noC.cs.toArray 45)) (h2d.below hb4) hI hc).mono ?_
    rintro e w3 ⟨rfl, hb3⟩
    have hb34 := hb4.trans (hb3.mono hb4.size)
    have hB7 := hB6.on hb3
    refine hK.out _ _ (hfix _ hb34) (fun hHeld2 => ?_)
    clear hHeld1 hK K
    try simp only [Act.put, List.setIfInBounds_toArray, List.set_cons_zero, List.set_cons_succ]
    refine wpAnyH_ready (rs := [8]) (by kernel_rfl) (by simp) ?_
    refine AllReadyH.cons rfl (fun K hK => ?_) AllReadyH.nil
    rw [if_pos (by rfl)]
    refine wp_store_row 45 (.tmp 5) (.tmp 22) rfl w1.drew.heap.size c.cs.toArray rfl rfl 45 noC.cs.toArray hB7 size45 rfl c.onea ?_
    have hb5 := below_setRow hb34 (Nat.le_refl _) c.cs.toArray
    refine hK.out _ _ (hfix _ hb5) (fun hHeld3 => ?_)
    clear hHeld2 hK K
    refine wpAnyH_done (by kernel_rfl) ?_ _
    refine NoPanic.normal ?_
    obtain ⟨w6, ew6⟩ : ∃ W, W = w3.setRow w1.drew.heap.size c.cs.toArray := ⟨_, rfl⟩
    have hB8 : Blk w6 w1.drew.heap.size 45 c.cs.toArray := by rw [ew6]; exact setRow_heap _ _ _ _ _ _ hB7
    rw [← ew6] at hb5 ⊢
    clear ew6 hHeld3
    obtain ⟨q0, q1, q2, hbw⟩ := hgo w6 w1.heap.size hb5 (Nat.le_refl _) hB8
    by_cases s0 : c.s = 0
    · have t0 : (c.s == 0) = true := by simpa using s0
      obtain rfl : R = 1 := by rw [eR, if_pos (.inl s0)]
      clear eR s0
      go_wp2
      go_ret
      exact ⟨rfl, hbw⟩
    · have t0 : (c.s == 0) = false := by simpa using s0
      by_cases s1 : c.g = x.g
      · have t1 : (c.g != x.g) = false := by simpa using s1
        by_cases s2 : c.s = 1
        · have t2 : (c.s == 1) = true := by simpa using s2
          obtain rfl : R = 2 := by rw [eR, if_neg (by simp [s0, s1]), if_pos s2]
          clear eR s0 s1 s2
          go_wp2
          go_ret
          exact ⟨rfl, hbw⟩
        · have t2 : (c.s == 1) = false := by simpa using s2
          obtain rfl : R = 3 := by rw [eR, if_neg (by simp [s0, s1]), if_neg s2]
          clear eR s0 s1 s2
          go_wp2
          go_ret
          exact ⟨rfl, hbw⟩
      · have t1 : (c.g != x.g) = true := by simpa using s1
        obtain rfl : R = 1 := by rw [eR, if_pos (.inr s1)]
        clear eR s0 s1
        go_wp2
        go_ret
        exact ⟨rfl, hbw⟩

theorem find_any (x : Wd) (h : Are w p L s.C s.R P) (hI : Inv s) : Calls Try.prog 15 #[.pointer (some ⟨p, 0, none⟩), .agg x.cs.toArray] w fun e w' => e = .returned (.int .i64 (findM s x)) ∧ Below w.heap.size w w' := by
  unfold findM
  by_cases hx : 1 ≤ x.c
  · rw [if_pos hx]
    cases hc : s.cel x.c with
    | none =>
      exact find_no hx fun W hW => by
        have := has_any (h.below hW) x.c
        rw [has_none (h.below hW) hc] at this
        exact this
    | some c => exact find_at h hI hc hx
  · rw [if_neg hx]
    exact find_plain hx
end
end Go.Proofs.Ytdilmapcjmdabaa
