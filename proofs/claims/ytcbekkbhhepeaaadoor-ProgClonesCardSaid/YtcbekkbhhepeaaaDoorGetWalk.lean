/- The contract of a source's prog: the program, or the panic that tells where, and what, is wrong. Conditions: at most 2000 octets; the variable 'rows' lies as it is laid. -/
import Derived.Test.YtcbekkbhhepeaaaDoorParse
import Derived.Deep.Cut
import Derived.Deep.RegionHeld3
namespace Go.Proofs.YtcbekkbhhepeaaaDoor
open Go.RowKit

def Progs (xs : List Int) (g : Nat) (w : World) (p : Except (Int × Nat) Pr) (e : Ending) (w' : World) : Prop :=
  match p with
  | .ok p => ∃ A n cap, e = .returned (.agg #[.int .i64 p.r, .int .i64 p.c, .int .i64 p.s, .slice A n cap]) ∧ Mat w' (From w' w.heap.size) A n cap p.m ∧ Rd w' g xs xs.length true ∧ w.grownBy w' (some g)
  | .error err => Fails err g w e w'
theorem progs_err {xs : List Int} {g : Nat} {w w' : World} {err : Int × Nat} (h : getP xs = .error err) (hg : w.grownBy w' (some g)) : Progs xs g w (getP xs) (.panicked [{ v := .iface 59 (.agg #[.int .i64 (err.2 : Int), .int .i64 err.1]), recovered := false }]) w' := by
  rw [h]
  exact ⟨rfl, hg⟩
/-- The three numbers are read; they lie in block h. -/
def Heads (xs : List Int) (g : Nat) (w1 : World) (h : Nat) (w' : World) : Prop :=
  ∃ r c s, num1 xs 1 0 4 3 = .ok r ∧ num1 xs 2 0 6 3 = .ok c ∧ num1 xs 3 0 2 3 = .ok s ∧ Rd w' g xs 4 true ∧ w1.grownBy w' (some g) ∧ w1.heap.size ≤ h ∧ Blk w' h 24 (prg r c s none 0 0)
theorem heads_end {xs : List Int} {g h : Nat} {w1 w2 : World} {r c s : Int} (h1 : num1 xs 1 0 4 3 = .ok r) (h2 : num1 xs 2 0 6 3 = .ok c) (h3 : num1 xs 3 0 2 3 = .ok s) (hr : Rd w2 g xs (3 + 1) true) (hg : w1.grownBy w2 (some g)) (hh : w1.heap.size ≤ h) (hgh : g < h)
    (hb : Blk w2 h 24 (prg 0 0 0 none 0 0)) : Heads xs g w1 h (w2.setRow h (prg r c s none 0 0)) :=
  ⟨r, c, s, h1, h2, h3, hr.far fun b hb => setRow_other w2 h b _ (by omega), grown_setRow hg hh _, hh, setRow_heap _ _ _ _ _ _ hb⟩

set_option maxRecDepth 100000 in
set_option maxHeartbeats 4000000 in
theorem prog_any {w : World} {g : Nat} {xs : List Int} (h : Rd w g xs 0 true) (hg : 1 ≤ g) (hL : Laid w) :
    Calls Tryd.prog 29 #[.agg #[.pointer (some ⟨g, 0, none⟩)]] w (Progs xs g w (getP xs)) := by
  have hlt := h.lt
  obtain ⟨W0, eW0⟩ : ∃ W0, W0 = (w.alloc (.cells #[.pointer (some ⟨g, 0, none⟩)] 57)).alloc (.cells #[.int .i64 0, .int .i64 0, .int .i64 0, .slice none 0 0] 24) := ⟨_, rfl⟩
  have b0 : Below w.heap.size w W0 := by rw [eW0]; exact ((Below.refl _ w).alloc (Nat.le_refl _) _).alloc (by simp) _
  have s0 : W0.heap.size = w.heap.size + 2 := by rw [eW0]; simp
  have q1 : Blk W0 w.heap.size 57 #[.pointer (some ⟨g, 0, none⟩)] := by
    rw [eW0]
    exact Blk.below (heap_alloc_new w _) ((Below.refl _ _).alloc (Nat.le_refl _) _) (by simp)
  have q2 : Blk W0 (w.heap.size + 1) 24 (prg 0 0 0 none 0 0) := by
    rw [eW0]
    exact heap_alloc2_new w _ _
  have hR := h.below b0 h.lt
  have hN := number_any 83 83 1 hR
  have c0 := q1.cell 0
  have HS0 := Lib.hid s0
  clear s0
  cases h0 : num1 xs 0 83 83 1 with
  | error err =>
    rw [h0] at hN
    have hbg := below_grown b0 (some g)
    have HE := Lib.hid (getP_0 h0)
    clear h0
    go_enter Tryd.func29, Tryd.ntmps29
    go_wp2_with fail
    rw [← eW0]
    clear eW0
    go_wp2_with fail
    refine hN.mono ?_
    rintro e w1 ⟨rfl, hg1⟩
    have HQ := Lib.hid (grown_trans hbg hg1)
    clear hbg hg1 hN c0
    go_wp2
    exact ⟨rfl, progs_err HE.out HQ.out⟩
  | ok x83 =>
  rw [h0] at hN
  go_enter Tryd.func29, Tryd.ntmps29
  go_wp2_with fail
  rw [← eW0]
  clear eW0
  go_wp2_with fail
  refine hN.mono ?_
  rintro e w1 ⟨rfl, hr1, hg1⟩
  have Q1 : Blk w1 w.heap.size 57 #[.pointer (some ⟨g, 0, none⟩)] := (hg1.block _ q1.lt (by simp; omega)).trans q1
  have Q2 : Blk w1 (w.heap.size + 1) 24 (prg 0 0 0 none 0 0) := (hg1.block _ q2.lt (by simp; omega)).trans q2
  have c1 : w1.cell? ⟨w.heap.size, 0, none⟩ = some (.pointer (some ⟨g, 0, none⟩)) := Q1.cell 0
  have hgw := grown_trans (below_grown b0 (some g)) hg1
  have hw1 : w.heap.size + 2 ≤ w1.heap.size := by rw [← HS0.out]; exact hg1.size
  clear hN c0 q1 q2 hR hg1 b0
  go_upto_region 2 with fail
  go_cut [3] from 7 (fun p w' => ∃ h : Nat, p = .pointer (some ⟨h, 0, none⟩) ∧ Hid (Heads xs g w1 h w'))
  case first =>
    refine wp_region_held_drew (S := fun w' => w'.cell? ⟨w.heap.size, 0, none⟩ = some (.pointer (some ⟨g, 0, none⟩))) (by kernel_rfl) c1 (fun hHeld => ?_)
    refine wpAnyH_take (i := 0) (oi := ⟨some 7, _, _, _, _, _⟩) (v := ?_) rfl (by kernel_rfl) (by kernel_rfl) (by kernel_rfl) (fun _ _ _ h => h) (Or.inl ⟨by rfl, ?_⟩) (by assumption) ?_
    rotate_left 1
    · (intro W hSw; go_simp <;> with_reducible rfl)
    try simp only [Act.put, List.setIfInBounds_toArray, List.set_cons_zero, List.set_cons_succ]
    refine wpAnyH_take (i := 2) (oi := ⟨some 9, _, _, _, _, _⟩) (v := ?_) rfl (by kernel_rfl) (by kernel_rfl) (by kernel_rfl) (fun _ _ _ h => h) (Or.inl ⟨by rfl, ?_⟩) (by assumption) ?_
    rotate_left 1
    · (intro W hSw; go_simp <;> with_reducible rfl)
    try simp only [Act.put, List.setIfInBounds_toArray, List.set_cons_zero, List.set_cons_succ]
    refine wpAnyH_take (i := 4) (oi := ⟨some 11, _, _, _, _, _⟩) (v := ?_) rfl (by kernel_rfl) (by kernel_rfl) (by kernel_rfl) (fun _ _ _ h => h) (Or.inl ⟨by rfl, ?_⟩) (by assumption) ?_
    rotate_left 1
    · (intro W hSw; go_simp <;> with_reducible rfl)
    try simp only [Act.put, List.setIfInBounds_toArray, List.set_cons_zero, List.set_cons_succ]
    have hr0 : Rd w1.drew g xs (0 + 1) true := hr1.far fun b hb => rfl
    have gr0 : w1.grownBy w1.drew (some g) := ⟨rfl, rfl, rfl, Nat.le_refl _, fun _ _ _ => rfl⟩
    have cl0 : w1.drew.cell? ⟨w.heap.size, 0, none⟩ = some (.pointer (some ⟨g, 0, none⟩)) := c1
    generalize w1.drew = v0 at *
    refine wpAnyH_ready (rs := [1, 7]) (by kernel_rfl) (by simp) ?_
    refine AllReadyH.cons rfl (fun K hK => ?_) ?_
    · skip
      go_simp
      refine (number_any 0 4 3 hr0).mono ?_
      intro e v1 hp
      cases h1 : num1 xs 1 0 4 3 with
      | error err =>
        rw [h1] at hp
        obtain ⟨rfl, hgv⟩ := hp
        exact ⟨rfl, progs_err (getP_1 h0 h1) (grown_trans hgw (grown_trans gr0 hgv))⟩
      | ok r =>
        rw [h1] at hp
        obtain ⟨rfl, hr1, hgv⟩ := hp
        have gr1 := grown_trans gr0 hgv
        have cl1 : v1.cell? ⟨w.heap.size, 0, none⟩ = some (.pointer (some ⟨g, 0, none⟩)) := (cell_same (hgv.block _ (World.block_lt_of_cell? _ _ cl0) (by simp; omega)) 0).trans cl0
        clear hgv
        refine hK.out _ _ cl1 (fun hHeld => ?_)
        clear hK K
        try simp only [Act.put, List.setIfInBounds_toArray, List.set_cons_zero, List.set_cons_succ]
        refine wpAnyH_ready (rs := [3, 7]) (by kernel_rfl) (by simp) ?_
        refine AllReadyH.cons rfl (fun K hK => ?_) ?_
        · skip
          go_simp
          refine (number_any 0 6 3 hr1).mono ?_
          intro e v2 hp
          cases h2 : num1 xs 2 0 6 3 with
          | error err =>
            rw [h2] at hp
            obtain ⟨rfl, hgv⟩ := hp
            exact ⟨rfl, progs_err (getP_2 h0 h1 h2) (grown_trans hgw (grown_trans gr1 hgv))⟩
          | ok c =>
            rw [h2] at hp
            obtain ⟨rfl, hr2, hgv⟩ := hp
            have gr2 := grown_trans gr1 hgv
            have cl2 : v2.cell? ⟨w.heap.size, 0, none⟩ = some (.pointer (some ⟨g, 0, none⟩)) := (cell_same (hgv.block _ (World.block_lt_of_cell? _ _ cl1) (by simp; omega)) 0).trans cl1
            clear hgv
            refine hK.out _ _ cl2 (fun hHeld => ?_)
            clear hK K
            try simp only [Act.put, List.setIfInBounds_toArray, List.set_cons_zero, List.set_cons_succ]
            refine wpAnyH_ready (rs := [5, 7]) (by kernel_rfl) (by simp) ?_
            refine AllReadyH.cons rfl (fun K hK => ?_) ?_
            · skip
              go_simp
              refine (number_any 0 2 3 hr2).mono ?_
              intro e v3 hp
              cases h3 : num1 xs 3 0 2 3 with
              | error err =>
                rw [h3] at hp
                obtain ⟨rfl, hgv⟩ := hp
                exact ⟨rfl, progs_err (getP_3 h0 h1 h2 h3) (grown_trans hgw (grown_trans gr2 hgv))⟩
              | ok s =>
                rw [h3] at hp
                obtain ⟨rfl, hr3, hgv⟩ := hp
                have gr3 := grown_trans gr2 hgv
                have cl3 : v3.cell? ⟨w.heap.size, 0, none⟩ = some (.pointer (some ⟨g, 0, none⟩)) := (cell_same (hgv.block _ (World.block_lt_of_cell? _ _ cl2) (by simp; omega)) 0).trans cl2
                clear hgv
                refine hK.out _ _ cl3 (fun hHeld => ?_)
                clear hK K
                try simp only [Act.put, List.setIfInBounds_toArray, List.set_cons_zero, List.set_cons_succ]
                refine wpAnyH_take (i := 6) (oi := ⟨some 13, _, _, _, _, _⟩) (v := ?_) rfl (by kernel_rfl) (by kernel_rfl) (by kernel_rfl) (fun _ _ _ h => h) (Or.inl ⟨by rfl, ?_⟩) (by assumption) ?_
                rotate_left 1
                · (intro W hSw; go_simp <;> with_reducible rfl)
                try simp only [Act.put, List.setIfInBounds_toArray, List.set_cons_zero, List.set_cons_succ]
                refine wpAnyH_ready (rs := [7]) (by kernel_rfl) (by simp) ?_
                refine AllReadyH.cons rfl (fun K hK => ?_) ?_
                · skip
                  go_simp
                  obtain ⟨v4, ev4⟩ : ∃ W, W = v3.alloc (.cells #[.int .i64 0, .int .i64 0, .int .i64 0, .slice none 0 0] 24) := ⟨_, rfl⟩
                  have ba4 : Below v3.heap.size v3 v4 := by rw [ev4]; exact (Below.refl _ _).alloc (Nat.le_refl _) _
                  have bk4 : Blk v4 v3.heap.size 24 (prg 0 0 0 none 0 0) := by rw [ev4]; exact heap_alloc_new v3 _
                  have hr4 := hr3.below ba4 hr3.lt
                  have gr4 := grown_trans gr3 (below_grown ba4 (some g))
                  have cl4 : v4.cell? ⟨w.heap.size, 0, none⟩ = some (.pointer (some ⟨g, 0, none⟩)) := (ba4.cell (World.block_lt_of_cell? _ _ cl3)).trans cl3
                  obtain ⟨t4, et4⟩ : ∃ t, t = v3.heap.size := ⟨_, rfl⟩
                  have ge4 : w1.heap.size ≤ t4 := by rw [et4]; exact gr3.size
                  rw [← et4] at bk4
                  rw [← ev4, ← et4]
                  clear ev4 ba4 et4
                  refine hK.out _ _ cl4 (fun hHeld => ?_)
                  clear hK K
                  try simp only [Act.put, List.setIfInBounds_toArray, List.set_cons_zero, List.set_cons_succ]
                  refine wpAnyH_ready (rs := [8]) (by kernel_rfl) (by simp) ?_
                  refine AllReadyH.cons rfl (fun K hK => ?_) AllReadyH.nil
                  rw [if_pos (by rfl)]
                  refine wp_store_row 24 (.tmp 3) (.tmp 13) rfl t4 (prg r c s none 0 0) rfl rfl 24 (prg 0 0 0 none 0 0) bk4 info24 rfl (prg_one r c s none 0 0) ?_
                  have HM : Hid (Heads xs g w1 t4 (v4.setRow t4 (prg r c s none 0 0))) := Lib.hid (heads_end h1 h2 h3 hr4 gr4 ge4 (by omega) bk4)
                  refine hK.out _ _ ((cell_same (setRow_other v4 t4 w.heap.size _ (by omega)) 0).trans cl4) (fun hHeld => ?_)
                  refine wpAnyH_done (by kernel_rfl) ?_ _
                  clear hK hHeld
                  go_wp2_with fail
                  go_meet
                  case rel => exact ⟨t4, rfl, HM⟩
                exact AllReadyH.nil
            refine AllReadyH.cons rfl (fun K hK => ?_) ?_
            · skip
              go_simp
              obtain ⟨v5, ev5⟩ : ∃ W, W = v2.alloc (.cells #[.int .i64 0, .int .i64 0, .int .i64 0, .slice none 0 0] 24) := ⟨_, rfl⟩
              have ba5 : Below v2.heap.size v2 v5 := by rw [ev5]; exact (Below.refl _ _).alloc (Nat.le_refl _) _
              have bk5 : Blk v5 v2.heap.size 24 (prg 0 0 0 none 0 0) := by rw [ev5]; exact heap_alloc_new v2 _
              have hr5 := hr2.below ba5 hr2.lt
              have gr5 := grown_trans gr2 (below_grown ba5 (some g))
              have cl5 : v5.cell? ⟨w.heap.size, 0, none⟩ = some (.pointer (some ⟨g, 0, none⟩)) := (ba5.cell (World.block_lt_of_cell? _ _ cl2)).trans cl2
              obtain ⟨t5, et5⟩ : ∃ t, t = v2.heap.size := ⟨_, rfl⟩
              have ge5 : w1.heap.size ≤ t5 := by rw [et5]; exact gr2.size
              rw [← et5] at bk5
              rw [← ev5, ← et5]
              clear ev5 ba5 et5
              refine hK.out _ _ cl5 (fun hHeld => ?_)
              clear hK K
              try simp only [Act.put, List.setIfInBounds_toArray, List.set_cons_zero, List.set_cons_succ]
              refine wpAnyH_ready (rs := [5]) (by kernel_rfl) (by simp) ?_
              refine AllReadyH.cons rfl (fun K hK => ?_) ?_
              · skip
                go_simp
                refine (number_any 0 2 3 hr5).mono ?_
                intro e v6 hp
                cases h3 : num1 xs 3 0 2 3 with
                | error err =>
                  rw [h3] at hp
                  obtain ⟨rfl, hgv⟩ := hp
                  exact ⟨rfl, progs_err (getP_3 h0 h1 h2 h3) (grown_trans hgw (grown_trans gr5 hgv))⟩
                | ok s =>
                  rw [h3] at hp
                  obtain ⟨rfl, hr6, hgv⟩ := hp
                  have gr6 := grown_trans gr5 hgv
                  have cl6 : v6.cell? ⟨w.heap.size, 0, none⟩ = some (.pointer (some ⟨g, 0, none⟩)) := (cell_same (hgv.block _ (World.block_lt_of_cell? _ _ cl5) (by simp; omega)) 0).trans cl5
                  have bk6 : Blk v6 t5 24 (prg 0 0 0 none 0 0) := (hgv.block _ bk5.lt (by simp; omega)).trans bk5
                  clear hgv
                  refine hK.out _ _ cl6 (fun hHeld => ?_)
                  clear hK K
                  try simp only [Act.put, List.setIfInBounds_toArray, List.set_cons_zero, List.set_cons_succ]
                  refine wpAnyH_take (i := 6) (oi := ⟨some 13, _, _, _, _, _⟩) (v := ?_) rfl (by kernel_rfl) (by kernel_rfl) (by kernel_rfl) (fun _ _ _ h => h) (Or.inl ⟨by rfl, ?_⟩) (by assumption) ?_
                  rotate_left 1
                  · (intro W hSw; go_simp <;> with_reducible rfl)
                  try simp only [Act.put, List.setIfInBounds_toArray, List.set_cons_zero, List.set_cons_succ]
                  refine wpAnyH_ready (rs := [8]) (by kernel_rfl) (by simp) ?_
                  refine AllReadyH.cons rfl (fun K hK => ?_) AllReadyH.nil
                  rw [if_pos (by rfl)]
                  refine wp_store_row 24 (.tmp 3) (.tmp 13) rfl t5 (prg r c s none 0 0) rfl rfl 24 (prg 0 0 0 none 0 0) bk6 info24 rfl (prg_one r c s none 0 0) ?_
                  have HM : Hid (Heads xs g w1 t5 (v6.setRow t5 (prg r c s none 0 0))) := Lib.hid (heads_end h1 h2 h3 hr6 gr6 ge5 (by omega) bk6)
                  refine hK.out _ _ ((cell_same (setRow_other v6 t5 w.heap.size _ (by omega)) 0).trans cl6) (fun hHeld => ?_)
                  refine wpAnyH_done (by kernel_rfl) ?_ _
                  clear hK hHeld
                  go_wp2_with fail
                  go_meet
                  case rel => exact ⟨t5, rfl, HM⟩
              exact AllReadyH.nil
            exact AllReadyH.nil
        refine AllReadyH.cons rfl (fun K hK => ?_) ?_
        · skip
          go_simp
          obtain ⟨v7, ev7⟩ : ∃ W, W = v1.alloc (.cells #[.int .i64 0, .int .i64 0, .int .i64 0, .slice none 0 0] 24) := ⟨_, rfl⟩
          have ba7 : Below v1.heap.size v1 v7 := by rw [ev7]; exact (Below.refl _ _).alloc (Nat.le_refl _) _
          have bk7 : Blk v7 v1.heap.size 24 (prg 0 0 0 none 0 0) := by rw [ev7]; exact heap_alloc_new v1 _
          have hr7 := hr1.below ba7 hr1.lt
          have gr7 := grown_trans gr1 (below_grown ba7 (some g))
          have cl7 : v7.cell? ⟨w.heap.size, 0, none⟩ = some (.pointer (some ⟨g, 0, none⟩)) := (ba7.cell (World.block_lt_of_cell? _ _ cl1)).trans cl1
          obtain ⟨t7, et7⟩ : ∃ t, t = v1.heap.size := ⟨_, rfl⟩
          have ge7 : w1.heap.size ≤ t7 := by rw [et7]; exact gr1.size
          rw [← et7] at bk7
          rw [← ev7, ← et7]
          clear ev7 ba7 et7
          refine hK.out _ _ cl7 (fun hHeld => ?_)
          clear hK K
          try simp only [Act.put, List.setIfInBounds_toArray, List.set_cons_zero, List.set_cons_succ]
          refine wpAnyH_ready (rs := [3]) (by kernel_rfl) (by simp) ?_
          refine AllReadyH.cons rfl (fun K hK => ?_) ?_
          · skip
            go_simp
            refine (number_any 0 6 3 hr7).mono ?_
            intro e v8 hp
            cases h2 : num1 xs 2 0 6 3 with
            | error err =>
              rw [h2] at hp
              obtain ⟨rfl, hgv⟩ := hp
              exact ⟨rfl, progs_err (getP_2 h0 h1 h2) (grown_trans hgw (grown_trans gr7 hgv))⟩
            | ok c =>
              rw [h2] at hp
              obtain ⟨rfl, hr8, hgv⟩ := hp
              have gr8 := grown_trans gr7 hgv
              have cl8 : v8.cell? ⟨w.heap.size, 0, none⟩ = some (.pointer (some ⟨g, 0, none⟩)) := (cell_same (hgv.block _ (World.block_lt_of_cell? _ _ cl7) (by simp; omega)) 0).trans cl7
              have bk8 : Blk v8 t7 24 (prg 0 0 0 none 0 0) := (hgv.block _ bk7.lt (by simp; omega)).trans bk7
              clear hgv
              refine hK.out _ _ cl8 (fun hHeld => ?_)
              clear hK K
              try simp only [Act.put, List.setIfInBounds_toArray, List.set_cons_zero, List.set_cons_succ]
              refine wpAnyH_ready (rs := [5]) (by kernel_rfl) (by simp) ?_
              refine AllReadyH.cons rfl (fun K hK => ?_) ?_
              · skip
                go_simp
                refine (number_any 0 2 3 hr8).mono ?_
                intro e v9 hp
                cases h3 : num1 xs 3 0 2 3 with
                | error err =>
                  rw [h3] at hp
                  obtain ⟨rfl, hgv⟩ := hp
                  exact ⟨rfl, progs_err (getP_3 h0 h1 h2 h3) (grown_trans hgw (grown_trans gr8 hgv))⟩
                | ok s =>
                  rw [h3] at hp
                  obtain ⟨rfl, hr9, hgv⟩ := hp
                  have gr9 := grown_trans gr8 hgv
                  have cl9 : v9.cell? ⟨w.heap.size, 0, none⟩ = some (.pointer (some ⟨g, 0, none⟩)) := (cell_same (hgv.block _ (World.block_lt_of_cell? _ _ cl8) (by simp; omega)) 0).trans cl8
                  have bk9 : Blk v9 t7 24 (prg 0 0 0 none 0 0) := (hgv.block _ bk8.lt (by simp; omega)).trans bk8
                  clear hgv
                  refine hK.out _ _ cl9 (fun hHeld => ?_)
                  clear hK K
                  try simp only [Act.put, List.setIfInBounds_toArray, List.set_cons_zero, List.set_cons_succ]
                  refine wpAnyH_take (i := 6) (oi := ⟨some 13, _, _, _, _, _⟩) (v := ?_) rfl (by kernel_rfl) (by kernel_rfl) (by kernel_rfl) (fun _ _ _ h => h) (Or.inl ⟨by rfl, ?_⟩) (by assumption) ?_
                  rotate_left 1
                  · (intro W hSw; go_simp <;> with_reducible rfl)
                  try simp only [Act.put, List.setIfInBounds_toArray, List.set_cons_zero, List.set_cons_succ]
                  refine wpAnyH_ready (rs := [8]) (by kernel_rfl) (by simp) ?_
                  refine AllReadyH.cons rfl (fun K hK => ?_) AllReadyH.nil
                  rw [if_pos (by rfl)]
                  refine wp_store_row 24 (.tmp 3) (.tmp 13) rfl t7 (prg r c s none 0 0) rfl rfl 24 (prg 0 0 0 none 0 0) bk9 info24 rfl (prg_one r c s none 0 0) ?_
                  have HM : Hid (Heads xs g w1 t7 (v9.setRow t7 (prg r c s none 0 0))) := Lib.hid (heads_end h1 h2 h3 hr9 gr9 ge7 (by omega) bk9)
                  refine hK.out _ _ ((cell_same (setRow_other v9 t7 w.heap.size _ (by omega)) 0).trans cl9) (fun hHeld => ?_)
                  refine wpAnyH_done (by kernel_rfl) ?_ _
                  clear hK hHeld
                  go_wp2_with fail
                  go_meet
                  case rel => exact ⟨t7, rfl, HM⟩
              exact AllReadyH.nil
          exact AllReadyH.nil
        exact AllReadyH.nil
    refine AllReadyH.cons rfl (fun K hK => ?_) ?_
    · skip
      go_simp
      obtain ⟨v10, ev10⟩ : ∃ W, W = v0.alloc (.cells #[.int .i64 0, .int .i64 0, .int .i64 0, .slice none 0 0] 24) := ⟨_, rfl⟩
      have ba10 : Below v0.heap.size v0 v10 := by rw [ev10]; exact (Below.refl _ _).alloc (Nat.le_refl _) _
      have bk10 : Blk v10 v0.heap.size 24 (prg 0 0 0 none 0 0) := by rw [ev10]; exact heap_alloc_new v0 _
      have hr10 := hr0.below ba10 hr0.lt
      have gr10 := grown_trans gr0 (below_grown ba10 (some g))
      have cl10 : v10.cell? ⟨w.heap.size, 0, none⟩ = some (.pointer (some ⟨g, 0, none⟩)) := (ba10.cell (World.block_lt_of_cell? _ _ cl0)).trans cl0
      obtain ⟨t10, et10⟩ : ∃ t, t = v0.heap.size := ⟨_, rfl⟩
      have ge10 : w1.heap.size ≤ t10 := by rw [et10]; exact gr0.size
      rw [← et10] at bk10
      rw [← ev10, ← et10]
      clear ev10 ba10 et10
      refine hK.out _ _ cl10 (fun hHeld => ?_)
      clear hK K
      try simp only [Act.put, List.setIfInBounds_toArray, List.set_cons_zero, List.set_cons_succ]
      refine wpAnyH_ready (rs := [1]) (by kernel_rfl) (by simp) ?_
      refine AllReadyH.cons rfl (fun K hK => ?_) ?_
      · skip
        go_simp
        refine (number_any 0 4 3 hr10).mono ?_
        intro e v11 hp
        cases h1 : num1 xs 1 0 4 3 with
        | error err =>
          rw [h1] at hp
          obtain ⟨rfl, hgv⟩ := hp
          exact ⟨rfl, progs_err (getP_1 h0 h1) (grown_trans hgw (grown_trans gr10 hgv))⟩
        | ok r =>
          rw [h1] at hp
          obtain ⟨rfl, hr11, hgv⟩ := hp
          have gr11 := grown_trans gr10 hgv
          have cl11 : v11.cell? ⟨w.heap.size, 0, none⟩ = some (.pointer (some ⟨g, 0, none⟩)) := (cell_same (hgv.block _ (World.block_lt_of_cell? _ _ cl10) (by simp; omega)) 0).trans cl10
          have bk11 : Blk v11 t10 24 (prg 0 0 0 none 0 0) := (hgv.block _ bk10.lt (by simp; omega)).trans bk10
          clear hgv
          refine hK.out _ _ cl11 (fun hHeld => ?_)
          clear hK K
          try simp only [Act.put, List.setIfInBounds_toArray, List.set_cons_zero, List.set_cons_succ]
          refine wpAnyH_ready (rs := [3]) (by kernel_rfl) (by simp) ?_
          refine AllReadyH.cons rfl (fun K hK => ?_) ?_
          · skip
            go_simp
            refine (number_any 0 6 3 hr11).mono ?_
            intro e v12 hp
            cases h2 : num1 xs 2 0 6 3 with
            | error err =>
              rw [h2] at hp
              obtain ⟨rfl, hgv⟩ := hp
              exact ⟨rfl, progs_err (getP_2 h0 h1 h2) (grown_trans hgw (grown_trans gr11 hgv))⟩
            | ok c =>
              rw [h2] at hp
              obtain ⟨rfl, hr12, hgv⟩ := hp
              have gr12 := grown_trans gr11 hgv
              have cl12 : v12.cell? ⟨w.heap.size, 0, none⟩ = some (.pointer (some ⟨g, 0, none⟩)) := (cell_same (hgv.block _ (World.block_lt_of_cell? _ _ cl11) (by simp; omega)) 0).trans cl11
              have bk12 : Blk v12 t10 24 (prg 0 0 0 none 0 0) := (hgv.block _ bk11.lt (by simp; omega)).trans bk11
              clear hgv
              refine hK.out _ _ cl12 (fun hHeld => ?_)
              clear hK K
              try simp only [Act.put, List.setIfInBounds_toArray, List.set_cons_zero, List.set_cons_succ]
              refine wpAnyH_ready (rs := [5]) (by kernel_rfl) (by simp) ?_
              refine AllReadyH.cons rfl (fun K hK => ?_) ?_
              · skip
                go_simp
                refine (number_any 0 2 3 hr12).mono ?_
                intro e v13 hp
                cases h3 : num1 xs 3 0 2 3 with
                | error err =>
                  rw [h3] at hp
                  obtain ⟨rfl, hgv⟩ := hp
                  exact ⟨rfl, progs_err (getP_3 h0 h1 h2 h3) (grown_trans hgw (grown_trans gr12 hgv))⟩
                | ok s =>
                  rw [h3] at hp
                  obtain ⟨rfl, hr13, hgv⟩ := hp
                  have gr13 := grown_trans gr12 hgv
                  have cl13 : v13.cell? ⟨w.heap.size, 0, none⟩ = some (.pointer (some ⟨g, 0, none⟩)) := (cell_same (hgv.block _ (World.block_lt_of_cell? _ _ cl12) (by simp; omega)) 0).trans cl12
                  have bk13 : Blk v13 t10 24 (prg 0 0 0 none 0 0) := (hgv.block _ bk12.lt (by simp; omega)).trans bk12
                  clear hgv
                  refine hK.out _ _ cl13 (fun hHeld => ?_)
                  clear hK K
                  try simp only [Act.put, List.setIfInBounds_toArray, List.set_cons_zero, List.set_cons_succ]
                  refine wpAnyH_take (i := 6) (oi := ⟨some 13, _, _, _, _, _⟩) (v := ?_) rfl (by kernel_rfl) (by kernel_rfl) (by kernel_rfl) (fun _ _ _ h => h) (Or.inl ⟨by rfl, ?_⟩) (by assumption) ?_
                  rotate_left 1
                  · (intro W hSw; go_simp <;> with_reducible rfl)
                  try simp only [Act.put, List.setIfInBounds_toArray, List.set_cons_zero, List.set_cons_succ]
                  refine wpAnyH_ready (rs := [8]) (by kernel_rfl) (by simp) ?_
                  refine AllReadyH.cons rfl (fun K hK => ?_) AllReadyH.nil
                  rw [if_pos (by rfl)]
                  refine wp_store_row 24 (.tmp 3) (.tmp 13) rfl t10 (prg r c s none 0 0) rfl rfl 24 (prg 0 0 0 none 0 0) bk13 info24 rfl (prg_one r c s none 0 0) ?_
                  have HM : Hid (Heads xs g w1 t10 (v13.setRow t10 (prg r c s none 0 0))) := Lib.hid (heads_end h1 h2 h3 hr13 gr13 ge10 (by omega) bk13)
                  refine hK.out _ _ ((cell_same (setRow_other v13 t10 w.heap.size _ (by omega)) 0).trans cl13) (fun hHeld => ?_)
                  refine wpAnyH_done (by kernel_rfl) ?_ _
                  clear hK hHeld
                  go_wp2_with fail
                  go_meet
                  case rel => exact ⟨t10, rfl, HM⟩
              exact AllReadyH.nil
          exact AllReadyH.nil
      exact AllReadyH.nil
    exact AllReadyH.nil
  case rest =>
    obtain ⟨t, rfl, HH⟩ := hcut
    obtain ⟨r, c, s, h1, h2, h3, hr, hgc, hth, T1⟩ := HH.out
    obtain ⟨hr5, hs5⟩ : (0 ≤ r ∧ r ≤ 4) ∧ (0 ≤ s ∧ s ≤ 2) := ⟨⟨(num1_in h1).1, (num1_in h1).2.1⟩, ⟨(num1_in h3).1, (num1_in h3).2.1⟩⟩
    have R1 : Blk wc w.heap.size 57 #[.pointer (some ⟨g, 0, none⟩)] := (hgc.block _ Q1.lt (by simp; omega)).trans Q1
    have R2 : Blk wc (w.heap.size + 1) 24 (prg 0 0 0 none 0 0) := (hgc.block _ Q2.lt (by simp; omega)).trans Q2
    have hgw2 := grown_trans hgw hgc
    have hN := number_any 1 4 4 hr
    have hH := Lib.hid (And.intro h0 (And.intro h1 (And.intro h2 h3)))
    have hwt : w.heap.size + 2 ≤ t := by omega
    have d0 := R1.cell 0
    clear HH h0 h1 h2 h3 Q1 Q2 c1 hgw hgc hr1
    cases h4 : num1 xs 4 1 4 4 with
    | error err =>
      rw [h4] at hN
      have HE := Lib.hid (getP_4 hH.out.1 hH.out.2.1 hH.out.2.2.1 hH.out.2.2.2 h4)
      clear h4 R1 R2 T1 hr
      go_wp2_with fail
      refine hN.mono ?_
      rintro e w2 ⟨rfl, hg2⟩
      have HQ := Lib.hid (grown_trans hgw2 hg2)
      clear hg2 hN d0
      go_wp2
      exact ⟨rfl, progs_err HE.out HQ.out⟩
    | ok k =>
      rw [h4] at hN
      obtain ⟨k1, k4, _⟩ := num1_in h4
      obtain ⟨n, rfl⟩ : ∃ n : Nat, k = n := ⟨k.toNat, by omega⟩
      have HE : Hid (getP xs = bodyP xs r c s n) := Lib.hid (getP_5 hH.out.1 hH.out.2.1 hH.out.2.2.1 hH.out.2.2.2 h4)
      obtain ⟨i0, hi0, hz0, hz1, hz2⟩ := info_parts info46
      have Z0 := Lib.hid hz0
      have Z1 := Lib.hid hz1
      have Z2 := Lib.hid hz2
      have I0 := Lib.hid hi0
      clear hz0 hz1 hz2 hi0 h4 hr
      go_wp2_with fail
      refine hN.mono ?_
      rintro e w2 ⟨rfl, hr2, hg2⟩
      clear d0 hN
      have S1 : Blk w2 w.heap.size 57 #[.pointer (some ⟨g, 0, none⟩)] := (hg2.block _ R1.lt (by simp; omega)).trans R1
      have S2 : Blk w2 (w.heap.size + 1) 24 (prg 0 0 0 none 0 0) := (hg2.block _ R2.lt (by simp; omega)).trans R2
      have S3 : Blk w2 t 24 (prg r c s none 0 0) := (hg2.block _ T1.lt (by simp; omega)).trans T1
      have hgw3 := grown_trans hgw2 hg2
      have hst := S3.lt
      have U4 : ∀ w3, w2.grownBy w3 none → w3.cell? ⟨t, 3, none⟩ = some (.slice none 0 0) ∧ w3.frozen? ⟨t, 3, none⟩ = false := fun w3 hg3 => by
        have hb : Blk w3 t 24 (prg r c s none 0 0) := (hg3.block _ hst (by simp)).trans S3
        exact ⟨hb.cell 3, hb.free 3⟩
      clear R1 R2 T1 hg2 hgw2
      go_wp2_with (first
        | (at_make; refine wpList_make_full _ rfl _ _ 22 rfl w2.heap.size 46 i0 (.slice none 0 0) 1 Tryd.underlying22 I0.out Z0.out Z1.out .i64 .i64 _ _ n rfl rfl rfl rfl (by rw [Z2.out]; omega) (by unfold maxLen; omega) (Nat.le_refl _) ?_; intro w3 hown3 hg3; obtain ⟨u3, f3⟩ := U4 w3 hg3))
      obtain ⟨H, eH⟩ : ∃ H, w2.heap.size = H := ⟨_, rfl⟩
      rw [eH] at hown3 hst ⊢
      obtain ⟨W3, eW3⟩ : ∃ W, W = w3.setCell ⟨t, 3, none⟩ (.slice (some ⟨H, 0, none⟩) n n) := ⟨_, rfl⟩
      rw [← eW3]
      have e3 : ∀ b, b ≠ t → b < w2.heap.size → W3.heap[b]? = w2.heap[b]? := fun b hb hlt => by rw [eW3, heap_set w3 t 3 b _ hb]; exact hg3.block b hlt (by simp)
      have V1 : Blk W3 w.heap.size 57 #[.pointer (some ⟨g, 0, none⟩)] := (e3 _ (by omega) S1.lt).trans S1
      have V2 : Blk W3 (w.heap.size + 1) 24 (prg 0 0 0 none 0 0) := (e3 _ (by omega) S2.lt).trans S2
      have V3 : Blk W3 t 24 (prg r c s (some ⟨H, 0, none⟩) n n) := by
        rw [eW3]
        have hb : Blk w3 t 24 (prg r c s none 0 0) := (hg3.block _ (by omega) (by simp)).trans S3
        exact hb.set_ 3 _
      have hrW : Rd W3 g xs (5 + sizeM []) true := hr2.far fun b hb => e3 b (by omega) (by have := hr2.lt; omega)
      have hgW : w.grownBy W3 (some g) := by
        rw [eW3]
        refine ⟨hg3.os.trans hgw3.os, hg3.tape.trans hgw3.tape, hg3.output.trans hgw3.output, by simpa [World.setCell] using Nat.le_trans hgw3.size hg3.size, fun k hk hne => ?_⟩
        rw [heap_set w3 t 3 k _ (by omega)]
        exact (hg3.block k (Nat.lt_of_lt_of_le hk hgw3.size) (by simp)).trans (hgw3.block k hk hne)
      obtain ⟨vs0, hv0⟩ : ∃ vs : List Value, W3.ownsRow H 46 1 (.slice (some ⟨H, 0, none⟩) n n) n vs := by
        refine ⟨_, hown3.1, ?_⟩
        rcases hown3.2 with ⟨h2, _⟩ | ⟨g', c', cur, e1, e2, h3, h4⟩
        · cases h2
        · refine .inr ⟨g', c', cur, e1, e2, ?_, h4⟩
          rw [eW3, heap_set w3 t 3 g' _ (by omega)]
          exact h3
      have hHW : H < W3.heap.size := (hv0.lt H rfl).2
      have HH := Lib.hid (And.intro hst hHW)
      have hLW := hL.grown hgW hg
      have HV0 := Lib.hid (And.intro hrW hv0)
      clear hrW hv0 hown3 hg3 u3 f3 U4 S1 S2 S3 e3 eW3 hr2 hst hHW eH hgw3
      go_loopw [21] (fun i wr => ∃ (j : Nat) (pre : List (List Ins)) (vs : List Value), i = .int .i64 j ∧ j ≤ n ∧ pre.length = j ∧ Rd wr g xs (5 + sizeM pre) true ∧ Two W3 wr g H ∧ wr.ownsRow H 46 1 (.slice (some ⟨H, 0, none⟩) n n) n vs
        ∧ (∀ (i : Nat) (ys : List Ins), pre[i]? = some ys → ∃ A' n' cap', vs[i]? = some (.slice A' n' cap') ∧ wr.ownsRow W3.heap.size 45 5 (.slice A' n' cap') n' (flat5 ys))
        ∧ thrs xs r s n 5 = andL pre (thrs xs r s (n - j) (5 + sizeM pre))) (fun i _ => n - (intOf i).toNat)
      case atStart => exact ⟨0, [], vs0, rfl, Nat.zero_le _, rfl, HV0.out.1, Two.refl _ _ _, HV0.out.2, fun i ys h => by simp at h, by rw [andL_nil]; rfl⟩
      case round =>
        obtain ⟨j, pre, vs, rfl, hj, hpre, hr, hT, hown, hall, hE⟩ := hrel
        clear HV0
        generalize wr = w4 at *
        obtain ⟨hst, hHW⟩ := HH.out
        have X1 := Two.blk V1 hT (by omega) (by omega)
        have X2 := Two.blk V2 hT (by omega) (by omega)
        have X3 := Two.blk V3 hT (by omega) (by omega)
        have hb := Two.back hgW hT (by omega)
        have HA := Lib.hid hall
        have HP := Lib.hid hpre
        have HR := Lib.hid hE
        clear hall hpre hE hst hHW
        have z0 : w4.cell? ⟨t, 0, none⟩ = some (.int .i64 r) := X3.cell 0
        have z1 : w4.cell? ⟨t, 1, none⟩ = some (.int .i64 c) := X3.cell 1
        have z2 : w4.cell? ⟨t, 2, none⟩ = some (.int .i64 s) := X3.cell 2
        have z3 : w4.cell? ⟨t, 3, none⟩ = some (.slice (some ⟨H, 0, none⟩) n n) := X3.cell 3
        have z4 : w4.cell? ⟨w.heap.size, 0, none⟩ = some (.pointer (some ⟨g, 0, none⟩)) := X1.cell 0
        by_cases hlt : j < n
        · have t0 : decide ((j : Int) < (n : Int)) = true := decide_eq_true (by omega)
          have j0 : (0 : Int) ≤ (j : Int) := by omega
          have j1 : (j : Int) < (n : Int) := by omega
          obtain ⟨q, hq, hq2⟩ : ∃ q, n - j = q + 1 ∧ n - (j + 1) = q := ⟨n - j - 1, by omega, by omega⟩
          have HQ2 := Lib.hid (And.intro hq hq2)
          clear hq hq2
          go_wp2_with fail
          refine wp_region_held_drew (S := fun W => W.cell? ⟨t, 0, none⟩ = some (.int .i64 r) ∧ W.cell? ⟨t, 1, none⟩ = some (.int .i64 c) ∧ W.cell? ⟨t, 2, none⟩ = some (.int .i64 s) ∧ W.cell? ⟨t, 3, none⟩ = some (.slice (some ⟨H, 0, none⟩) n n) ∧ W.cell? ⟨w.heap.size, 0, none⟩ = some (.pointer (some ⟨g, 0, none⟩))) (by kernel_rfl) ⟨z0, z1, z2, z3, z4⟩ (fun hHeld => ?_)
          refine wpAnyH_take (i := 0) (oi := ⟨some 24, _, _, _, _, _⟩) (v := ?_) rfl (by kernel_rfl) (by kernel_rfl) (by kernel_rfl) (fun _ _ _ h => h) (Or.inl ⟨by rfl, ?_⟩) (by assumption) ?_
          rotate_left 1
          · (intro W hSw; go_simp <;> with_reducible rfl)
          try simp only [Act.put, List.setIfInBounds_toArray, List.set_cons_zero, List.set_cons_succ]
          refine wpAnyH_take (i := 1) (oi := ⟨some 25, _, _, _, _, _⟩) (v := ?_) rfl (by kernel_rfl) (by kernel_rfl) (by kernel_rfl) (fun _ _ _ h => h) (Or.inl ⟨by rfl, ?_⟩) (by assumption) ?_
          rotate_left 1
          · (intro W hSw; go_simp <;> with_reducible rfl)
          try simp only [Act.put, List.setIfInBounds_toArray, List.set_cons_zero, List.set_cons_succ]
          refine wpAnyH_take (i := 2) (oi := ⟨some 26, _, _, _, _, _⟩) (v := ?_) rfl (by kernel_rfl) (by kernel_rfl) (by kernel_rfl) (fun _ _ _ h => h) (Or.inl ⟨by rfl, ?_⟩) (by assumption) ?_
          rotate_left 1
          · (intro W hSw; go_simp <;> with_reducible rfl)
          try simp only [Act.put, List.setIfInBounds_toArray, List.set_cons_zero, List.set_cons_succ]
          refine wpAnyH_take (i := 3) (oi := ⟨some 27, _, _, _, _, _⟩) (v := ?_) rfl (by kernel_rfl) (by kernel_rfl) (by kernel_rfl) (fun _ _ _ h => h) (Or.inl ⟨by rfl, ?_⟩) (by assumption) ?_
          rotate_left 1
          · (intro W hSw; go_simp <;> with_reducible rfl)
          try simp only [Act.put, List.setIfInBounds_toArray, List.set_cons_zero, List.set_cons_succ]
          refine wpAnyH_take (i := 4) (oi := ⟨some 28, _, _, _, _, _⟩) (v := ?_) rfl (by kernel_rfl) (by kernel_rfl) (by kernel_rfl) (fun _ _ _ h => h) (Or.inl ⟨by rfl, ?_⟩) (by assumption) ?_
          rotate_left 1
          · (intro W hSw; go_simp <;> with_reducible rfl)
          try simp only [Act.put, List.setIfInBounds_toArray, List.set_cons_zero, List.set_cons_succ]
          have hr0 : Rd w4.drew g xs (5 + sizeM pre) true := hr.far fun b hb => rfl
          have gr0 : w4.grownBy w4.drew (some g) := ⟨rfl, rfl, rfl, Nat.le_refl _, fun _ _ _ => rfl⟩
          have hI := thread_any hr0 hg ((hL.grown hb hg).grown gr0 hg) r c s (some ⟨H, 0, none⟩) n n
          refine wpAnyH_ready (rs := [5]) (by kernel_rfl) (by simp) ?_
          refine AllReadyH.cons rfl (fun K hK => ?_) AllReadyH.nil
          go_simp
          cases hthr : thrP xs (5 + sizeM pre) r s with
          | error err =>
            rw [hthr] at hI
            have HX : Hid (getP xs = .error err) := Lib.hid (by
              rw [HE.out]
              unfold bodyP
              rw [Int.toNat_natCast, HR.out, HQ2.out.1, thrs_stop hthr])
            refine hI.mono ?_
            rintro e v1 ⟨rfl, hg1⟩
            exact ⟨rfl, progs_err HX.out (grown_trans hb (grown_trans gr0 hg1))⟩
          | ok l =>
            rw [hthr] at hI
            have HX : Hid (thrs xs r s n 5 = andL (pre ++ [l]) (thrs xs r s (n - (j + 1)) (5 + sizeM (pre ++ [l])))) := Lib.hid (by
              rw [HR.out, HQ2.out.1, thrs_step hthr, HQ2.out.2, sizeM_snoc, Nat.add_assoc])
            refine hI.mono ?_
            rintro e v1 ⟨A9, cap9, rfl, hown9, hr9, hg9⟩
            clear hI
            have gr1 := grown_trans gr0 hg9
            obtain ⟨hst, hHW⟩ := HH.out
            have hHg : H ≠ g := by omega
            have own1 := hown.kept gr1 (.inr (by show some H ≠ some g; intro e; injection e with e; exact hHg e))
            have f1 := own1.frozenAt j
            have hvl : vs.length = n := by have := hown.1; omega
            have hvj : vs[j]? = some (vs[j]'(by omega)) := List.getElem?_eq_getElem _
            have e1 : v1.cell? ⟨H, j, none⟩ = some (vs[j]'(by omega)) := (own1.cellAt j (by omega)).trans hvj
            generalize vs[j]'(by omega) = u1 at hvj e1
            clear hvj
            have Y1 := Two.blk X1 ((Two.refl w4 g H).grown gr1) (by omega) (by omega)
            have Y3 := Two.blk X3 ((Two.refl w4 g H).grown gr1) (by omega) (by omega)
            have y0 : v1.cell? ⟨t, 0, none⟩ = some (.int .i64 r) := Y3.cell 0
            have y1 : v1.cell? ⟨t, 1, none⟩ = some (.int .i64 c) := Y3.cell 1
            have y2 : v1.cell? ⟨t, 2, none⟩ = some (.int .i64 s) := Y3.cell 2
            have y3 : v1.cell? ⟨t, 3, none⟩ = some (.slice (some ⟨H, 0, none⟩) n n) := Y3.cell 3
            have y4 : v1.cell? ⟨w.heap.size, 0, none⟩ = some (.pointer (some ⟨g, 0, none⟩)) := Y1.cell 0
            have tH : t ≠ H := by omega
            have wH : w.heap.size ≠ H := by omega
            obtain ⟨o2, _⟩ := own1.stored j (.slice A9 l.length cap9)
            have r2 : Rd (v1.setCell ⟨H, j, none⟩ (.slice A9 l.length cap9)) g xs (5 + sizeM (pre ++ [l])) true := by
              rw [sizeM_snoc, ← Nat.add_assoc, ← Nat.add_assoc]
              exact hr9.far fun b hb => heap_set v1 H j b _ (by omega)
            have T2 : Two W3 (v1.setCell ⟨H, j, none⟩ (.slice A9 l.length cap9)) g H := ((hT.grown gr0).grown hg9).set_ _
            have hWs : W3.heap.size ≤ v1.heap.size := Nat.le_trans hT.size (Nat.le_trans gr0.size hg9.size)
            have keep2 : ∀ {A' : Option Addr} {n' cap' : Nat} {ys : List Ins}, v1.ownsRow W3.heap.size 45 5 (.slice A' n' cap') n' (flat5 ys) → (v1.setCell ⟨H, j, none⟩ (.slice A9 l.length cap9)).ownsRow W3.heap.size 45 5 (.slice A' n' cap') n' (flat5 ys) := by
              intro A' n' cap' ys hy
              refine ⟨hy.1, ?_⟩
              rcases hy.2 with h2 | ⟨g', c', cur, e1, e2, h3, h4⟩
              · exact .inl h2
              · exact .inr ⟨g', c', cur, e1, e2, (heap_set v1 H j g' _ (by omega)).trans h3, h4⟩
            have a2 : ∀ (i : Nat) (ys : List Ins), (pre ++ [l])[i]? = some ys → ∃ A' n' cap', (vs.set j (.slice A9 l.length cap9))[i]? = some (.slice A' n' cap') ∧ (v1.setCell ⟨H, j, none⟩ (.slice A9 l.length cap9)).ownsRow W3.heap.size 45 5 (.slice A' n' cap') n' (flat5 ys) := by
              intro i ys hy
              rcases Nat.lt_or_ge i j with hi | hi
              · rw [List.getElem?_append_left (by rw [HP.out]; exact hi)] at hy
                obtain ⟨A', n', cap', hv, ho⟩ := HA.out i ys hy
                refine ⟨A', n', cap', by rw [List.getElem?_set_ne (by omega)]; exact hv, keep2 (ho.kept gr1 ?_)⟩
                rcases ho.2 with ⟨h2, _⟩ | ⟨g', c', cur, e1, e2, _⟩
                · exact .inl (by rw [h2]; rfl)
                · exact .inr (by rw [e1]; show some g' ≠ some g; intro e; injection e with e; omega)
              · have hij : i = j := by
                  have := (List.getElem?_eq_some_iff.1 hy).1
                  rw [List.length_append, HP.out] at this
                  simp at this
                  omega
                subst hij
                have hlj : (pre ++ [l])[i]? = some l := by rw [← HP.out, List.getElem?_concat_length]
                obtain rfl := Option.some.inj (hlj.symm.trans hy)
                exact ⟨A9, _, cap9, by rw [List.getElem?_set_self (by omega)], keep2 (own_mono hown9 (Nat.le_trans hT.size gr0.size))⟩
            have HQ := Lib.hid (And.intro r2 (And.intro T2 (And.intro o2 a2)))
            have k0 := (cell_same (heap_set v1 H j t (.slice A9 l.length cap9) tH) 0).trans y0
            have k1' := (cell_same (heap_set v1 H j t (.slice A9 l.length cap9) tH) 1).trans y1
            have k2 := (cell_same (heap_set v1 H j t (.slice A9 l.length cap9) tH) 2).trans y2
            have k3 := (cell_same (heap_set v1 H j t (.slice A9 l.length cap9) tH) 3).trans y3
            have k4' := (cell_same (heap_set v1 H j w.heap.size (.slice A9 l.length cap9) wH) 0).trans y4
            have HK := Lib.hid (And.intro k0 (And.intro k1' (And.intro k2 (And.intro k3 k4'))))
            clear r2 T2 o2 a2 keep2 hWs hvl own1 gr1 hg9 hr9 hown9 hHg hst hHW Y1 Y3 k0 k1' k2 k3 k4' hthr gr0 hr0 hown hT hr hb
            refine hK.out _ _ ⟨y0, y1, y2, y3, y4⟩ (fun hHeld => ?_)
            clear hK K
            try simp only [Act.put, List.setIfInBounds_toArray, List.set_cons_zero, List.set_cons_succ]
            refine wpAnyH_take (i := 6) (oi := ⟨some 30, _, _, _, _, _⟩) (v := ?_) rfl (by kernel_rfl) (by kernel_rfl) (by kernel_rfl) (fun _ _ _ h => h) (Or.inl ⟨by rfl, ?_⟩) (by assumption) ?_
            rotate_left 1
            · (intro W hSw; go_simp <;> with_reducible rfl)
            try simp only [Act.put, List.setIfInBounds_toArray, List.set_cons_zero, List.set_cons_succ]
            refine wpAnyH_ready (rs := [7]) (by kernel_rfl) (by simp) ?_
            refine AllReadyH.cons rfl (fun K hK => ?_) AllReadyH.nil
            go_simp
            refine hK.out _ _ HK.out (fun hHeld => ?_)
            clear hK K
            try simp only [Act.put, List.setIfInBounds_toArray, List.set_cons_zero, List.set_cons_succ]
            refine wpAnyH_done (by kernel_rfl) ?_ _
            clear hHeld y0 y1 y2 y3 y4 z0 z1 z2 z3 z4 e1 f1
            go_wp2
            go_roundw
            case rel => exact ⟨j + 1, pre ++ [l], _, by go_num, by omega, by rw [List.length_append, HP.out]; rfl, HQ.out.1, HQ.out.2.1, HQ.out.2.2.1, HQ.out.2.2.2, HX.out⟩
            case measure => simp [intOf]; omega
        · obtain rfl : j = n := by omega
          have t0 : decide ((j : Int) < (j : Int)) = false := decide_eq_false (by omega)
          have hT0 : thrs xs r s j 5 = .ok pre := by rw [HR.out, Nat.sub_self, thrs, andL, List.append_nil]
          have HB : Hid (getP xs = if 5 + sizeM pre < xs.length then .error (1, 5 + sizeM pre) else .ok ⟨r, c, s, pre⟩) := Lib.hid (by
            rw [HE.out]
            unfold bodyP
            rw [Int.toNat_natCast, hT0])
          have hple := hr.le
          have hxm := hr.most
          obtain ⟨pos, hpos⟩ : ∃ pos, 5 + sizeM pre = pos := ⟨_, rfl⟩
          rw [hpos] at hr HB hple
          have hLf := left_any hr
          have hrr := Lib.hid hr
          clear hpos hT0 hr HR
          obtain ⟨d, hd⟩ : ∃ d, (xs.length : Int) - (pos : Int) = d := ⟨_, rfl⟩
          rw [hd] at hLf
          have HD := Lib.hid hd
          have hd0 : 0 ≤ d := by omega
          clear hd
          go_wp2_with fail
          refine hLf.mono ?_
          rintro e w5 ⟨rfl, q, hq⟩
          have b5 : Below w4.heap.size w4 w5 := by rw [hq]; exact below_drew (Below.refl _ _) q
          have hr5' := hrr.out.below b5 hrr.out.lt
          have Y1 := X1.below b5 X1.lt
          have Y2 := X2.below b5 X2.lt
          have Y3 := X3.below b5 X3.lt
          have hb5 := grown_trans hb (below_grown b5 (some g))
          have own5 := own_below hown b5
          have HA5 : Hid (∀ (i : Nat) (ys : List Ins), pre[i]? = some ys → ∃ A' n' cap', vs[i]? = some (.slice A' n' cap') ∧ w5.ownsRow W3.heap.size 45 5 (.slice A' n' cap') n' (flat5 ys)) := Lib.hid (fun i ys hy => by
            obtain ⟨A', n', cap', hv, ho⟩ := HA.out i ys hy
            exact ⟨A', n', cap', hv, own_below ho b5⟩)
          clear hLf z0 z1 z2 z3 z4 X1 X2 X3 hq b5 hown hb hT
          have z0 : w5.cell? ⟨t, 0, none⟩ = some (.int .i64 r) := Y3.cell 0
          have z1 : w5.cell? ⟨t, 1, none⟩ = some (.int .i64 c) := Y3.cell 1
          have z2 : w5.cell? ⟨t, 2, none⟩ = some (.int .i64 s) := Y3.cell 2
          have z3 : w5.cell? ⟨t, 3, none⟩ = some (.slice (some ⟨H, 0, none⟩) j j) := Y3.cell 3
          have z4 : w5.cell? ⟨w.heap.size, 0, none⟩ = some (.pointer (some ⟨g, 0, none⟩)) := Y1.cell 0
          by_cases hdd : 0 < d
          · have t1 : decide (0 < d) = true := decide_eq_true hdd
            have HX : Hid (getP xs = .error (1, pos)) := Lib.hid (by rw [HB.out, if_pos (by have := HD.out; omega)])
            have hA := at_any hr5'
            have HQ := Lib.hid hb5
            clear Y1 Y2 Y3 hb5 own5
            go_wp2_with fail
            refine hA.mono ?_
            rintro e w' ⟨rfl, rfl⟩
            go_wp2
            exact ⟨rfl, progs_err HX.out HQ.out⟩
          · have t1 : decide (0 < d) = false := decide_eq_false hdd
            have HX : Hid (getP xs = .ok ⟨r, c, s, pre⟩) := Lib.hid (by rw [HB.out, if_neg (by have := HD.out; omega)])
            obtain ⟨hst, hHW⟩ := HH.out
            have hfin : Progs xs g w (getP xs) (.returned (.agg (prg r c s (some ⟨H, 0, none⟩) j j))) (w5.setRow (w.heap.size + 1) (prg r c s (some ⟨H, 0, none⟩) j j)) := by
              rw [HX.out]
              have keep : ∀ {b sz m : Nat} {e : TypeId} {v : Value} {zs : List Value}, w.heap.size + 2 ≤ b → w5.ownsRow b e sz v m zs → (w5.setRow (w.heap.size + 1) (prg r c s (some ⟨H, 0, none⟩) j j)).ownsRow b e sz v m zs := by
                intro b sz m e v zs hb hy
                refine ⟨hy.1, ?_⟩
                rcases hy.2 with h2 | ⟨g', c', cur, e1, e2, h3, h4⟩
                · exact .inl h2
                · exact .inr ⟨g', c', cur, e1, e2, (setRow_other w5 (w.heap.size + 1) g' _ (by omega)).trans h3, h4⟩
              have h2 : Own2 (w5.setRow (w.heap.size + 1) (prg r c s (some ⟨H, 0, none⟩) j j)) H (some ⟨H, 0, none⟩) j j pre := ⟨HP.out, W3.heap.size, vs, by omega, keep (by omega) own5, fun g' hg' => by injection hg' with hg'; show g' < _; rw [← hg']; exact hHW, fun i ys hy => by
                obtain ⟨A', n', cap', hv, ho⟩ := HA5.out i ys hy
                exact ⟨A', n', cap', hv, keep (by omega) ho⟩⟩
              refine ⟨_, j, j, rfl, h2.mat.more fun b hb => ⟨by have := hb.1; omega, hb.2⟩, ?_, grown_setRow hb5 (by omega) _⟩
              have hpx : pos = xs.length := by have := HD.out; omega
              rw [← hpx]
              exact hr5'.far fun b hb => setRow_other w5 _ b _ (by omega)
            have HFIN := Lib.hid hfin
            clear hfin own5 hb5 hr5' Y1 Y3 hst hHW
            go_wp2_with (refine wpList_store_row rfl 24 (.tmp 2) (.tmp 41) rfl (w.heap.size + 1) (prg r c s (some ⟨H, 0, none⟩) j j) rfl rfl 24 (prg 0 0 0 none 0 0) Y2 info24 rfl (prg_one r c s (some ⟨H, 0, none⟩) j j) ?_)
            refine bodyPost_ret (results_cell_row (cs := prg r c s (some ⟨H, 0, none⟩) j j) rfl _ _ (w.heap.size + 1) 24 (0, 0) _ rfl (setRow_heap _ _ _ _ _ _ Y2) Tryd.underlying24 rfl info24) rfl ?_
            exact HFIN.out
end Go.Proofs.YtcbekkbhhepeaaaDoor
