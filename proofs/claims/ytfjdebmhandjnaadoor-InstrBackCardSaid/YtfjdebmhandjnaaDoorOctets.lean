/- The walk of InstrOctets. Conditions: the variable 'rows' lies as it is laid. -/
import Derived.Test.YtfjdebmhandjnaaDoorLaws
import Derived.Deep.RegionWith
import Derived.Deep.RegionHeld3
import Derived.Deep.DrawnRows
namespace Go.Proofs.YtfjdebmhandjnaaDoor
open Go.RowKit
attribute [local go_sem ↓] Go.wp_at_zero Go.wp_at_succ
set_option linter.unusedSimpArgs false

theorem wpAnyH_more {P : Program} {md : Region.Mode} {ops : Array Oper} {Q : Exit → Act → World → Prop} {S S' : World → Prop} (hS : ∀ w, S' w → S w) :
    ∀ (fuel : Nat) (listed : Array Bool) (a : Act) (w : World), wpAnyH P md ops Q S' fuel listed a w → wpAnyH P md ops Q S fuel listed a w
  | 0, _, _, _, h => h
  | fuel + 1, _, _, _, h => ⟨h.1, fun i hi => wpOp_mono (fun a' w' h' => ⟨hS _ h'.1, wpAnyH_more hS fuel _ a' w' h'.2⟩) (h.2 i hi)⟩

theorem get_no (A : Option Addr) (n cap : Nat) (w : World) (hn : (n : Int) ≠ 12) :
    Calls Tryd.prog 8 #[.slice A n cap] w fun e w' => e = .returned (.tuple #[.agg #[.int .i64 0, .int .i64 0, .int .i64 0, .int .i64 0, .int .i64 0], .int .i64 1]) ∧ Below w.heap.size w w' := get_none A n cap w hn
theorem get_xs (xs : List Int) (A : Option Addr) (cap : Nat) (x0 x1 x2 x3 x4 : Int) (e0 : xs[0]?.getD 0 = x0) (e1 : xs[1]?.getD 0 = x1) (e2 : xs[2]?.getD 0 = x2) (e3 : xs[3]?.getD 0 = x3) (e4 : wrap64 (val (xs.drop 4)) = x4) (w : World) (h : Oct w w.heap.size A 12 cap xs) :
    Calls Tryd.prog 8 #[.slice A 12 cap] w fun e w' => e = .returned (.tuple #[.agg #[.int .i64 x0, .int .i64 x1, .int .i64 x2, .int .i64 x3, .int .i64 x4], .int .i64 0]) ∧ Below w.heap.size w w' := get_parts xs A cap w h x0 x1 x2 x3 x4 e0 e1 e2 e3 e4
theorem refget_xs (xs : List Int) (A : Option Addr) (cap : Nat) (x0 x1 x2 x3 x4 : Int) (e0 : xs[0]?.getD 0 = x0) (e1 : xs[1]?.getD 0 = x1) (e2 : xs[2]?.getD 0 = x2) (e3 : xs[3]?.getD 0 = x3) (e4 : wrap64 (val (xs.drop 4)) = x4) (w : World) (h : Oct w w.heap.size A 12 cap xs) :
    Calls Tryd.prog 9 #[.slice A 12 cap] w fun e w' => e = .returned (.agg #[.int .i64 x0, .int .i64 x1, .int .i64 x2, .int .i64 x3, .int .i64 x4]) ∧ Below w.heap.size w w' := by
  have hh := refget_12 xs A cap w h
  rw [e0, e1, e2, e3, e4] at hh
  exact hh

set_option maxHeartbeats 2000000 in
theorem octets_small (o a b c n : Int) (A : Option Addr) (len cap : Nat) (xs : List Int) (w : World) (hL : Laid w) (h : Oct w w.heap.size A len cap xs) (hlen : len ≤ 40) (hne : len ≠ 12) :
    Calls Tryd.prog 3 #[.agg #[.int .i64 o, .int .i64 a, .int .i64 b, .int .i64 c, .int .i64 n], .slice A len cap] w fun e w' => e = .returned (.bool true) ∧ Below w.heap.size w w' := by
  have t0 : (len : Int) ≤ 40 := by omega
  have t1 : (len : Int) ≠ 12 := by omega
  obtain ⟨W0, eW0⟩ : ∃ W0, W0 = w.alloc (.cells #[.int .i64 o, .int .i64 a, .int .i64 b, .int .i64 c, .int .i64 n] 23) := ⟨_, rfl⟩
  have b0 : Below w.heap.size w W0 := by rw [eW0]; exact (Below.refl _ w).alloc (Nat.le_refl _) _
  have h0 : At5 W0 w.heap.size o a b c n := by rw [eW0]; exact At5.new w o a b c n
  have r0 := h.below b0
  obtain ⟨tx, etx⟩ : ∃ tx, strOfNums (five o a b c n) = tx := ⟨_, rfl⟩
  have ETX := Lib.hid etx
  clear etx
  go_enter Tryd.func3, Tryd.ntmps3
  go_wp2_with fail
  rw [← eW0]
  clear eW0
  refine (alive_any W0 (hL.on b0)).mono ?_
  rintro e w1 ⟨rfl, hb1⟩
  have b1 := b0.trans (hb1.mono b0.size)
  obtain ⟨d0, d1, d2, d3, d4⟩ := h0.on hb1
  have r1 := r0.below (hb1.mono b0.size)
  clear hb1 b0 r0 h0 h
  go_wp2_with fail
  have q0 := (Below.refl w1.heap.size w1).drew
  have z0 : w.heap.size < w1.heap.size := World.block_lt_of_cell? _ _ d0
  have cc : ∀ W, Below w1.heap.size w1 W → W.cell? ⟨w.heap.size, 0, none⟩ = some (.int .i64 o) ∧ W.cell? ⟨w.heap.size, 1, none⟩ = some (.int .i64 a) ∧ W.cell? ⟨w.heap.size, 2, none⟩ = some (.int .i64 b) ∧ W.cell? ⟨w.heap.size, 3, none⟩ = some (.int .i64 c) ∧ W.cell? ⟨w.heap.size, 4, none⟩ = some (.int .i64 n) :=
    fun W hW => ⟨(hW.cell z0).trans d0, (hW.cell z0).trans d1, (hW.cell z0).trans d2, (hW.cell z0).trans d3, (hW.cell z0).trans d4⟩
  clear d0 d1 d2 d3 d4
  refine wp_region_noPanic ?_
  refine wp_region_held_drew (S := fun w' => Below w1.heap.size w1 w' ∧ w'.cell? ⟨w.heap.size, 0, none⟩ = some (.int .i64 o) ∧ w'.cell? ⟨w.heap.size, 1, none⟩ = some (.int .i64 a) ∧ w'.cell? ⟨w.heap.size, 2, none⟩ = some (.int .i64 b) ∧ w'.cell? ⟨w.heap.size, 3, none⟩ = some (.int .i64 c) ∧ w'.cell? ⟨w.heap.size, 4, none⟩ = some (.int .i64 n)) (by kernel_rfl) ⟨q0, cc _ q0⟩ (fun hHeld => ?_)
  refine wpAnyH_take (i := 0) (oi := ⟨some 14, _, _, _, _, _⟩) (v := ?_) rfl (by kernel_rfl) (by kernel_rfl) (by kernel_rfl) (fun _ _ _ h => h) (Or.inl ⟨by rfl, ?_⟩) (by assumption) ?_
  rotate_left 1
  · (intro W hSw; go_simp <;> with_reducible rfl)
  try simp only [Act.put, List.setIfInBounds_toArray, List.set_cons_zero, List.set_cons_succ]
  refine wpAnyH_take (i := 3) (oi := ⟨some 17, _, _, _, _, _⟩) (v := ?_) rfl (by kernel_rfl) (by kernel_rfl) (by kernel_rfl) (fun _ _ _ h => h) (Or.inl ⟨by rfl, ?_⟩) (by assumption) ?_
  rotate_left 1
  · (intro W hSw; go_simp <;> with_reducible rfl)
  try simp only [Act.put, List.setIfInBounds_toArray, List.set_cons_zero, List.set_cons_succ]
  refine wpAnyH_ready (rs := [1]) (by kernel_rfl) (by simp) ?_
  refine AllReadyH.cons rfl (fun K hK => ?_) AllReadyH.nil
  go_simp
  refine (put_i o a b c n _).mono ?_
  rintro e w2 ⟨A2, n2, cap2, rfl, ho2, hb2, _⟩
  have q2 : Below w1.heap.size w1 w2 := q0.trans (hb2.mono q0.size)
  have t2 := ho2.text (P := Tryd.prog) 24 9 5 Tryd.underlying24 Tryd.underlying5 Tryd.underlying9
  rw [ETX.out] at t2
  refine hK.out _ _ ⟨q2, cc _ q2⟩ (fun hHeld2 => ?_)
  have hHeld3 := And.intro t2 hHeld2
  clear hHeld hHeld2 hK K hb2 t2
  refine wpAnyH_more (S' := fun w' => (convert 24 9 (.slice A2 n2 cap2)).run Tryd.prog w' = .ok (.string tx) w' ∧ Below w1.heap.size w1 w' ∧ w'.cell? ⟨w.heap.size, 0, none⟩ = some (.int .i64 o) ∧ w'.cell? ⟨w.heap.size, 1, none⟩ = some (.int .i64 a) ∧ w'.cell? ⟨w.heap.size, 2, none⟩ = some (.int .i64 b) ∧ w'.cell? ⟨w.heap.size, 3, none⟩ = some (.int .i64 c) ∧ w'.cell? ⟨w.heap.size, 4, none⟩ = some (.int .i64 n)) (fun W h => h.2) _ _ _ _ ?_
  try simp only [Act.put, List.setIfInBounds_toArray, List.set_cons_zero, List.set_cons_succ]
  refine wpAnyH_take (i := 2) (oi := ⟨some 16, _, _, _, _, _⟩) (v := ?_) rfl (by kernel_rfl) (by kernel_rfl) (by kernel_rfl) (fun _ _ _ h => h) (Or.inl ⟨by rfl, ?_⟩) (by assumption) ?_
  rotate_left 1
  · (intro W hSw; go_simp <;> with_reducible rfl)
  try simp only [Act.put, List.setIfInBounds_toArray, List.set_cons_zero, List.set_cons_succ]
  refine wpAnyH_ready (rs := [4]) (by kernel_rfl) (by simp) ?_
  refine AllReadyH.cons rfl (fun K hK => ?_) AllReadyH.nil
  go_simp
  refine (ref_i o a b c n _).mono ?_
  rintro e w3 ⟨A3, n3, cap3, rfl, ho3, hb3, _⟩
  have q3 : Below w1.heap.size w1 w3 := q2.trans (hb3.mono q2.size)
  have t2 := (ho2.below hb3).text (P := Tryd.prog) 24 9 5 Tryd.underlying24 Tryd.underlying5 Tryd.underlying9
  have t3 := ho3.text (P := Tryd.prog) 24 9 5 Tryd.underlying24 Tryd.underlying5 Tryd.underlying9
  rw [ETX.out] at t2 t3
  refine hK.out _ _ ⟨t2, q3, cc _ q3⟩ (fun hHeld4 => ?_)
  have hHeld5 := And.intro t3 hHeld4
  clear hHeld3 hHeld4 hK K hb3 t2 t3
  refine wpAnyH_more (S' := fun w' => (convert 24 9 (.slice A3 n3 cap3)).run Tryd.prog w' = .ok (.string tx) w' ∧ (convert 24 9 (.slice A2 n2 cap2)).run Tryd.prog w' = .ok (.string tx) w' ∧ Below w1.heap.size w1 w' ∧ w'.cell? ⟨w.heap.size, 0, none⟩ = some (.int .i64 o) ∧ w'.cell? ⟨w.heap.size, 1, none⟩ = some (.int .i64 a) ∧ w'.cell? ⟨w.heap.size, 2, none⟩ = some (.int .i64 b) ∧ w'.cell? ⟨w.heap.size, 3, none⟩ = some (.int .i64 c) ∧ w'.cell? ⟨w.heap.size, 4, none⟩ = some (.int .i64 n)) (fun W h => h.2) _ _ _ _ ?_
  try simp only [Act.put, List.setIfInBounds_toArray, List.set_cons_zero, List.set_cons_succ]
  refine wpAnyH_take (i := 5) (oi := ⟨some 19, _, _, _, _, _⟩) (v := ?_) rfl (by kernel_rfl) (by kernel_rfl) (by kernel_rfl) (fun _ _ _ h => h) (Or.inl ⟨by rfl, ?_⟩) (by assumption) ?_
  rotate_left 1
  · (intro W hSw; go_simp <;> with_reducible rfl)
  try simp only [Act.put, List.setIfInBounds_toArray, List.set_cons_zero, List.set_cons_succ]
  refine wpAnyH_take (i := 6) (oi := ⟨some 20, _, _, _, _, _⟩) (v := ?_) rfl (by kernel_rfl) (by kernel_rfl) (by kernel_rfl) (fun _ _ _ h => h) (Or.inl ⟨by rfl, ?_⟩) (by assumption) ?_
  rotate_left 1
  · (intro W hSw; go_simp <;> with_reducible rfl)
  try simp only [Act.put, List.setIfInBounds_toArray, List.set_cons_zero, List.set_cons_succ]
  refine wpAnyH_done (by kernel_rfl) ?_ _
  refine NoPanic.normal ?_
  have b3 := b1.trans (q3.mono b1.size)
  have r3 := r1.below (q3.mono b1.size)
  clear cc q0 q2 q3 z0 hHeld5 ho2 ho3 r1
  go_wp2_with fail
  refine (get_no A len cap w3 (by omega)).mono ?_
  rintro e w4 ⟨rfl, hb4⟩
  have b4 := b3.trans (hb4.mono b3.size)
  have a4 : Below w4.heap.size w4 (w4.alloc (.cells #[.int .i64 0, .int .i64 0, .int .i64 0, .int .i64 0, .int .i64 0] 23)) := (Below.refl _ _).alloc (Nat.le_refl _) _
  obtain ⟨d0, d1, d2, d3, d4⟩ := At5.new w4 0 0 0 0 0
  go_wp2
  go_ret
  exact ⟨rfl, b4.trans (a4.mono b4.size)⟩

set_option maxHeartbeats 2000000 in
theorem octets_big (o a b c n : Int) (A : Option Addr) (len cap : Nat) (zs : List Int) (w : World) (hL : Laid w) (hz : Oct w w.heap.size A len cap zs) (hlen : 40 < len) :
    Calls Tryd.prog 3 #[.agg #[.int .i64 o, .int .i64 a, .int .i64 b, .int .i64 c, .int .i64 n], .slice A len cap] w fun e w' => e = .returned (.bool true) ∧ Below w.heap.size w w' := by
  have t0 : (40 : Int) < (len : Int) := by omega
  have h := hz.front (k := 40) (by omega)
  have hsl : ∀ w : World, (Instr.slice 24 (.slice A len cap) none (some (.int .i64 40)) none).run Tryd.prog w = .ok (.slice A 40 cap) w := cut_front A len cap 40 (by omega) (by have := hz.room; omega)
  clear hz
  generalize zs.take 40 = xs at h
  obtain ⟨W0, eW0⟩ : ∃ W0, W0 = w.alloc (.cells #[.int .i64 o, .int .i64 a, .int .i64 b, .int .i64 c, .int .i64 n] 23) := ⟨_, rfl⟩
  have b0 : Below w.heap.size w W0 := by rw [eW0]; exact (Below.refl _ w).alloc (Nat.le_refl _) _
  have h0 : At5 W0 w.heap.size o a b c n := by rw [eW0]; exact At5.new w o a b c n
  have r0 := h.below b0
  obtain ⟨tx, etx⟩ : ∃ tx, strOfNums (five o a b c n) = tx := ⟨_, rfl⟩
  have ETX := Lib.hid etx
  clear etx
  go_enter Tryd.func3, Tryd.ntmps3
  go_wp2_with fail
  rw [← eW0]
  clear eW0
  refine (alive_any W0 (hL.on b0)).mono ?_
  rintro e w1 ⟨rfl, hb1⟩
  have b1 := b0.trans (hb1.mono b0.size)
  obtain ⟨d0, d1, d2, d3, d4⟩ := h0.on hb1
  have r1 := r0.below (hb1.mono b0.size)
  clear hb1 b0 r0 h0 h
  go_wp2_with fail
  have q0 := (Below.refl w1.heap.size w1).drew
  have z0 : w.heap.size < w1.heap.size := World.block_lt_of_cell? _ _ d0
  have cc : ∀ W, Below w1.heap.size w1 W → W.cell? ⟨w.heap.size, 0, none⟩ = some (.int .i64 o) ∧ W.cell? ⟨w.heap.size, 1, none⟩ = some (.int .i64 a) ∧ W.cell? ⟨w.heap.size, 2, none⟩ = some (.int .i64 b) ∧ W.cell? ⟨w.heap.size, 3, none⟩ = some (.int .i64 c) ∧ W.cell? ⟨w.heap.size, 4, none⟩ = some (.int .i64 n) :=
    fun W hW => ⟨(hW.cell z0).trans d0, (hW.cell z0).trans d1, (hW.cell z0).trans d2, (hW.cell z0).trans d3, (hW.cell z0).trans d4⟩
  clear d0 d1 d2 d3 d4
  refine wp_region_noPanic ?_
  refine wp_region_held_drew (S := fun w' => Below w1.heap.size w1 w' ∧ w'.cell? ⟨w.heap.size, 0, none⟩ = some (.int .i64 o) ∧ w'.cell? ⟨w.heap.size, 1, none⟩ = some (.int .i64 a) ∧ w'.cell? ⟨w.heap.size, 2, none⟩ = some (.int .i64 b) ∧ w'.cell? ⟨w.heap.size, 3, none⟩ = some (.int .i64 c) ∧ w'.cell? ⟨w.heap.size, 4, none⟩ = some (.int .i64 n)) (by kernel_rfl) ⟨q0, cc _ q0⟩ (fun hHeld => ?_)
  refine wpAnyH_take (i := 0) (oi := ⟨some 14, _, _, _, _, _⟩) (v := ?_) rfl (by kernel_rfl) (by kernel_rfl) (by kernel_rfl) (fun _ _ _ h => h) (Or.inl ⟨by rfl, ?_⟩) (by assumption) ?_
  rotate_left 1
  · (intro W hSw; go_simp <;> with_reducible rfl)
  try simp only [Act.put, List.setIfInBounds_toArray, List.set_cons_zero, List.set_cons_succ]
  refine wpAnyH_take (i := 3) (oi := ⟨some 17, _, _, _, _, _⟩) (v := ?_) rfl (by kernel_rfl) (by kernel_rfl) (by kernel_rfl) (fun _ _ _ h => h) (Or.inl ⟨by rfl, ?_⟩) (by assumption) ?_
  rotate_left 1
  · (intro W hSw; go_simp <;> with_reducible rfl)
  try simp only [Act.put, List.setIfInBounds_toArray, List.set_cons_zero, List.set_cons_succ]
  refine wpAnyH_ready (rs := [1]) (by kernel_rfl) (by simp) ?_
  refine AllReadyH.cons rfl (fun K hK => ?_) AllReadyH.nil
  go_simp
  refine (put_i o a b c n _).mono ?_
  rintro e w2 ⟨A2, n2, cap2, rfl, ho2, hb2, _⟩
  have q2 : Below w1.heap.size w1 w2 := q0.trans (hb2.mono q0.size)
  have t2 := ho2.text (P := Tryd.prog) 24 9 5 Tryd.underlying24 Tryd.underlying5 Tryd.underlying9
  rw [ETX.out] at t2
  refine hK.out _ _ ⟨q2, cc _ q2⟩ (fun hHeld2 => ?_)
  have hHeld3 := And.intro t2 hHeld2
  clear hHeld hHeld2 hK K hb2 t2
  refine wpAnyH_more (S' := fun w' => (convert 24 9 (.slice A2 n2 cap2)).run Tryd.prog w' = .ok (.string tx) w' ∧ Below w1.heap.size w1 w' ∧ w'.cell? ⟨w.heap.size, 0, none⟩ = some (.int .i64 o) ∧ w'.cell? ⟨w.heap.size, 1, none⟩ = some (.int .i64 a) ∧ w'.cell? ⟨w.heap.size, 2, none⟩ = some (.int .i64 b) ∧ w'.cell? ⟨w.heap.size, 3, none⟩ = some (.int .i64 c) ∧ w'.cell? ⟨w.heap.size, 4, none⟩ = some (.int .i64 n)) (fun W h => h.2) _ _ _ _ ?_
  try simp only [Act.put, List.setIfInBounds_toArray, List.set_cons_zero, List.set_cons_succ]
  refine wpAnyH_take (i := 2) (oi := ⟨some 16, _, _, _, _, _⟩) (v := ?_) rfl (by kernel_rfl) (by kernel_rfl) (by kernel_rfl) (fun _ _ _ h => h) (Or.inl ⟨by rfl, ?_⟩) (by assumption) ?_
  rotate_left 1
  · (intro W hSw; go_simp <;> with_reducible rfl)
  try simp only [Act.put, List.setIfInBounds_toArray, List.set_cons_zero, List.set_cons_succ]
  refine wpAnyH_ready (rs := [4]) (by kernel_rfl) (by simp) ?_
  refine AllReadyH.cons rfl (fun K hK => ?_) AllReadyH.nil
  go_simp
  refine (ref_i o a b c n _).mono ?_
  rintro e w3 ⟨A3, n3, cap3, rfl, ho3, hb3, _⟩
  have q3 : Below w1.heap.size w1 w3 := q2.trans (hb3.mono q2.size)
  have t2 := (ho2.below hb3).text (P := Tryd.prog) 24 9 5 Tryd.underlying24 Tryd.underlying5 Tryd.underlying9
  have t3 := ho3.text (P := Tryd.prog) 24 9 5 Tryd.underlying24 Tryd.underlying5 Tryd.underlying9
  rw [ETX.out] at t2 t3
  refine hK.out _ _ ⟨t2, q3, cc _ q3⟩ (fun hHeld4 => ?_)
  have hHeld5 := And.intro t3 hHeld4
  clear hHeld3 hHeld4 hK K hb3 t2 t3
  refine wpAnyH_more (S' := fun w' => (convert 24 9 (.slice A3 n3 cap3)).run Tryd.prog w' = .ok (.string tx) w' ∧ (convert 24 9 (.slice A2 n2 cap2)).run Tryd.prog w' = .ok (.string tx) w' ∧ Below w1.heap.size w1 w' ∧ w'.cell? ⟨w.heap.size, 0, none⟩ = some (.int .i64 o) ∧ w'.cell? ⟨w.heap.size, 1, none⟩ = some (.int .i64 a) ∧ w'.cell? ⟨w.heap.size, 2, none⟩ = some (.int .i64 b) ∧ w'.cell? ⟨w.heap.size, 3, none⟩ = some (.int .i64 c) ∧ w'.cell? ⟨w.heap.size, 4, none⟩ = some (.int .i64 n)) (fun W h => h.2) _ _ _ _ ?_
  try simp only [Act.put, List.setIfInBounds_toArray, List.set_cons_zero, List.set_cons_succ]
  refine wpAnyH_take (i := 5) (oi := ⟨some 19, _, _, _, _, _⟩) (v := ?_) rfl (by kernel_rfl) (by kernel_rfl) (by kernel_rfl) (fun _ _ _ h => h) (Or.inl ⟨by rfl, ?_⟩) (by assumption) ?_
  rotate_left 1
  · (intro W hSw; go_simp <;> with_reducible rfl)
  try simp only [Act.put, List.setIfInBounds_toArray, List.set_cons_zero, List.set_cons_succ]
  refine wpAnyH_take (i := 6) (oi := ⟨some 20, _, _, _, _, _⟩) (v := ?_) rfl (by kernel_rfl) (by kernel_rfl) (by kernel_rfl) (fun _ _ _ h => h) (Or.inl ⟨by rfl, ?_⟩) (by assumption) ?_
  rotate_left 1
  · (intro W hSw; go_simp <;> with_reducible rfl)
  try simp only [Act.put, List.setIfInBounds_toArray, List.set_cons_zero, List.set_cons_succ]
  refine wpAnyH_done (by kernel_rfl) ?_ _
  refine NoPanic.normal ?_
  have b3 := b1.trans (q3.mono b1.size)
  have r3 := r1.below (q3.mono b1.size)
  clear cc q0 q2 q3 z0 hHeld5 ho2 ho3 r1
  go_wp2_with fail
  refine (get_no A 40 cap w3 (by omega)).mono ?_
  rintro e w4 ⟨rfl, hb4⟩
  have b4 := b3.trans (hb4.mono b3.size)
  have a4 : Below w4.heap.size w4 (w4.alloc (.cells #[.int .i64 0, .int .i64 0, .int .i64 0, .int .i64 0, .int .i64 0] 23)) := (Below.refl _ _).alloc (Nat.le_refl _) _
  obtain ⟨d0, d1, d2, d3, d4⟩ := At5.new w4 0 0 0 0 0
  go_wp2
  go_ret
  exact ⟨rfl, b4.trans (a4.mono b4.size)⟩

set_option maxHeartbeats 2000000 in
theorem octets_small12 (o a b c n : Int) (A : Option Addr) (cap : Nat) (xs : List Int) (w : World) (hL : Laid w) (h : Oct w w.heap.size A 12 cap xs) :
    Calls Tryd.prog 3 #[.agg #[.int .i64 o, .int .i64 a, .int .i64 b, .int .i64 c, .int .i64 n], .slice A 12 cap] w fun e w' => e = .returned (.bool true) ∧ Below w.heap.size w w' := by
  have hx : xs.length = 12 := h.len
  obtain ⟨W0, eW0⟩ : ∃ W0, W0 = w.alloc (.cells #[.int .i64 o, .int .i64 a, .int .i64 b, .int .i64 c, .int .i64 n] 23) := ⟨_, rfl⟩
  have b0 : Below w.heap.size w W0 := by rw [eW0]; exact (Below.refl _ w).alloc (Nat.le_refl _) _
  have h0 : At5 W0 w.heap.size o a b c n := by rw [eW0]; exact At5.new w o a b c n
  have r0 := h.below b0
  obtain ⟨tx, etx⟩ : ∃ tx, strOfNums (five o a b c n) = tx := ⟨_, rfl⟩
  have ETX := Lib.hid etx
  clear etx
  go_enter Tryd.func3, Tryd.ntmps3
  go_wp2_with fail
  rw [← eW0]
  clear eW0
  refine (alive_any W0 (hL.on b0)).mono ?_
  rintro e w1 ⟨rfl, hb1⟩
  have b1 := b0.trans (hb1.mono b0.size)
  obtain ⟨d0, d1, d2, d3, d4⟩ := h0.on hb1
  have r1 := r0.below (hb1.mono b0.size)
  clear hb1 b0 r0 h0 h
  go_wp2_with fail
  have q0 := (Below.refl w1.heap.size w1).drew
  have z0 : w.heap.size < w1.heap.size := World.block_lt_of_cell? _ _ d0
  have cc : ∀ W, Below w1.heap.size w1 W → W.cell? ⟨w.heap.size, 0, none⟩ = some (.int .i64 o) ∧ W.cell? ⟨w.heap.size, 1, none⟩ = some (.int .i64 a) ∧ W.cell? ⟨w.heap.size, 2, none⟩ = some (.int .i64 b) ∧ W.cell? ⟨w.heap.size, 3, none⟩ = some (.int .i64 c) ∧ W.cell? ⟨w.heap.size, 4, none⟩ = some (.int .i64 n) :=
    fun W hW => ⟨(hW.cell z0).trans d0, (hW.cell z0).trans d1, (hW.cell z0).trans d2, (hW.cell z0).trans d3, (hW.cell z0).trans d4⟩
  clear d0 d1 d2 d3 d4
  refine wp_region_noPanic ?_
  refine wp_region_held_drew (S := fun w' => Below w1.heap.size w1 w' ∧ w'.cell? ⟨w.heap.size, 0, none⟩ = some (.int .i64 o) ∧ w'.cell? ⟨w.heap.size, 1, none⟩ = some (.int .i64 a) ∧ w'.cell? ⟨w.heap.size, 2, none⟩ = some (.int .i64 b) ∧ w'.cell? ⟨w.heap.size, 3, none⟩ = some (.int .i64 c) ∧ w'.cell? ⟨w.heap.size, 4, none⟩ = some (.int .i64 n)) (by kernel_rfl) ⟨q0, cc _ q0⟩ (fun hHeld => ?_)
  refine wpAnyH_take (i := 0) (oi := ⟨some 14, _, _, _, _, _⟩) (v := ?_) rfl (by kernel_rfl) (by kernel_rfl) (by kernel_rfl) (fun _ _ _ h => h) (Or.inl ⟨by rfl, ?_⟩) (by assumption) ?_
  rotate_left 1
  · (intro W hSw; go_simp <;> with_reducible rfl)
  try simp only [Act.put, List.setIfInBounds_toArray, List.set_cons_zero, List.set_cons_succ]
  refine wpAnyH_take (i := 3) (oi := ⟨some 17, _, _, _, _, _⟩) (v := ?_) rfl (by kernel_rfl) (by kernel_rfl) (by kernel_rfl) (fun _ _ _ h => h) (Or.inl ⟨by rfl, ?_⟩) (by assumption) ?_
  rotate_left 1
  · (intro W hSw; go_simp <;> with_reducible rfl)
  try simp only [Act.put, List.setIfInBounds_toArray, List.set_cons_zero, List.set_cons_succ]
  refine wpAnyH_ready (rs := [1]) (by kernel_rfl) (by simp) ?_
  refine AllReadyH.cons rfl (fun K hK => ?_) AllReadyH.nil
  go_simp
  refine (put_i o a b c n _).mono ?_
  rintro e w2 ⟨A2, n2, cap2, rfl, ho2, hb2, _⟩
  have q2 : Below w1.heap.size w1 w2 := q0.trans (hb2.mono q0.size)
  have t2 := ho2.text (P := Tryd.prog) 24 9 5 Tryd.underlying24 Tryd.underlying5 Tryd.underlying9
  rw [ETX.out] at t2
  refine hK.out _ _ ⟨q2, cc _ q2⟩ (fun hHeld2 => ?_)
  have hHeld3 := And.intro t2 hHeld2
  clear hHeld hHeld2 hK K hb2 t2
  refine wpAnyH_more (S' := fun w' => (convert 24 9 (.slice A2 n2 cap2)).run Tryd.prog w' = .ok (.string tx) w' ∧ Below w1.heap.size w1 w' ∧ w'.cell? ⟨w.heap.size, 0, none⟩ = some (.int .i64 o) ∧ w'.cell? ⟨w.heap.size, 1, none⟩ = some (.int .i64 a) ∧ w'.cell? ⟨w.heap.size, 2, none⟩ = some (.int .i64 b) ∧ w'.cell? ⟨w.heap.size, 3, none⟩ = some (.int .i64 c) ∧ w'.cell? ⟨w.heap.size, 4, none⟩ = some (.int .i64 n)) (fun W h => h.2) _ _ _ _ ?_
  try simp only [Act.put, List.setIfInBounds_toArray, List.set_cons_zero, List.set_cons_succ]
  refine wpAnyH_take (i := 2) (oi := ⟨some 16, _, _, _, _, _⟩) (v := ?_) rfl (by kernel_rfl) (by kernel_rfl) (by kernel_rfl) (fun _ _ _ h => h) (Or.inl ⟨by rfl, ?_⟩) (by assumption) ?_
  rotate_left 1
  · (intro W hSw; go_simp <;> with_reducible rfl)
  try simp only [Act.put, List.setIfInBounds_toArray, List.set_cons_zero, List.set_cons_succ]
  refine wpAnyH_ready (rs := [4]) (by kernel_rfl) (by simp) ?_
  refine AllReadyH.cons rfl (fun K hK => ?_) AllReadyH.nil
  go_simp
  refine (ref_i o a b c n _).mono ?_
  rintro e w3 ⟨A3, n3, cap3, rfl, ho3, hb3, _⟩
  have q3 : Below w1.heap.size w1 w3 := q2.trans (hb3.mono q2.size)
  have t2 := (ho2.below hb3).text (P := Tryd.prog) 24 9 5 Tryd.underlying24 Tryd.underlying5 Tryd.underlying9
  have t3 := ho3.text (P := Tryd.prog) 24 9 5 Tryd.underlying24 Tryd.underlying5 Tryd.underlying9
  rw [ETX.out] at t2 t3
  refine hK.out _ _ ⟨t2, q3, cc _ q3⟩ (fun hHeld4 => ?_)
  have hHeld5 := And.intro t3 hHeld4
  clear hHeld3 hHeld4 hK K hb3 t2 t3
  refine wpAnyH_more (S' := fun w' => (convert 24 9 (.slice A3 n3 cap3)).run Tryd.prog w' = .ok (.string tx) w' ∧ (convert 24 9 (.slice A2 n2 cap2)).run Tryd.prog w' = .ok (.string tx) w' ∧ Below w1.heap.size w1 w' ∧ w'.cell? ⟨w.heap.size, 0, none⟩ = some (.int .i64 o) ∧ w'.cell? ⟨w.heap.size, 1, none⟩ = some (.int .i64 a) ∧ w'.cell? ⟨w.heap.size, 2, none⟩ = some (.int .i64 b) ∧ w'.cell? ⟨w.heap.size, 3, none⟩ = some (.int .i64 c) ∧ w'.cell? ⟨w.heap.size, 4, none⟩ = some (.int .i64 n)) (fun W h => h.2) _ _ _ _ ?_
  try simp only [Act.put, List.setIfInBounds_toArray, List.set_cons_zero, List.set_cons_succ]
  refine wpAnyH_take (i := 5) (oi := ⟨some 19, _, _, _, _, _⟩) (v := ?_) rfl (by kernel_rfl) (by kernel_rfl) (by kernel_rfl) (fun _ _ _ h => h) (Or.inl ⟨by rfl, ?_⟩) (by assumption) ?_
  rotate_left 1
  · (intro W hSw; go_simp <;> with_reducible rfl)
  try simp only [Act.put, List.setIfInBounds_toArray, List.set_cons_zero, List.set_cons_succ]
  refine wpAnyH_take (i := 6) (oi := ⟨some 20, _, _, _, _, _⟩) (v := ?_) rfl (by kernel_rfl) (by kernel_rfl) (by kernel_rfl) (fun _ _ _ h => h) (Or.inl ⟨by rfl, ?_⟩) (by assumption) ?_
  rotate_left 1
  · (intro W hSw; go_simp <;> with_reducible rfl)
  try simp only [Act.put, List.setIfInBounds_toArray, List.set_cons_zero, List.set_cons_succ]
  refine wpAnyH_done (by kernel_rfl) ?_ _
  refine NoPanic.normal ?_
  have b3 := b1.trans (q3.mono b1.size)
  have r3 := r1.below (q3.mono b1.size)
  clear cc q0 q2 q3 z0 hHeld5 ho2 ho3 r1
  go_wp2_with fail
  obtain ⟨x0, e0⟩ : ∃ x, xs[0]?.getD 0 = x := ⟨_, rfl⟩
  obtain ⟨x1, e1⟩ : ∃ x, xs[1]?.getD 0 = x := ⟨_, rfl⟩
  obtain ⟨x2, e2⟩ : ∃ x, xs[2]?.getD 0 = x := ⟨_, rfl⟩
  obtain ⟨x3, e3⟩ : ∃ x, xs[3]?.getD 0 = x := ⟨_, rfl⟩
  obtain ⟨x4, e4⟩ : ∃ x, wrap64 (val (xs.drop 4)) = x := ⟨_, rfl⟩
  have hP := put_i x0 x1 x2 x3 x4
  have hR := fun (W : World) (hW : Oct W W.heap.size A 12 cap xs) => refget_xs xs A cap x0 x1 x2 x3 x4 e0 e1 e2 e3 e4 W hW
  have hG := get_xs xs A cap x0 x1 x2 x3 x4 e0 e1 e2 e3 e4 w3 (r3.more b3.size)
  have hF := five_back hx r3.small
  rw [e0, e1, e2, e3, e4] at hF
  rw [hF] at hP
  clear e0 e1 e2 e3 e4 hF
  obtain ⟨ty, ety⟩ : ∃ ty, strOfNums xs = ty := ⟨_, rfl⟩
  have ETY := Lib.hid ety
  clear ety hx
  refine hG.mono ?_
  rintro e w4 ⟨rfl, hb4⟩
  have b4 := b3.trans (hb4.mono b3.size)
  have r4 := r3.below (hb4.mono b3.size)
  have a4 : Below w4.heap.size w4 (w4.alloc (.cells #[.int .i64 x0, .int .i64 x1, .int .i64 x2, .int .i64 x3, .int .i64 x4] 23)) := (Below.refl _ _).alloc (Nat.le_refl _) _
  have b5 := b4.trans (a4.mono b4.size)
  have r5 := r4.below (a4.mono b4.size)
  obtain ⟨d0, d1, d2, d3, d4⟩ := At5.new w4 x0 x1 x2 x3 x4
  clear hb4 hG r3 r4
  go_wp2_with fail
  generalize (w4.alloc (.cells #[.int .i64 x0, .int .i64 x1, .int .i64 x2, .int .i64 x3, .int .i64 x4] 23)) = W5 at *
  have q0 := (Below.refl W5.heap.size W5).drew
  have z0 : w4.heap.size < W5.heap.size := World.block_lt_of_cell? _ _ d0
  have cc : ∀ W, Below W5.heap.size W5 W → W.cell? ⟨w4.heap.size, 0, none⟩ = some (.int .i64 x0) ∧ W.cell? ⟨w4.heap.size, 1, none⟩ = some (.int .i64 x1) ∧ W.cell? ⟨w4.heap.size, 2, none⟩ = some (.int .i64 x2) ∧ W.cell? ⟨w4.heap.size, 3, none⟩ = some (.int .i64 x3) ∧ W.cell? ⟨w4.heap.size, 4, none⟩ = some (.int .i64 x4) :=
    fun W hW => ⟨(hW.cell z0).trans d0, (hW.cell z0).trans d1, (hW.cell z0).trans d2, (hW.cell z0).trans d3, (hW.cell z0).trans d4⟩
  have oo : ∀ W, Below W5.heap.size W5 W → Oct W w.heap.size A 12 cap xs := fun W hW => r5.below (hW.mono b5.size)
  have tt : ∀ W, Below W5.heap.size W5 W → (convert 24 9 (.slice A 12 cap)).run Tryd.prog W = .ok (.string ty) W := fun W hW => by
    have := (oo W hW).text (P := Tryd.prog) 24 9 5 Tryd.underlying24 Tryd.underlying5 Tryd.underlying9
    rw [ETY.out] at this
    exact this
  clear d0 d1 d2 d3 d4
  refine wp_region_noPanic ?_
  refine wp_region_held_drew (S := fun w' => Below W5.heap.size W5 w' ∧ (convert 24 9 (.slice A 12 cap)).run Tryd.prog w' = .ok (.string ty) w' ∧ w'.cell? ⟨w4.heap.size, 0, none⟩ = some (.int .i64 x0) ∧ w'.cell? ⟨w4.heap.size, 1, none⟩ = some (.int .i64 x1) ∧ w'.cell? ⟨w4.heap.size, 2, none⟩ = some (.int .i64 x2) ∧ w'.cell? ⟨w4.heap.size, 3, none⟩ = some (.int .i64 x3) ∧ w'.cell? ⟨w4.heap.size, 4, none⟩ = some (.int .i64 x4)) (by kernel_rfl) ⟨q0, tt _ q0, cc _ q0⟩ (fun hHeld => ?_)
  refine wpAnyH_take (i := 0) (oi := ⟨some 36, _, _, _, _, _⟩) (v := ?_) rfl (by kernel_rfl) (by kernel_rfl) (by kernel_rfl) (fun _ _ _ h => h) (Or.inl ⟨by rfl, ?_⟩) (by assumption) ?_
  rotate_left 1
  · (intro W hSw; go_simp <;> with_reducible rfl)
  try simp only [Act.put, List.setIfInBounds_toArray, List.set_cons_zero, List.set_cons_succ]
  refine wpAnyH_take (i := 1) (oi := ⟨some 37, _, _, _, _, _⟩) (v := ?_) rfl (by kernel_rfl) (by kernel_rfl) (by kernel_rfl) (fun _ _ _ h => h) (Or.inl ⟨by rfl, ?_⟩) (by assumption) ?_
  rotate_left 1
  · (intro W hSw; go_simp <;> with_reducible rfl)
  try simp only [Act.put, List.setIfInBounds_toArray, List.set_cons_zero, List.set_cons_succ]
  refine wpAnyH_ready (rs := [2]) (by kernel_rfl) (by simp) ?_
  refine AllReadyH.cons rfl (fun K hK => ?_) AllReadyH.nil
  go_simp
  refine (hR _ ((oo _ q0).more (Nat.le_trans b5.size q0.size))).mono ?_
  rintro e w6 ⟨rfl, hb6⟩
  have q6 : Below W5.heap.size W5 w6 := q0.trans (hb6.mono q0.size)
  refine hK.out _ _ ⟨q6, tt _ q6, cc _ q6⟩ (fun hHeld2 => ?_)
  clear hHeld hK K hb6
  try simp only [Act.put, List.setIfInBounds_toArray, List.set_cons_zero, List.set_cons_succ]
  refine wpAnyH_take (i := 3) (oi := ⟨some 39, _, _, _, _, _⟩) (v := ?_) rfl (by kernel_rfl) (by kernel_rfl) (by kernel_rfl) (fun _ _ _ h => h) (Or.inl ⟨by rfl, ?_⟩) (by assumption) ?_
  rotate_left 1
  · (intro W hSw; go_simp <;> with_reducible rfl)
  try simp only [Act.put, List.setIfInBounds_toArray, List.set_cons_zero, List.set_cons_succ]
  refine wpAnyH_take (i := 4) (oi := ⟨some 40, _, _, _, _, _⟩) (v := ?_) rfl (by kernel_rfl) (by kernel_rfl) (by kernel_rfl) (fun _ _ _ h => h) (Or.inl ⟨by rfl, ?_⟩) (by assumption) ?_
  rotate_left 1
  · (intro W hSw; go_simp <;> with_reducible rfl)
  try simp only [Act.put, List.setIfInBounds_toArray, List.set_cons_zero, List.set_cons_succ]
  refine wpAnyH_take (i := 5) (oi := ⟨some 41, _, _, _, _, _⟩) (v := ?_) rfl (by kernel_rfl) (by kernel_rfl) (by kernel_rfl) (fun _ _ _ h => h) (Or.inl ⟨by rfl, ?_⟩) (by assumption) ?_
  rotate_left 1
  · (intro W hSw; go_simp <;> with_reducible rfl)
  try simp only [Act.put, List.setIfInBounds_toArray, List.set_cons_zero, List.set_cons_succ]
  refine wpAnyH_take (i := 6) (oi := ⟨some 42, _, _, _, _, _⟩) (v := ?_) rfl (by kernel_rfl) (by kernel_rfl) (by kernel_rfl) (fun _ _ _ h => h) (Or.inl ⟨by rfl, ?_⟩) (by assumption) ?_
  rotate_left 1
  · (intro W hSw; go_simp <;> with_reducible rfl)
  try simp only [Act.put, List.setIfInBounds_toArray, List.set_cons_zero, List.set_cons_succ]
  refine wpAnyH_take (i := 7) (oi := ⟨some 43, _, _, _, _, _⟩) (v := ?_) rfl (by kernel_rfl) (by kernel_rfl) (by kernel_rfl) (fun _ _ _ h => h) (Or.inl ⟨by rfl, ?_⟩) (by assumption) ?_
  rotate_left 1
  · (intro W hSw; go_simp <;> with_reducible rfl)
  try simp only [Act.put, List.setIfInBounds_toArray, List.set_cons_zero, List.set_cons_succ]
  refine wpAnyH_take (i := 8) (oi := ⟨some 44, _, _, _, _, _⟩) (v := ?_) rfl (by kernel_rfl) (by kernel_rfl) (by kernel_rfl) (fun _ _ _ h => h) (Or.inl ⟨by rfl, ?_⟩) (by assumption) ?_
  rotate_left 1
  · (intro W hSw; go_simp <;> with_reducible rfl)
  try simp only [Act.put, List.setIfInBounds_toArray, List.set_cons_zero, List.set_cons_succ]
  refine wpAnyH_take (i := 9) (oi := ⟨some 45, _, _, _, _, _⟩) (v := ?_) rfl (by kernel_rfl) (by kernel_rfl) (by kernel_rfl) (fun _ _ _ h => h) (Or.inl ⟨by rfl, ?_⟩) (by assumption) ?_
  rotate_left 1
  · (intro W hSw; go_simp <;> with_reducible rfl)
  try simp only [Act.put, List.setIfInBounds_toArray, List.set_cons_zero, List.set_cons_succ]
  refine wpAnyH_take (i := 12) (oi := ⟨some 48, _, _, _, _, _⟩) (v := ?_) rfl (by kernel_rfl) (by kernel_rfl) (by kernel_rfl) (fun _ _ _ h => h) (Or.inl ⟨by rfl, ?_⟩) (by assumption) ?_
  rotate_left 1
  · (intro W hSw; go_simp <;> with_reducible rfl)
  try simp only [Act.put, List.setIfInBounds_toArray, List.set_cons_zero, List.set_cons_succ]
  refine wpAnyH_take (i := 13) (oi := ⟨some 49, _, _, _, _, _⟩) (v := ?_) rfl (by kernel_rfl) (by kernel_rfl) (by kernel_rfl) (fun _ _ _ h => h) (Or.inl ⟨by rfl, ?_⟩) (by assumption) ?_
  rotate_left 1
  · (intro W hSw; go_simp <;> with_reducible rfl)
  try simp only [Act.put, List.setIfInBounds_toArray, List.set_cons_zero, List.set_cons_succ]
  refine wpAnyH_ready (rs := [10]) (by kernel_rfl) (by simp) ?_
  refine AllReadyH.cons rfl (fun K hK => ?_) AllReadyH.nil
  go_simp
  refine (hP _).mono ?_
  rintro e w7 ⟨A7, n7, cap7, rfl, ho7, hb7, _⟩
  have q7 : Below W5.heap.size W5 w7 := q6.trans (hb7.mono q6.size)
  have t7 := ho7.text (P := Tryd.prog) 24 9 5 Tryd.underlying24 Tryd.underlying5 Tryd.underlying9
  rw [ETY.out] at t7
  refine hK.out _ _ ⟨q7, tt _ q7, cc _ q7⟩ (fun hHeld3 => ?_)
  have hHeld4 := And.intro t7 hHeld3
  clear hHeld2 hHeld3 hK K hb7 t7
  refine wpAnyH_more (S' := fun w' => (convert 24 9 (.slice A7 n7 cap7)).run Tryd.prog w' = .ok (.string ty) w' ∧ Below W5.heap.size W5 w' ∧ (convert 24 9 (.slice A 12 cap)).run Tryd.prog w' = .ok (.string ty) w' ∧ w'.cell? ⟨w4.heap.size, 0, none⟩ = some (.int .i64 x0) ∧ w'.cell? ⟨w4.heap.size, 1, none⟩ = some (.int .i64 x1) ∧ w'.cell? ⟨w4.heap.size, 2, none⟩ = some (.int .i64 x2) ∧ w'.cell? ⟨w4.heap.size, 3, none⟩ = some (.int .i64 x3) ∧ w'.cell? ⟨w4.heap.size, 4, none⟩ = some (.int .i64 x4)) (fun W h => h.2) _ _ _ _ ?_
  try simp only [Act.put, List.setIfInBounds_toArray, List.set_cons_zero, List.set_cons_succ]
  refine wpAnyH_take (i := 11) (oi := ⟨some 47, _, _, _, _, _⟩) (v := ?_) rfl (by kernel_rfl) (by kernel_rfl) (by kernel_rfl) (fun _ _ _ h => h) (Or.inl ⟨by rfl, ?_⟩) (by assumption) ?_
  rotate_left 1
  · (intro W hSw; go_simp <;> with_reducible rfl)
  try simp only [Act.put, List.setIfInBounds_toArray, List.set_cons_zero, List.set_cons_succ]
  refine wpAnyH_take (i := 14) (oi := ⟨some 50, _, _, _, _, _⟩) (v := ?_) rfl (by kernel_rfl) (by kernel_rfl) (by kernel_rfl) (fun _ _ _ h => h) (Or.inl ⟨by rfl, ?_⟩) (by assumption) ?_
  rotate_left 1
  · (intro W hSw; go_simp <;> with_reducible rfl)
  try simp only [Act.put, List.setIfInBounds_toArray, List.set_cons_zero, List.set_cons_succ]
  refine wpAnyH_take (i := 15) (oi := ⟨some 51, _, _, _, _, _⟩) (v := ?_) rfl (by kernel_rfl) (by kernel_rfl) (by kernel_rfl) (fun _ _ _ h => h) (Or.inl ⟨by rfl, ?_⟩) (by assumption) ?_
  rotate_left 1
  · (intro W hSw; go_simp <;> with_reducible rfl)
  try simp only [Act.put, List.setIfInBounds_toArray, List.set_cons_zero, List.set_cons_succ]
  refine wpAnyH_take (i := 16) (oi := ⟨some 4, _, _, _, _, _⟩) (v := ?_) rfl (by kernel_rfl) (by kernel_rfl) (by kernel_rfl) (fun _ _ _ h => h) (Or.inl ⟨by rfl, ?_⟩) (by assumption) ?_
  rotate_left 1
  · (intro W hSw; go_simp <;> with_reducible rfl)
  try simp only [Act.put, List.setIfInBounds_toArray, List.set_cons_zero, List.set_cons_succ]
  refine wpAnyH_done (by kernel_rfl) ?_ _
  refine NoPanic.normal ?_
  go_wp2
  go_ret
  exact ⟨rfl, b5.trans (q7.mono b5.size)⟩

theorem octets_walk (o a b c n : Int) (A : Option Addr) (len cap : Nat) (xs : List Int) (w : World) (hL : Laid w) (h : Oct w w.heap.size A len cap xs) :
    Calls Tryd.prog 3 #[.agg #[.int .i64 o, .int .i64 a, .int .i64 b, .int .i64 c, .int .i64 n], .slice A len cap] w fun e w' => e = .returned (.bool true) ∧ Below w.heap.size w w' := by
  by_cases h1 : 40 < len
  · exact octets_big o a b c n A len cap xs w hL h h1
  · by_cases h2 : len = 12
    · subst h2
      exact octets_small12 o a b c n A cap xs w hL h
    · exact octets_small o a b c n A len cap xs w hL h (by omega) h2
end Go.Proofs.YtfjdebmhandjnaaDoor
