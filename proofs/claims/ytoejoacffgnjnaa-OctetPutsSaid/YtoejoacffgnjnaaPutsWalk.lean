/- The walk of 'OctetPuts'. Conditions: none. -/
import Derived.Test.YtoejoacffgnjnaaBack
import Derived.Deep.RegionWith
import Derived.Deep.RegionHeld3
import Derived.Deep.DrawnRows
namespace Go.Proofs.Ytoejoacffgnjnaa
open Go.RowKit
attribute [local go_sem ↓] Go.wp_at_zero Go.wp_at_succ
set_option linter.unusedSimpArgs false

theorem wpAnyH_more {P : Program} {md : Region.Mode} {ops : Array Oper} {Q : Exit → Act → World → Prop} {S S' : World → Prop} (hS : ∀ w, S' w → S w) :
    ∀ (fuel : Nat) (listed : Array Bool) (a : Act) (w : World), wpAnyH P md ops Q S' fuel listed a w → wpAnyH P md ops Q S fuel listed a w
  | 0, _, _, _, h => h
  | fuel + 1, _, _, _, h => ⟨h.1, fun i hi => wpOp_mono (fun a' w' h' => ⟨hS _ h'.1, wpAnyH_more hS fuel _ a' w' h'.2⟩) (h.2 i hi)⟩

theorem put_small {xs : List Int} (h : Small xs) (n k : Int) : Small (put xs n k) := by
  unfold put
  split
  · exact h.app (digs_small _ _)
  · exact h

set_option maxHeartbeats 800000 in
theorem puts_small (n k : Int) (A : Option Addr) (len cap : Nat) (xs : List Int) (w : World) (h : Oct w w.heap.size A len cap xs) (hlen : len ≤ 1000) :
    Calls Try.prog 3 #[.slice A len cap, .int .i64 n, .int .i64 k] w (Trial w) := by
  have b3 : (len : Int) ≤ 1000 := by omega
  go_enter Try.func3, Try.ntmps3
  go_wp2_with (first
    | (go_at_call 7; refine (alive_any _).mono ?_; rintro e w1 ⟨rfl, hb1⟩; have ho1 := h.below hb1; have ht1 := ho1.text 22 9 5 Try.underlying22 Try.underlying5 Try.underlying9))
  refine (put_any xs A len cap n k _ (ho1.more hb1.size) (by omega)).mono ?_
  rintro e w2 ⟨A2, n2, cap2, rfl, ho2, hb2, _⟩
  clear ht1
  go_wp2_with fail
  have ho1' := ho1.below (hb2.mono hb1.size)
  refine (put_any xs A len cap (wrap64 (n + 1)) k _ (ho1'.more (Nat.le_trans hb1.size hb2.size)) (by omega)).mono ?_
  rintro e w3 ⟨A3, n3, cap3, rfl, ho3, hb3, _⟩
  have ho := ho1'.below (hb3.mono (Nat.le_trans hb1.size hb2.size))
  have hoc := ho2.below hb3
  have hs3 := hb3.size
  have hwb := Lib.hid (Nat.le_trans hb1.size (Nat.le_trans hb2.size hb3.size))
  have tc : ∀ W, Below w3.heap.size w3 W → (convert 22 9 (.slice A2 n2 cap2)).run Try.prog W = .ok (.string (strOfNums (put xs n k))) W := fun W hW => ((hoc.more hs3).below hW).text 22 9 5 Try.underlying22 Try.underlying5 Try.underlying9
  have td : ∀ W, Below w3.heap.size w3 W → (convert 22 9 (.slice A3 n3 cap3)).run Try.prog W = .ok (.string (strOfNums (put xs (wrap64 (n + 1)) k))) W := fun W hW => (ho3.below hW).text 22 9 5 Try.underlying22 Try.underlying5 Try.underlying9
  have tb : ∀ W, Below w3.heap.size w3 W → (convert 22 9 (.slice A len cap)).run Try.prog W = .ok (.string (strOfNums xs)) W := fun W hW => ((ho.more hwb.out).below hW).text 22 9 5 Try.underlying22 Try.underlying5 Try.underlying9
  have hoB : ∀ W, Below w3.heap.size w3 W → Oct W W.heap.size A len cap xs := fun W hW => ((ho.more hwb.out).below hW).more hW.size
  have r0 := Below.refl w3.heap.size w3
  have r1 := (Below.refl w3.heap.size w3).drew
  have hw : IntKind.i64.wrap (n + 1) = wrap64 (n + 1) := IntWalk.i64_left _
  have hs1 := hb1.size
  have s3 : Below w.heap.size w w3 := (hb1.trans (hb2.mono hs1)).trans (hb3.mono (Nat.le_trans hs1 hb2.size))
  clear ho1 ho1' ho2 hoc ho3 ho hb1 hb2 hb3 hs1 hs3 h
  go_wp2_with fail
  refine wp_region_noPanic ?_
  refine wp_region_held_drew (S := fun w' => Below w3.heap.size w3 w' ∧ (convert 22 9 (.slice A2 n2 cap2)).run Try.prog w' = .ok (.string (strOfNums (put xs n k))) w' ∧ (convert 22 9 (.slice A3 n3 cap3)).run Try.prog w' = .ok (.string (strOfNums (put xs (wrap64 (n + 1)) k))) w' ∧ (convert 22 9 (.slice A len cap)).run Try.prog w' = .ok (.string (strOfNums xs)) w') (by kernel_rfl) ⟨r1, tc _ r1, td _ r1, tb _ r1⟩ (fun hHeld => ?_)
  refine wpAnyH_take (i := 0) (oi := ⟨some 28, _, _, _, _, _⟩) (v := ?_) rfl (by kernel_rfl) (by kernel_rfl) (by kernel_rfl) (fun _ _ _ h => h) (Or.inl ⟨by rfl, ?_⟩) (by assumption) ?_
  rotate_left 1
  · (intro W hSw; go_simp <;> with_reducible rfl)
  try simp only [Act.put, List.setIfInBounds_toArray, List.set_cons_zero, List.set_cons_succ]
  refine wpAnyH_take (i := 1) (oi := ⟨some 29, _, _, _, _, _⟩) (v := ?_) rfl (by kernel_rfl) (by kernel_rfl) (by kernel_rfl) (fun _ _ _ h => h) (Or.inl ⟨by rfl, ?_⟩) (by assumption) ?_
  rotate_left 1
  · (intro W hSw; go_simp <;> with_reducible rfl)
  try simp only [Act.put, List.setIfInBounds_toArray, List.set_cons_zero, List.set_cons_succ]
  refine wpAnyH_take (i := 2) (oi := ⟨some 30, _, _, _, _, _⟩) (v := ?_) rfl (by kernel_rfl) (by kernel_rfl) (by kernel_rfl) (fun _ _ _ h => h) (Or.inl ⟨by rfl, ?_⟩) (by assumption) ?_
  rotate_left 1
  · (intro W hSw; go_simp <;> with_reducible rfl)
  try simp only [Act.put, List.setIfInBounds_toArray, List.set_cons_zero, List.set_cons_succ]
  refine wpAnyH_take (i := 3) (oi := ⟨some 31, _, _, _, _, _⟩) (v := ?_) rfl (by kernel_rfl) (by kernel_rfl) (by kernel_rfl) (fun _ _ _ h => h) (Or.inl ⟨by rfl, ?_⟩) (by assumption) ?_
  rotate_left 1
  · (intro W hSw; go_simp <;> with_reducible rfl)
  try simp only [Act.put, List.setIfInBounds_toArray, List.set_cons_zero, List.set_cons_succ]
  refine wpAnyH_take (i := 4) (oi := ⟨some 32, _, _, _, _, _⟩) (v := ?_) rfl (by kernel_rfl) (by kernel_rfl) (by kernel_rfl) (fun _ _ _ h => h) (Or.inl ⟨by rfl, ?_⟩) (by assumption) ?_
  rotate_left 1
  · (intro W hSw; go_simp <;> with_reducible rfl)
  try simp only [Act.put, List.setIfInBounds_toArray, List.set_cons_zero, List.set_cons_succ]
  refine wpAnyH_ready (rs := [5]) (by kernel_rfl) (by simp) ?_
  refine AllReadyH.cons rfl (fun K hK => ?_) AllReadyH.nil
  go_simp
  refine (ref_any xs A len cap n k _ (hoB _ r1) (by omega)).mono ?_
  rintro e W4 ⟨A4, n4, cap4, rfl, ho4, hb4, _⟩
  have r4 : Below w3.heap.size w3 W4 := r1.trans (hb4.mono r1.size)
  have t4 := ho4.text 22 9 5 Try.underlying22 Try.underlying5 Try.underlying9
  refine hK.out _ _ ⟨r4, tc _ r4, td _ r4, tb _ r4⟩ (fun hHeld4 => ?_)
  have hHeld5 := And.intro t4 hHeld4
  clear hHeld hHeld4 hK K hb4 t4
  refine wpAnyH_more (S' := fun w' => (convert 22 9 (.slice A4 n4 cap4)).run Try.prog w' = .ok (.string (strOfNums (put xs n k))) w' ∧ Below w3.heap.size w3 w' ∧ (convert 22 9 (.slice A2 n2 cap2)).run Try.prog w' = .ok (.string (strOfNums (put xs n k))) w' ∧ (convert 22 9 (.slice A3 n3 cap3)).run Try.prog w' = .ok (.string (strOfNums (put xs (wrap64 (n + 1)) k))) w' ∧ (convert 22 9 (.slice A len cap)).run Try.prog w' = .ok (.string (strOfNums xs)) w') (fun W h => h.2) _ _ _ _ ?_
  try simp only [Act.put, List.setIfInBounds_toArray, List.set_cons_zero, List.set_cons_succ]
  refine wpAnyH_take (i := 6) (oi := ⟨some 34, _, _, _, _, _⟩) (v := ?_) rfl (by kernel_rfl) (by kernel_rfl) (by kernel_rfl) (fun _ _ _ h => h) (Or.inl ⟨by rfl, ?_⟩) (by assumption) ?_
  rotate_left 1
  · (intro W hSw; go_simp <;> with_reducible rfl)
  try simp only [Act.put, List.setIfInBounds_toArray, List.set_cons_zero, List.set_cons_succ]
  refine wpAnyH_take (i := 7) (oi := ⟨some 35, _, _, _, _, _⟩) (v := ?_) rfl (by kernel_rfl) (by kernel_rfl) (by kernel_rfl) (fun _ _ _ h => h) (Or.inl ⟨by rfl, ?_⟩) (by assumption) ?_
  rotate_left 1
  · (intro W hSw; go_simp <;> with_reducible rfl)
  try simp only [Act.put, List.setIfInBounds_toArray, List.set_cons_zero, List.set_cons_succ]
  refine wpAnyH_take (i := 8) (oi := ⟨some 36, _, _, _, _, _⟩) (v := ?_) rfl (by kernel_rfl) (by kernel_rfl) (by kernel_rfl) (fun _ _ _ h => h) (Or.inl ⟨by rfl, ?_⟩) (by assumption) ?_
  rotate_left 1
  · (intro W hSw; go_simp <;> with_reducible rfl)
  try simp only [Act.put, List.setIfInBounds_toArray, List.set_cons_zero, List.set_cons_succ]
  refine wpAnyH_take (i := 9) (oi := ⟨some 37, _, _, _, _, _⟩) (v := ?_) rfl (by kernel_rfl) (by kernel_rfl) (by kernel_rfl) (fun _ _ _ h => h) (Or.inl ⟨by rfl, ?_⟩) (by assumption) ?_
  rotate_left 1
  · (intro W hSw; go_simp <;> with_reducible rfl)
  try simp only [Act.put, List.setIfInBounds_toArray, List.set_cons_zero, List.set_cons_succ]
  refine wpAnyH_take (i := 10) (oi := ⟨some 38, _, _, _, _, _⟩) (v := ?_) rfl (by kernel_rfl) (by kernel_rfl) (by kernel_rfl) (fun _ _ _ h => h) (Or.inl ⟨by rfl, ?_⟩) (by assumption) ?_
  rotate_left 1
  · (intro W hSw; go_simp <;> with_reducible rfl)
  try simp only [Act.put, List.setIfInBounds_toArray, List.set_cons_zero, List.set_cons_succ]
  refine wpAnyH_take (i := 11) (oi := ⟨some 39, _, _, _, _, _⟩) (v := ?_) rfl (by kernel_rfl) (by kernel_rfl) (by kernel_rfl) (fun _ _ _ h => h) (Or.inl ⟨by rfl, ?_⟩) (by assumption) ?_
  rotate_left 1
  · (intro W hSw; go_simp <;> with_reducible rfl)
  try simp only [Act.put, List.setIfInBounds_toArray, List.set_cons_zero, List.set_cons_succ]
  refine wpAnyH_take (i := 12) (oi := ⟨some 40, _, _, _, _, _⟩) (v := ?_) rfl (by kernel_rfl) (by kernel_rfl) (by kernel_rfl) (fun _ _ _ h => h) (Or.inl ⟨by rfl, ?_⟩) (by assumption) ?_
  rotate_left 1
  · (intro W hSw; go_simp <;> with_reducible rfl)
  try simp only [Act.put, List.setIfInBounds_toArray, List.set_cons_zero, List.set_cons_succ]
  refine wpAnyH_take (i := 13) (oi := ⟨some 41, _, _, _, _, _⟩) (v := ?_) rfl (by kernel_rfl) (by kernel_rfl) (by kernel_rfl) (fun _ _ _ h => h) (Or.inl ⟨by rfl, ?_⟩) (by assumption) ?_
  rotate_left 1
  · (intro W hSw; go_simp <;> with_reducible rfl)
  try simp only [Act.put, List.setIfInBounds_toArray, List.set_cons_zero, List.set_cons_succ]
  refine wpAnyH_take (i := 14) (oi := ⟨some 42, _, _, _, _, _⟩) (v := ?_) rfl (by kernel_rfl) (by kernel_rfl) (by kernel_rfl) (fun _ _ _ h => h) (Or.inl ⟨by rfl, ?_⟩) (by assumption) ?_
  rotate_left 1
  · (intro W hSw; go_simp <;> with_reducible rfl)
  try simp only [Act.put, List.setIfInBounds_toArray, List.set_cons_zero, List.set_cons_succ]
  refine wpAnyH_ready (rs := [15]) (by kernel_rfl) (by simp) ?_
  refine AllReadyH.cons rfl (fun K hK => ?_) AllReadyH.nil
  go_simp
  refine (ref_any xs A len cap (wrap64 (n + 1)) k _ (hoB _ r4) (by omega)).mono ?_
  rintro e W5 ⟨A5, n5, cap5, rfl, ho5, hb5, _⟩
  have r5 : Below w3.heap.size w3 W5 := r4.trans (hb5.mono r4.size)
  have t4 := (ho4.below hb5).text 22 9 5 Try.underlying22 Try.underlying5 Try.underlying9
  have t5 := ho5.text 22 9 5 Try.underlying22 Try.underlying5 Try.underlying9
  refine hK.out _ _ ⟨t4, r5, tc _ r5, td _ r5, tb _ r5⟩ (fun hHeld6 => ?_)
  have hHeld7 := And.intro t5 hHeld6
  clear hHeld5 hHeld6 hK K hb5 t4 t5
  refine wpAnyH_more (S' := fun w' => (convert 22 9 (.slice A5 n5 cap5)).run Try.prog w' = .ok (.string (strOfNums (put xs (wrap64 (n + 1)) k))) w' ∧ (convert 22 9 (.slice A4 n4 cap4)).run Try.prog w' = .ok (.string (strOfNums (put xs n k))) w' ∧ Below w3.heap.size w3 w' ∧ (convert 22 9 (.slice A2 n2 cap2)).run Try.prog w' = .ok (.string (strOfNums (put xs n k))) w' ∧ (convert 22 9 (.slice A3 n3 cap3)).run Try.prog w' = .ok (.string (strOfNums (put xs (wrap64 (n + 1)) k))) w' ∧ (convert 22 9 (.slice A len cap)).run Try.prog w' = .ok (.string (strOfNums xs)) w') (fun W h => h.2) _ _ _ _ ?_
  try simp only [Act.put, List.setIfInBounds_toArray, List.set_cons_zero, List.set_cons_succ]
  refine wpAnyH_take (i := 16) (oi := ⟨some 44, _, _, _, _, _⟩) (v := ?_) rfl (by kernel_rfl) (by kernel_rfl) (by kernel_rfl) (fun _ _ _ h => h) (Or.inl ⟨by rfl, ?_⟩) (by assumption) ?_
  rotate_left 1
  · (intro W hSw; go_simp <;> with_reducible rfl)
  try simp only [Act.put, List.setIfInBounds_toArray, List.set_cons_zero, List.set_cons_succ]
  refine wpAnyH_take (i := 17) (oi := ⟨some 45, _, _, _, _, _⟩) (v := ?_) rfl (by kernel_rfl) (by kernel_rfl) (by kernel_rfl) (fun _ _ _ h => h) (Or.inl ⟨by rfl, ?_⟩) (by assumption) ?_
  rotate_left 1
  · (intro W hSw; go_simp <;> with_reducible rfl)
  try simp only [Act.put, List.setIfInBounds_toArray, List.set_cons_zero, List.set_cons_succ]
  refine wpAnyH_take (i := 18) (oi := ⟨some 46, _, _, _, _, _⟩) (v := ?_) rfl (by kernel_rfl) (by kernel_rfl) (by kernel_rfl) (fun _ _ _ h => h) (Or.inl ⟨by rfl, ?_⟩) (by assumption) ?_
  rotate_left 1
  · (intro W hSw; go_simp <;> with_reducible rfl)
  try simp only [Act.put, List.setIfInBounds_toArray, List.set_cons_zero, List.set_cons_succ]
  refine wpAnyH_take (i := 19) (oi := ⟨some 47, _, _, _, _, _⟩) (v := ?_) rfl (by kernel_rfl) (by kernel_rfl) (by kernel_rfl) (fun _ _ _ h => h) (Or.inl ⟨by rfl, ?_⟩) (by assumption) ?_
  rotate_left 1
  · (intro W hSw; go_simp <;> with_reducible rfl)
  try simp only [Act.put, List.setIfInBounds_toArray, List.set_cons_zero, List.set_cons_succ]
  refine wpAnyH_take (i := 20) (oi := ⟨some 48, _, _, _, _, _⟩) (v := ?_) rfl (by kernel_rfl) (by kernel_rfl) (by kernel_rfl) (fun _ _ _ h => h) (Or.inl ⟨by rfl, ?_⟩) (by assumption) ?_
  rotate_left 1
  · (intro W hSw; go_simp <;> with_reducible rfl)
  try simp only [Act.put, List.setIfInBounds_toArray, List.set_cons_zero, List.set_cons_succ]
  refine wpAnyH_take (i := 21) (oi := ⟨some 49, _, _, _, _, _⟩) (v := ?_) rfl (by kernel_rfl) (by kernel_rfl) (by kernel_rfl) (fun _ _ _ h => h) (Or.inl ⟨by rfl, ?_⟩) (by assumption) ?_
  rotate_left 1
  · (intro W hSw; go_simp <;> with_reducible rfl)
  try simp only [Act.put, List.setIfInBounds_toArray, List.set_cons_zero, List.set_cons_succ]
  refine wpAnyH_take (i := 22) (oi := ⟨some 50, _, _, _, _, _⟩) (v := ?_) rfl (by kernel_rfl) (by kernel_rfl) (by kernel_rfl) (fun _ _ _ h => h) (Or.inl ⟨by rfl, ?_⟩) (by assumption) ?_
  rotate_left 1
  · (intro W hSw; go_simp <;> with_reducible rfl)
  try simp only [Act.put, List.setIfInBounds_toArray, List.set_cons_zero, List.set_cons_succ]
  refine wpAnyH_take (i := 23) (oi := ⟨some 51, _, _, _, _, _⟩) (v := ?_) rfl (by kernel_rfl) (by kernel_rfl) (by kernel_rfl) (fun _ _ _ h => h) (Or.inl ⟨by rfl, ?_⟩) (by assumption) ?_
  rotate_left 1
  · (intro W hSw; go_simp <;> with_reducible rfl)
  try simp only [Act.put, List.setIfInBounds_toArray, List.set_cons_zero, List.set_cons_succ]
  refine wpAnyH_take (i := 24) (oi := ⟨some 52, _, _, _, _, _⟩) (v := ?_) rfl (by kernel_rfl) (by kernel_rfl) (by kernel_rfl) (fun _ _ _ h => h) (Or.inl ⟨by rfl, ?_⟩) (by assumption) ?_
  rotate_left 1
  · (intro W hSw; go_simp <;> with_reducible rfl)
  try simp only [Act.put, List.setIfInBounds_toArray, List.set_cons_zero, List.set_cons_succ]
  refine wpAnyH_take (i := 25) (oi := ⟨some 6, _, _, _, _, _⟩) (v := ?_) rfl (by kernel_rfl) (by kernel_rfl) (by kernel_rfl) (fun _ _ _ h => h) (Or.inl ⟨by rfl, ?_⟩) (by assumption) ?_
  rotate_left 1
  · (intro W hSw; go_simp <;> with_reducible rfl)
  try simp only [Act.put, List.setIfInBounds_toArray, List.set_cons_zero, List.set_cons_succ]
  refine wpAnyH_done (by kernel_rfl) ?_ _
  refine NoPanic.normal ?_
  go_wp2
  go_ret
  exact ⟨rfl, s3.trans (r5.mono s3.size)⟩

set_option maxHeartbeats 800000 in
theorem puts_big (n k : Int) (A : Option Addr) (len cap : Nat) (zs : List Int) (w : World) (hz : Oct w w.heap.size A len cap zs) (hlen : 1000 < len) :
    Calls Try.prog 3 #[.slice A len cap, .int .i64 n, .int .i64 k] w (Trial w) := by
  have b3 : (1000 : Int) < (len : Int) := by omega
  have h := hz.front (k := 1000) (by omega)
  have hsl : ∀ w : World, (Instr.slice 22 (.slice A len cap) none (some (.int .i64 1000)) none).run Try.prog w = .ok (.slice A 1000 cap) w := cut_front A len cap 1000 (by omega) (by have := hz.room; omega)
  clear hz
  generalize zs.take 1000 = xs at h
  go_enter Try.func3, Try.ntmps3
  go_wp2_with (first
    | (go_at_call 7; refine (alive_any _).mono ?_; rintro e w1 ⟨rfl, hb1⟩; have ho1 := h.below hb1; have ht1 := ho1.text 22 9 5 Try.underlying22 Try.underlying5 Try.underlying9))
  refine (put_any xs A 1000 cap n k _ (ho1.more hb1.size) (by omega)).mono ?_
  rintro e w2 ⟨A2, n2, cap2, rfl, ho2, hb2, _⟩
  clear ht1
  go_wp2_with fail
  have ho1' := ho1.below (hb2.mono hb1.size)
  refine (put_any xs A 1000 cap (wrap64 (n + 1)) k _ (ho1'.more (Nat.le_trans hb1.size hb2.size)) (by omega)).mono ?_
  rintro e w3 ⟨A3, n3, cap3, rfl, ho3, hb3, _⟩
  have ho := ho1'.below (hb3.mono (Nat.le_trans hb1.size hb2.size))
  have hoc := ho2.below hb3
  have hs3 := hb3.size
  have hwb := Lib.hid (Nat.le_trans hb1.size (Nat.le_trans hb2.size hb3.size))
  have tc : ∀ W, Below w3.heap.size w3 W → (convert 22 9 (.slice A2 n2 cap2)).run Try.prog W = .ok (.string (strOfNums (put xs n k))) W := fun W hW => ((hoc.more hs3).below hW).text 22 9 5 Try.underlying22 Try.underlying5 Try.underlying9
  have td : ∀ W, Below w3.heap.size w3 W → (convert 22 9 (.slice A3 n3 cap3)).run Try.prog W = .ok (.string (strOfNums (put xs (wrap64 (n + 1)) k))) W := fun W hW => (ho3.below hW).text 22 9 5 Try.underlying22 Try.underlying5 Try.underlying9
  have tb : ∀ W, Below w3.heap.size w3 W → (convert 22 9 (.slice A 1000 cap)).run Try.prog W = .ok (.string (strOfNums xs)) W := fun W hW => ((ho.more hwb.out).below hW).text 22 9 5 Try.underlying22 Try.underlying5 Try.underlying9
  have hoB : ∀ W, Below w3.heap.size w3 W → Oct W W.heap.size A 1000 cap xs := fun W hW => ((ho.more hwb.out).below hW).more hW.size
  have r0 := Below.refl w3.heap.size w3
  have r1 := (Below.refl w3.heap.size w3).drew
  have hw : IntKind.i64.wrap (n + 1) = wrap64 (n + 1) := IntWalk.i64_left _
  have hs1 := hb1.size
  have s3 : Below w.heap.size w w3 := (hb1.trans (hb2.mono hs1)).trans (hb3.mono (Nat.le_trans hs1 hb2.size))
  clear ho1 ho1' ho2 hoc ho3 ho hb1 hb2 hb3 hs1 hs3 h
  go_wp2_with fail
  refine wp_region_noPanic ?_
  refine wp_region_held_drew (S := fun w' => Below w3.heap.size w3 w' ∧ (convert 22 9 (.slice A2 n2 cap2)).run Try.prog w' = .ok (.string (strOfNums (put xs n k))) w' ∧ (convert 22 9 (.slice A3 n3 cap3)).run Try.prog w' = .ok (.string (strOfNums (put xs (wrap64 (n + 1)) k))) w' ∧ (convert 22 9 (.slice A 1000 cap)).run Try.prog w' = .ok (.string (strOfNums xs)) w') (by kernel_rfl) ⟨r1, tc _ r1, td _ r1, tb _ r1⟩ (fun hHeld => ?_)
  refine wpAnyH_take (i := 0) (oi := ⟨some 28, _, _, _, _, _⟩) (v := ?_) rfl (by kernel_rfl) (by kernel_rfl) (by kernel_rfl) (fun _ _ _ h => h) (Or.inl ⟨by rfl, ?_⟩) (by assumption) ?_
  rotate_left 1
  · (intro W hSw; go_simp <;> with_reducible rfl)
  try simp only [Act.put, List.setIfInBounds_toArray, List.set_cons_zero, List.set_cons_succ]
  refine wpAnyH_take (i := 1) (oi := ⟨some 29, _, _, _, _, _⟩) (v := ?_) rfl (by kernel_rfl) (by kernel_rfl) (by kernel_rfl) (fun _ _ _ h => h) (Or.inl ⟨by rfl, ?_⟩) (by assumption) ?_
  rotate_left 1
  · (intro W hSw; go_simp <;> with_reducible rfl)
  try simp only [Act.put, List.setIfInBounds_toArray, List.set_cons_zero, List.set_cons_succ]
  refine wpAnyH_take (i := 2) (oi := ⟨some 30, _, _, _, _, _⟩) (v := ?_) rfl (by kernel_rfl) (by kernel_rfl) (by kernel_rfl) (fun _ _ _ h => h) (Or.inl ⟨by rfl, ?_⟩) (by assumption) ?_
  rotate_left 1
  · (intro W hSw; go_simp <;> with_reducible rfl)
  try simp only [Act.put, List.setIfInBounds_toArray, List.set_cons_zero, List.set_cons_succ]
  refine wpAnyH_take (i := 3) (oi := ⟨some 31, _, _, _, _, _⟩) (v := ?_) rfl (by kernel_rfl) (by kernel_rfl) (by kernel_rfl) (fun _ _ _ h => h) (Or.inl ⟨by rfl, ?_⟩) (by assumption) ?_
  rotate_left 1
  · (intro W hSw; go_simp <;> with_reducible rfl)
  try simp only [Act.put, List.setIfInBounds_toArray, List.set_cons_zero, List.set_cons_succ]
  refine wpAnyH_take (i := 4) (oi := ⟨some 32, _, _, _, _, _⟩) (v := ?_) rfl (by kernel_rfl) (by kernel_rfl) (by kernel_rfl) (fun _ _ _ h => h) (Or.inl ⟨by rfl, ?_⟩) (by assumption) ?_
  rotate_left 1
  · (intro W hSw; go_simp <;> with_reducible rfl)
  try simp only [Act.put, List.setIfInBounds_toArray, List.set_cons_zero, List.set_cons_succ]
  refine wpAnyH_ready (rs := [5]) (by kernel_rfl) (by simp) ?_
  refine AllReadyH.cons rfl (fun K hK => ?_) AllReadyH.nil
  go_simp
  refine (ref_any xs A 1000 cap n k _ (hoB _ r1) (by omega)).mono ?_
  rintro e W4 ⟨A4, n4, cap4, rfl, ho4, hb4, _⟩
  have r4 : Below w3.heap.size w3 W4 := r1.trans (hb4.mono r1.size)
  have t4 := ho4.text 22 9 5 Try.underlying22 Try.underlying5 Try.underlying9
  refine hK.out _ _ ⟨r4, tc _ r4, td _ r4, tb _ r4⟩ (fun hHeld4 => ?_)
  have hHeld5 := And.intro t4 hHeld4
  clear hHeld hHeld4 hK K hb4 t4
  refine wpAnyH_more (S' := fun w' => (convert 22 9 (.slice A4 n4 cap4)).run Try.prog w' = .ok (.string (strOfNums (put xs n k))) w' ∧ Below w3.heap.size w3 w' ∧ (convert 22 9 (.slice A2 n2 cap2)).run Try.prog w' = .ok (.string (strOfNums (put xs n k))) w' ∧ (convert 22 9 (.slice A3 n3 cap3)).run Try.prog w' = .ok (.string (strOfNums (put xs (wrap64 (n + 1)) k))) w' ∧ (convert 22 9 (.slice A 1000 cap)).run Try.prog w' = .ok (.string (strOfNums xs)) w') (fun W h => h.2) _ _ _ _ ?_
  try simp only [Act.put, List.setIfInBounds_toArray, List.set_cons_zero, List.set_cons_succ]
  refine wpAnyH_take (i := 6) (oi := ⟨some 34, _, _, _, _, _⟩) (v := ?_) rfl (by kernel_rfl) (by kernel_rfl) (by kernel_rfl) (fun _ _ _ h => h) (Or.inl ⟨by rfl, ?_⟩) (by assumption) ?_
  rotate_left 1
  · (intro W hSw; go_simp <;> with_reducible rfl)
  try simp only [Act.put, List.setIfInBounds_toArray, List.set_cons_zero, List.set_cons_succ]
  refine wpAnyH_take (i := 7) (oi := ⟨some 35, _, _, _, _, _⟩) (v := ?_) rfl (by kernel_rfl) (by kernel_rfl) (by kernel_rfl) (fun _ _ _ h => h) (Or.inl ⟨by rfl, ?_⟩) (by assumption) ?_
  rotate_left 1
  · (intro W hSw; go_simp <;> with_reducible rfl)
  try simp only [Act.put, List.setIfInBounds_toArray, List.set_cons_zero, List.set_cons_succ]
  refine wpAnyH_take (i := 8) (oi := ⟨some 36, _, _, _, _, _⟩) (v := ?_) rfl (by kernel_rfl) (by kernel_rfl) (by kernel_rfl) (fun _ _ _ h => h) (Or.inl ⟨by rfl, ?_⟩) (by assumption) ?_
  rotate_left 1
  · (intro W hSw; go_simp <;> with_reducible rfl)
  try simp only [Act.put, List.setIfInBounds_toArray, List.set_cons_zero, List.set_cons_succ]
  refine wpAnyH_take (i := 9) (oi := ⟨some 37, _, _, _, _, _⟩) (v := ?_) rfl (by kernel_rfl) (by kernel_rfl) (by kernel_rfl) (fun _ _ _ h => h) (Or.inl ⟨by rfl, ?_⟩) (by assumption) ?_
  rotate_left 1
  · (intro W hSw; go_simp <;> with_reducible rfl)
  try simp only [Act.put, List.setIfInBounds_toArray, List.set_cons_zero, List.set_cons_succ]
  refine wpAnyH_take (i := 10) (oi := ⟨some 38, _, _, _, _, _⟩) (v := ?_) rfl (by kernel_rfl) (by kernel_rfl) (by kernel_rfl) (fun _ _ _ h => h) (Or.inl ⟨by rfl, ?_⟩) (by assumption) ?_
  rotate_left 1
  · (intro W hSw; go_simp <;> with_reducible rfl)
  try simp only [Act.put, List.setIfInBounds_toArray, List.set_cons_zero, List.set_cons_succ]
  refine wpAnyH_take (i := 11) (oi := ⟨some 39, _, _, _, _, _⟩) (v := ?_) rfl (by kernel_rfl) (by kernel_rfl) (by kernel_rfl) (fun _ _ _ h => h) (Or.inl ⟨by rfl, ?_⟩) (by assumption) ?_
  rotate_left 1
  · (intro W hSw; go_simp <;> with_reducible rfl)
  try simp only [Act.put, List.setIfInBounds_toArray, List.set_cons_zero, List.set_cons_succ]
  refine wpAnyH_take (i := 12) (oi := ⟨some 40, _, _, _, _, _⟩) (v := ?_) rfl (by kernel_rfl) (by kernel_rfl) (by kernel_rfl) (fun _ _ _ h => h) (Or.inl ⟨by rfl, ?_⟩) (by assumption) ?_
  rotate_left 1
  · (intro W hSw; go_simp <;> with_reducible rfl)
  try simp only [Act.put, List.setIfInBounds_toArray, List.set_cons_zero, List.set_cons_succ]
  refine wpAnyH_take (i := 13) (oi := ⟨some 41, _, _, _, _, _⟩) (v := ?_) rfl (by kernel_rfl) (by kernel_rfl) (by kernel_rfl) (fun _ _ _ h => h) (Or.inl ⟨by rfl, ?_⟩) (by assumption) ?_
  rotate_left 1
  · (intro W hSw; go_simp <;> with_reducible rfl)
  try simp only [Act.put, List.setIfInBounds_toArray, List.set_cons_zero, List.set_cons_succ]
  refine wpAnyH_take (i := 14) (oi := ⟨some 42, _, _, _, _, _⟩) (v := ?_) rfl (by kernel_rfl) (by kernel_rfl) (by kernel_rfl) (fun _ _ _ h => h) (Or.inl ⟨by rfl, ?_⟩) (by assumption) ?_
  rotate_left 1
  · (intro W hSw; go_simp <;> with_reducible rfl)
  try simp only [Act.put, List.setIfInBounds_toArray, List.set_cons_zero, List.set_cons_succ]
  refine wpAnyH_ready (rs := [15]) (by kernel_rfl) (by simp) ?_
  refine AllReadyH.cons rfl (fun K hK => ?_) AllReadyH.nil
  go_simp
  refine (ref_any xs A 1000 cap (wrap64 (n + 1)) k _ (hoB _ r4) (by omega)).mono ?_
  rintro e W5 ⟨A5, n5, cap5, rfl, ho5, hb5, _⟩
  have r5 : Below w3.heap.size w3 W5 := r4.trans (hb5.mono r4.size)
  have t4 := (ho4.below hb5).text 22 9 5 Try.underlying22 Try.underlying5 Try.underlying9
  have t5 := ho5.text 22 9 5 Try.underlying22 Try.underlying5 Try.underlying9
  refine hK.out _ _ ⟨t4, r5, tc _ r5, td _ r5, tb _ r5⟩ (fun hHeld6 => ?_)
  have hHeld7 := And.intro t5 hHeld6
  clear hHeld5 hHeld6 hK K hb5 t4 t5
  refine wpAnyH_more (S' := fun w' => (convert 22 9 (.slice A5 n5 cap5)).run Try.prog w' = .ok (.string (strOfNums (put xs (wrap64 (n + 1)) k))) w' ∧ (convert 22 9 (.slice A4 n4 cap4)).run Try.prog w' = .ok (.string (strOfNums (put xs n k))) w' ∧ Below w3.heap.size w3 w' ∧ (convert 22 9 (.slice A2 n2 cap2)).run Try.prog w' = .ok (.string (strOfNums (put xs n k))) w' ∧ (convert 22 9 (.slice A3 n3 cap3)).run Try.prog w' = .ok (.string (strOfNums (put xs (wrap64 (n + 1)) k))) w' ∧ (convert 22 9 (.slice A 1000 cap)).run Try.prog w' = .ok (.string (strOfNums xs)) w') (fun W h => h.2) _ _ _ _ ?_
  try simp only [Act.put, List.setIfInBounds_toArray, List.set_cons_zero, List.set_cons_succ]
  refine wpAnyH_take (i := 16) (oi := ⟨some 44, _, _, _, _, _⟩) (v := ?_) rfl (by kernel_rfl) (by kernel_rfl) (by kernel_rfl) (fun _ _ _ h => h) (Or.inl ⟨by rfl, ?_⟩) (by assumption) ?_
  rotate_left 1
  · (intro W hSw; go_simp <;> with_reducible rfl)
  try simp only [Act.put, List.setIfInBounds_toArray, List.set_cons_zero, List.set_cons_succ]
  refine wpAnyH_take (i := 17) (oi := ⟨some 45, _, _, _, _, _⟩) (v := ?_) rfl (by kernel_rfl) (by kernel_rfl) (by kernel_rfl) (fun _ _ _ h => h) (Or.inl ⟨by rfl, ?_⟩) (by assumption) ?_
  rotate_left 1
  · (intro W hSw; go_simp <;> with_reducible rfl)
  try simp only [Act.put, List.setIfInBounds_toArray, List.set_cons_zero, List.set_cons_succ]
  refine wpAnyH_take (i := 18) (oi := ⟨some 46, _, _, _, _, _⟩) (v := ?_) rfl (by kernel_rfl) (by kernel_rfl) (by kernel_rfl) (fun _ _ _ h => h) (Or.inl ⟨by rfl, ?_⟩) (by assumption) ?_
  rotate_left 1
  · (intro W hSw; go_simp <;> with_reducible rfl)
  try simp only [Act.put, List.setIfInBounds_toArray, List.set_cons_zero, List.set_cons_succ]
  refine wpAnyH_take (i := 19) (oi := ⟨some 47, _, _, _, _, _⟩) (v := ?_) rfl (by kernel_rfl) (by kernel_rfl) (by kernel_rfl) (fun _ _ _ h => h) (Or.inl ⟨by rfl, ?_⟩) (by assumption) ?_
  rotate_left 1
  · (intro W hSw; go_simp <;> with_reducible rfl)
  try simp only [Act.put, List.setIfInBounds_toArray, List.set_cons_zero, List.set_cons_succ]
  refine wpAnyH_take (i := 20) (oi := ⟨some 48, _, _, _, _, _⟩) (v := ?_) rfl (by kernel_rfl) (by kernel_rfl) (by kernel_rfl) (fun _ _ _ h => h) (Or.inl ⟨by rfl, ?_⟩) (by assumption) ?_
  rotate_left 1
  · (intro W hSw; go_simp <;> with_reducible rfl)
  try simp only [Act.put, List.setIfInBounds_toArray, List.set_cons_zero, List.set_cons_succ]
  refine wpAnyH_take (i := 21) (oi := ⟨some 49, _, _, _, _, _⟩) (v := ?_) rfl (by kernel_rfl) (by kernel_rfl) (by kernel_rfl) (fun _ _ _ h => h) (Or.inl ⟨by rfl, ?_⟩) (by assumption) ?_
  rotate_left 1
  · (intro W hSw; go_simp <;> with_reducible rfl)
  try simp only [Act.put, List.setIfInBounds_toArray, List.set_cons_zero, List.set_cons_succ]
  refine wpAnyH_take (i := 22) (oi := ⟨some 50, _, _, _, _, _⟩) (v := ?_) rfl (by kernel_rfl) (by kernel_rfl) (by kernel_rfl) (fun _ _ _ h => h) (Or.inl ⟨by rfl, ?_⟩) (by assumption) ?_
  rotate_left 1
  · (intro W hSw; go_simp <;> with_reducible rfl)
  try simp only [Act.put, List.setIfInBounds_toArray, List.set_cons_zero, List.set_cons_succ]
  refine wpAnyH_take (i := 23) (oi := ⟨some 51, _, _, _, _, _⟩) (v := ?_) rfl (by kernel_rfl) (by kernel_rfl) (by kernel_rfl) (fun _ _ _ h => h) (Or.inl ⟨by rfl, ?_⟩) (by assumption) ?_
  rotate_left 1
  · (intro W hSw; go_simp <;> with_reducible rfl)
  try simp only [Act.put, List.setIfInBounds_toArray, List.set_cons_zero, List.set_cons_succ]
  refine wpAnyH_take (i := 24) (oi := ⟨some 52, _, _, _, _, _⟩) (v := ?_) rfl (by kernel_rfl) (by kernel_rfl) (by kernel_rfl) (fun _ _ _ h => h) (Or.inl ⟨by rfl, ?_⟩) (by assumption) ?_
  rotate_left 1
  · (intro W hSw; go_simp <;> with_reducible rfl)
  try simp only [Act.put, List.setIfInBounds_toArray, List.set_cons_zero, List.set_cons_succ]
  refine wpAnyH_take (i := 25) (oi := ⟨some 6, _, _, _, _, _⟩) (v := ?_) rfl (by kernel_rfl) (by kernel_rfl) (by kernel_rfl) (fun _ _ _ h => h) (Or.inl ⟨by rfl, ?_⟩) (by assumption) ?_
  rotate_left 1
  · (intro W hSw; go_simp <;> with_reducible rfl)
  try simp only [Act.put, List.setIfInBounds_toArray, List.set_cons_zero, List.set_cons_succ]
  refine wpAnyH_done (by kernel_rfl) ?_ _
  refine NoPanic.normal ?_
  go_wp2
  go_ret
  exact ⟨rfl, s3.trans (r5.mono s3.size)⟩

theorem puts_any (n k : Int) (A : Option Addr) (len cap : Nat) (zs : List Int) (w : World) (h : Oct w w.heap.size A len cap zs) :
    Calls Try.prog 3 #[.slice A len cap, .int .i64 n, .int .i64 k] w (Trial w) := by
  by_cases hlen : len ≤ 1000
  · exact puts_small n k A len cap zs w h hlen
  · exact puts_big n k A len cap zs w h (by omega)
end Go.Proofs.Ytoejoacffgnjnaa
