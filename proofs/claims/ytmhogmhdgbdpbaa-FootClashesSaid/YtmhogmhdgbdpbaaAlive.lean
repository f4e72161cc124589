/- A write and a read of root 0. Conditions: none. -/
import Derived.Test.YtmhogmhdgbdpbaaRclash
namespace Go.Proofs.Ytmhogmhdgbdpbaa
open Go.ChangeShapes Go.WideShapes Go.RowKit

def p1 : Pl := ⟨1, 0, 0⟩
theorem norm_0 : normP [] = [] := rfl
theorem norm_1 : normP [p1] = [p1] := by decide
theorem norm_2 : normP [p1, p1] = [p1] := by decide
theorem sees_made {W : World} {z k n : Nat} {t : TypeId} {cs : List Value} (h : Blk W z t cs.toArray) (hk : cs.length = n * k) (hn : n ≤ 1000) : Sees W k (some ⟨z, 0, none⟩) n n cs :=
  ⟨hk, Nat.le_refl _, by unfold maxLen; omega, fun e => (by cases e), fun ad e _ => by
    injection e with e
    subst e
    exact ⟨z, 0, rfl, h.lt, range_blk h⟩⟩
theorem of_lit {w : World} {A A' : Option Addr} {n n' cap cap' : Nat} {R W R1 W1 : List Pl} (h : SeesP w ⟨A, n, cap⟩ R) (h' : SeesP w ⟨A', n', cap'⟩ W) (hn : n ≤ 1000) (hn' : n' ≤ 1000) (e1 : normP R = R1) (e2 : normP W = W1) :
    Calls Try.prog 10 #[.slice A n cap, .slice A' n' cap'] w fun e w' => ∃ B c D d, e = .returned (.agg #[.slice B R1.length c, .slice D W1.length d]) ∧ Foot w' ⟨⟨B, R1.length, c⟩, ⟨D, W1.length, d⟩⟩ R1 W1 ∧ Below w.heap.size w w' := by
  refine (of_any h h' hn hn').mono ?_
  rintro e w' ⟨⟨⟨B, m, c⟩, ⟨D, m', d⟩⟩, rfl, hF, hb⟩
  rw [e1, e2] at hF
  have l1 : R1.length = m := hF.r.len
  have l2 : W1.length = m' := hF.w.len
  subst l1 l2
  exact ⟨B, c, D, d, rfl, hF, hb⟩
theorem of_x {w : World} {A : Option Addr} {cap : Nat} (h : SeesP w ⟨A, 1, cap⟩ [p1]) :
    Calls Try.prog 10 #[.slice none 0 0, .slice A 1 cap] w fun e w' => ∃ B c D d, e = .returned (.agg #[.slice B 0 c, .slice D 1 d]) ∧ Foot w' ⟨⟨B, 0, c⟩, ⟨D, 1, d⟩⟩ [] [p1] ∧ Below w.heap.size w w' :=
  of_lit (sees_nil w) h (by omega) (by omega) norm_0 norm_1
theorem of_y {w : World} {A : Option Addr} {cap : Nat} (h : SeesP w ⟨A, 2, cap⟩ [p1, p1]) :
    Calls Try.prog 10 #[.slice A 2 cap, .slice none 0 0] w fun e w' => ∃ B c D d, e = .returned (.agg #[.slice B 1 c, .slice D 0 d]) ∧ Foot w' ⟨⟨B, 1, c⟩, ⟨D, 0, d⟩⟩ [p1] [] ∧ Below w.heap.size w w' :=
  of_lit h (sees_nil w) (by omega) (by omega) norm_2 norm_0
section
variable {w : World} {A B C D : Option Addr} {a b c d : Nat}
theorem clash_fg (h : Foot w ⟨⟨A, 1, a⟩, ⟨B, 0, b⟩⟩ [p1] []) (h' : Foot w ⟨⟨C, 0, c⟩, ⟨D, 1, d⟩⟩ [] [p1]) :
    Calls Try.prog 15 #[.agg #[.slice A 1 a, .slice B 0 b], .agg #[.slice C 0 c, .slice D 1 d]] w fun e w' => e = .returned (.bool true) ∧ Below w.heap.size w w' :=
  clash_any h h' ⟨by simp, by simp⟩ ⟨by simp, by simp⟩
theorem clash_ff (h : Foot w ⟨⟨A, 1, a⟩, ⟨B, 0, b⟩⟩ [p1] []) :
    Calls Try.prog 15 #[.agg #[.slice A 1 a, .slice B 0 b], .agg #[.slice A 1 a, .slice B 0 b]] w fun e w' => e = .returned (.bool false) ∧ Below w.heap.size w w' :=
  clash_any h h ⟨by simp, by simp⟩ ⟨by simp, by simp⟩
theorem same_ff (h : Foot w ⟨⟨A, 1, a⟩, ⟨B, 0, b⟩⟩ [p1] []) :
    Calls Try.prog 16 #[.agg #[.slice A 1 a, .slice B 0 b], .agg #[.slice A 1 a, .slice B 0 b]] w fun e w' => e = .returned (.bool true) ∧ Below w.heap.size w w' := by
  have := same_any h h (by simp) (by simp) (by simp) (by simp)
  rw [decide_eq_true rfl, decide_eq_true rfl] at this
  exact this
theorem join_fx (h : Foot w ⟨⟨A, 1, a⟩, ⟨B, 0, b⟩⟩ [p1] []) (h' : Foot w ⟨⟨C, 0, c⟩, ⟨D, 1, d⟩⟩ [] [p1]) :
    Calls Try.prog 11 #[.agg #[.slice A 1 a, .slice B 0 b], .agg #[.slice C 0 c, .slice D 1 d]] w fun e w' => ∃ E n e1 F f1, e = .returned (.agg #[.slice E n e1, .slice F 1 f1]) ∧ Below w.heap.size w w' := by
  refine (join_any h h' (by simp) (by simp) (by simp) (by simp)).mono ?_
  rintro e w' ⟨⟨⟨E, n, e1⟩, ⟨F, m, f1⟩⟩, rfl, hF, hb⟩
  have l2 : (normP ([] ++ [p1])).length = m := hF.w.len
  rw [List.nil_append, norm_1] at l2
  obtain rfl : m = 1 := by rw [← l2]; rfl
  exact ⟨E, n, e1, F, f1, rfl, hb⟩
end
set_option maxRecDepth 100000 in
set_option maxHeartbeats 8000000 in
theorem alive_any (w : World) : Calls Try.prog 7 #[] w fun e w' => e = .returned (.bool true) ∧ Below w.heap.size w w' := by
  obtain ⟨a, ea⟩ : ∃ a, a = w.heap.size := ⟨_, rfl⟩
  obtain ⟨W1, eW1⟩ : ∃ W, W = (w.alloc (.cells #[.int .i64 1, .int .i64 0, .int .i64 0] 32)).alloc (.cells #[.int .i64 1, .int .i64 0, .int .i64 0, .int .i64 1, .int .i64 0, .int .i64 0] 32) := ⟨_, rfl⟩
  have hb1 : Below w.heap.size w W1 := by rw [eW1]; exact ((Below.refl _ w).alloc (Nat.le_refl _) _).alloc (by simp) _
  have hx : SeesP W1 ⟨some ⟨a, 0, none⟩, 1, 1⟩ [p1] := by
    have : Blk W1 a 32 #[.int .i64 1, .int .i64 0, .int .i64 0] := by
      rw [eW1, ea]
      exact Blk.on (heap_alloc_new w _) ((Below.refl _ _).alloc (Nat.le_refl _) _)
    exact sees_made (cs := [.int .i64 1, .int .i64 0, .int .i64 0]) this rfl (by simp)
  have hy : SeesP W1 ⟨some ⟨a + 1, 0, none⟩, 2, 2⟩ [p1, p1] := by
    have : Blk W1 (a + 1) 32 #[.int .i64 1, .int .i64 0, .int .i64 0, .int .i64 1, .int .i64 0, .int .i64 0] := by
      rw [eW1, ea]
      exact blk_new _ _ 32 _ (by simp)
    exact sees_made (cs := [.int .i64 1, .int .i64 0, .int .i64 0, .int .i64 1, .int .i64 0, .int .i64 0]) this rfl (by simp)
  have hof := of_y hy
  have HX := Lib.hid (And.intro ea (And.intro eW1 (And.intro hb1 hx)))
  rw [eW1, ea] at hof
  clear ea eW1 hb1 hx hy
  go_enter Try.func7, Try.ntmps7
  go_wp2_with fail
  refine hof.mono ?_
  obtain ⟨ea, eW1, hb1, hx⟩ := HX.out
  rw [← eW1, ← ea]
  rintro e w1 ⟨fA, fc, fB, fd, rfl, hF, hb2⟩
  obtain ⟨z, ez⟩ : ∃ z, z = w1.heap.size := ⟨_, rfl⟩
  obtain ⟨W0, eW0⟩ : ∃ W, W = w1.alloc (.cells #[.slice fA 1 fc, .slice fB 0 fd] 24) := ⟨_, rfl⟩
  have hb3 : Below w1.heap.size w1 W0 := by rw [eW0]; exact (Below.refl _ _).alloc (Nat.le_refl _) _
  have hz : Blk W0 z 24 #[.slice fA 1 fc, .slice fB 0 fd] := by rw [eW0, ez]; exact heap_alloc_new w1 _
  have k0 : Below W0.heap.size W0 W0.drew := (Below.refl _ W0).drew
  have hF0 := (hF.on hb3).on k0
  have hx0 := ((hx.on hb2).on hb3).on k0
  have tS : ∀ W, Below W0.heap.size W0 W → W.cell? ⟨z, 0, none⟩ = some (.slice fA 1 fc) := fun W hW => (hz.on hW).cell 0
  have hzr : ∀ W, Below W0.heap.size W0 W → W.rangeAt z 0 [.slice fA 1 fc, .slice fB 0 fd] := fun W hW => range_blk (cs := [.slice fA 1 fc, .slice fB 0 fd]) (hz.on hW)
  have HB := Lib.hid (stepB (stepB hb1 hb2) hb3)
  have HE := Lib.hid (And.intro ez eW0)
  clear hF hb2 hb3 hz ea eW1 hb1 hx hof ez eW0
  go_wp2_with fail
  rw [← HE.out.2, ← HE.out.1]
  refine wp_region_noPanic ?_
  refine wp_region_held_drew (S := (fun W => Below W0.heap.size W0 W)) (by kernel_rfl) k0 (fun hHeld => ?_)
  generalize W0.drew = wd at hHeld k0 hF0 hx0 ⊢
  refine wpAnyH_take (i := 0) (oi := ⟨some 11, _, _, _, _, _⟩) (v := .agg (List.toArray ([.slice fA 1 fc, .slice fB 0 fd]))) rfl (by kernel_rfl) (by kernel_rfl) (by kernel_rfl) (fun _ _ _ h => h) (yieldsIf_load_mid (by rfl) 24 (.tmp 3) rfl z (0) rfl ([.slice fA 1 fc, .slice fB 0 fd]) _ (fun W hW => hzr W hW) Try.underlying24 rfl size24) (by assumption) ?_
  try simp only [Act.put, List.setIfInBounds_toArray, List.set_cons_zero, List.set_cons_succ]
  refine wpAnyH_take (i := 1) (oi := ⟨some 12, _, _, _, _, _⟩) (v := ?_) rfl (by kernel_rfl) (by kernel_rfl) (by kernel_rfl) (fun _ _ _ h => h) (Or.inl ⟨by rfl, ?_⟩) (by assumption) ?_
  rotate_left 1
  · (intro W hSw; go_simp <;> with_reducible rfl)
  try simp only [Act.put, List.setIfInBounds_toArray, List.set_cons_zero, List.set_cons_succ]
  refine wpAnyH_ready (rs := [2]) (by kernel_rfl) (by simp) ?_
  refine AllReadyH.cons (o := ⟨some 13, _, _, _, _, _⟩) rfl (fun K hK => ?_) AllReadyH.nil
  go_simp
  refine (of_x hx0).mono ?_
  rintro e w1 ⟨gA, gc, gB, gd, rfl, g_1, hb1⟩
  have F_1 := hF0.on hb1
  have x_1 := hx0.on hb1
  have S1 : (fun W => Below W0.heap.size W0 W) w1 := stepB k0 hb1
  refine hK.out _ _ S1 (fun h1 => ?_)
  clear hHeld hK K
  try simp only [Act.put, List.setIfInBounds_toArray, List.set_cons_zero, List.set_cons_succ]
  refine wpAnyH_ready (rs := [3]) (by kernel_rfl) (by simp) ?_
  refine AllReadyH.cons (o := ⟨some 14, _, _, _, _, _⟩) rfl (fun K hK => ?_) AllReadyH.nil
  go_simp
  refine (clash_fg F_1 g_1).mono ?_
  rintro e w2 ⟨rfl, hb2⟩
  have F_2 := F_1.on hb2
  have x_2 := x_1.on hb2
  have g_2 := g_1.on hb2
  have S2 : (fun W => Below W0.heap.size W0 W) w2 := stepB S1 hb2
  refine hK.out _ _ S2 (fun h2 => ?_)
  clear h1 hK K
  try simp only [Act.put, List.setIfInBounds_toArray, List.set_cons_zero, List.set_cons_succ]
  refine wpAnyH_take (i := 4) (oi := ⟨some 15, _, _, _, _, _⟩) (v := ?_) rfl (by kernel_rfl) (by kernel_rfl) (by kernel_rfl) (fun _ _ _ h => h) (Or.inl ⟨by rfl, ?_⟩) (by assumption) ?_
  rotate_left 1
  · (intro W hSw; go_simp <;> with_reducible rfl)
  try simp only [Act.put, List.setIfInBounds_toArray, List.set_cons_zero, List.set_cons_succ]
  refine wpAnyH_take (i := 5) (oi := ⟨some 16, _, _, _, _, _⟩) (v := .agg (List.toArray ([.slice fA 1 fc, .slice fB 0 fd]))) rfl (by kernel_rfl) (by kernel_rfl) (by kernel_rfl) (fun _ _ _ h => h) (yieldsIf_load_mid (by rfl) 24 (.tmp 3) rfl z (0) rfl ([.slice fA 1 fc, .slice fB 0 fd]) _ (fun W hW => hzr W hW) Try.underlying24 rfl size24) (by assumption) ?_
  try simp only [Act.put, List.setIfInBounds_toArray, List.set_cons_zero, List.set_cons_succ]
  refine wpAnyH_take (i := 6) (oi := ⟨some 17, _, _, _, _, _⟩) (v := .agg (List.toArray ([.slice fA 1 fc, .slice fB 0 fd]))) rfl (by kernel_rfl) (by kernel_rfl) (by kernel_rfl) (fun _ _ _ h => h) (yieldsIf_load_mid (by rfl) 24 (.tmp 3) rfl z (0) rfl ([.slice fA 1 fc, .slice fB 0 fd]) _ (fun W hW => hzr W hW) Try.underlying24 rfl size24) (by assumption) ?_
  try simp only [Act.put, List.setIfInBounds_toArray, List.set_cons_zero, List.set_cons_succ]
  refine wpAnyH_ready (rs := [7]) (by kernel_rfl) (by simp) ?_
  refine AllReadyH.cons (o := ⟨some 18, _, _, _, _, _⟩) rfl (fun K hK => ?_) AllReadyH.nil
  go_simp
  refine (clash_ff F_2).mono ?_
  rintro e w3 ⟨rfl, hb3⟩
  have F_3 := F_2.on hb3
  have x_3 := x_2.on hb3
  have g_3 := g_2.on hb3
  have S3 : (fun W => Below W0.heap.size W0 W) w3 := stepB S2 hb3
  refine hK.out _ _ S3 (fun h3 => ?_)
  clear h2 hK K
  try simp only [Act.put, List.setIfInBounds_toArray, List.set_cons_zero, List.set_cons_succ]
  refine wpAnyH_take (i := 8) (oi := ⟨some 19, _, _, _, _, _⟩) (v := ?_) rfl (by kernel_rfl) (by kernel_rfl) (by kernel_rfl) (fun _ _ _ h => h) (Or.inl ⟨by rfl, ?_⟩) (by assumption) ?_
  rotate_left 1
  · (intro W hSw; go_simp <;> with_reducible rfl)
  try simp only [Act.put, List.setIfInBounds_toArray, List.set_cons_zero, List.set_cons_succ]
  refine wpAnyH_take (i := 9) (oi := ⟨some 20, _, _, _, _, _⟩) (v := ?_) rfl (by kernel_rfl) (by kernel_rfl) (by kernel_rfl) (fun _ _ _ h => h) (Or.inl ⟨by rfl, ?_⟩) (by assumption) ?_
  rotate_left 1
  · (intro W hSw; go_simp <;> with_reducible rfl)
  try simp only [Act.put, List.setIfInBounds_toArray, List.set_cons_zero, List.set_cons_succ]
  refine wpAnyH_take (i := 10) (oi := ⟨some 21, _, _, _, _, _⟩) (v := ?_) rfl (by kernel_rfl) (by kernel_rfl) (by kernel_rfl) (fun _ _ _ h => h) (Or.inl ⟨by rfl, ?_⟩) (by assumption) ?_
  rotate_left 1
  · (intro W hSw; go_simp <;> with_reducible rfl)
  try simp only [Act.put, List.setIfInBounds_toArray, List.set_cons_zero, List.set_cons_succ]
  refine wpAnyH_take (i := 11) (oi := ⟨some 22, _, _, _, _, _⟩) (v := ?_) rfl (by kernel_rfl) (by kernel_rfl) (by kernel_rfl) (fun _ _ _ h => h) (Or.inl ⟨by rfl, ?_⟩) (by assumption) ?_
  rotate_left 1
  · (intro W hSw; go_simp <;> with_reducible rfl)
  try simp only [Act.put, List.setIfInBounds_toArray, List.set_cons_zero, List.set_cons_succ]
  refine wpAnyH_take (i := 12) (oi := ⟨some 23, _, _, _, _, _⟩) (v := ?_) rfl (by kernel_rfl) (by kernel_rfl) (by kernel_rfl) (fun _ _ _ h => h) (Or.inl ⟨by rfl, ?_⟩) (by assumption) ?_
  rotate_left 1
  · (intro W hSw; have f0 := tS W hSw; go_simp <;> with_reducible rfl)
  try simp only [Act.put, List.setIfInBounds_toArray, List.set_cons_zero, List.set_cons_succ]
  refine wpAnyH_take (i := 13) (oi := ⟨some 24, _, _, _, _, _⟩) (v := ?_) rfl (by kernel_rfl) (by kernel_rfl) (by kernel_rfl) (fun _ _ _ h => h) (Or.inl ⟨by rfl, ?_⟩) (by assumption) ?_
  rotate_left 1
  · (intro W hSw; go_simp <;> with_reducible rfl)
  try simp only [Act.put, List.setIfInBounds_toArray, List.set_cons_zero, List.set_cons_succ]
  refine wpAnyH_take (i := 14) (oi := ⟨some 25, _, _, _, _, _⟩) (v := ?_) rfl (by kernel_rfl) (by kernel_rfl) (by kernel_rfl) (fun _ _ _ h => h) (Or.inl ⟨by rfl, ?_⟩) (by assumption) ?_
  rotate_left 1
  · (intro W hSw; go_simp <;> with_reducible rfl)
  try simp only [Act.put, List.setIfInBounds_toArray, List.set_cons_zero, List.set_cons_succ]
  refine wpAnyH_take (i := 15) (oi := ⟨some 26, _, _, _, _, _⟩) (v := ?_) rfl (by kernel_rfl) (by kernel_rfl) (by kernel_rfl) (fun _ _ _ h => h) (Or.inl ⟨by rfl, ?_⟩) (by assumption) ?_
  rotate_left 1
  · (intro W hSw; go_simp <;> with_reducible rfl)
  try simp only [Act.put, List.setIfInBounds_toArray, List.set_cons_zero, List.set_cons_succ]
  refine wpAnyH_take (i := 16) (oi := ⟨some 27, _, _, _, _, _⟩) (v := ?_) rfl (by kernel_rfl) (by kernel_rfl) (by kernel_rfl) (fun _ _ _ h => h) (Or.inl ⟨by rfl, ?_⟩) (by assumption) ?_
  rotate_left 1
  · (intro W hSw; go_simp <;> with_reducible rfl)
  try simp only [Act.put, List.setIfInBounds_toArray, List.set_cons_zero, List.set_cons_succ]
  refine wpAnyH_take (i := 17) (oi := ⟨some 28, _, _, _, _, _⟩) (v := .agg (List.toArray ([.slice fA 1 fc, .slice fB 0 fd]))) rfl (by kernel_rfl) (by kernel_rfl) (by kernel_rfl) (fun _ _ _ h => h) (yieldsIf_load_mid (by rfl) 24 (.tmp 3) rfl z (0) rfl ([.slice fA 1 fc, .slice fB 0 fd]) _ (fun W hW => hzr W hW) Try.underlying24 rfl size24) (by assumption) ?_
  try simp only [Act.put, List.setIfInBounds_toArray, List.set_cons_zero, List.set_cons_succ]
  refine wpAnyH_take (i := 18) (oi := ⟨some 29, _, _, _, _, _⟩) (v := .agg (List.toArray ([.slice fA 1 fc, .slice fB 0 fd]))) rfl (by kernel_rfl) (by kernel_rfl) (by kernel_rfl) (fun _ _ _ h => h) (yieldsIf_load_mid (by rfl) 24 (.tmp 3) rfl z (0) rfl ([.slice fA 1 fc, .slice fB 0 fd]) _ (fun W hW => hzr W hW) Try.underlying24 rfl size24) (by assumption) ?_
  try simp only [Act.put, List.setIfInBounds_toArray, List.set_cons_zero, List.set_cons_succ]
  refine wpAnyH_ready (rs := [19]) (by kernel_rfl) (by simp) ?_
  refine AllReadyH.cons (o := ⟨some 30, _, _, _, _, _⟩) rfl (fun K hK => ?_) AllReadyH.nil
  go_simp
  refine (same_ff F_3).mono ?_
  rintro e w4 ⟨rfl, hb4⟩
  have F_4 := F_3.on hb4
  have x_4 := x_3.on hb4
  have g_4 := g_3.on hb4
  have S4 : (fun W => Below W0.heap.size W0 W) w4 := stepB S3 hb4
  refine hK.out _ _ S4 (fun h4 => ?_)
  clear h3 hK K
  try simp only [Act.put, List.setIfInBounds_toArray, List.set_cons_zero, List.set_cons_succ]
  refine wpAnyH_take (i := 20) (oi := ⟨some 31, _, _, _, _, _⟩) (v := ?_) rfl (by kernel_rfl) (by kernel_rfl) (by kernel_rfl) (fun _ _ _ h => h) (Or.inl ⟨by rfl, ?_⟩) (by assumption) ?_
  rotate_left 1
  · (intro W hSw; go_simp <;> with_reducible rfl)
  try simp only [Act.put, List.setIfInBounds_toArray, List.set_cons_zero, List.set_cons_succ]
  refine wpAnyH_take (i := 21) (oi := ⟨some 32, _, _, _, _, _⟩) (v := ?_) rfl (by kernel_rfl) (by kernel_rfl) (by kernel_rfl) (fun _ _ _ h => h) (Or.inl ⟨by rfl, ?_⟩) (by assumption) ?_
  rotate_left 1
  · (intro W hSw; go_simp <;> with_reducible rfl)
  try simp only [Act.put, List.setIfInBounds_toArray, List.set_cons_zero, List.set_cons_succ]
  refine wpAnyH_take (i := 22) (oi := ⟨some 33, _, _, _, _, _⟩) (v := .agg (List.toArray ([.slice fA 1 fc, .slice fB 0 fd]))) rfl (by kernel_rfl) (by kernel_rfl) (by kernel_rfl) (fun _ _ _ h => h) (yieldsIf_load_mid (by rfl) 24 (.tmp 3) rfl z (0) rfl ([.slice fA 1 fc, .slice fB 0 fd]) _ (fun W hW => hzr W hW) Try.underlying24 rfl size24) (by assumption) ?_
  try simp only [Act.put, List.setIfInBounds_toArray, List.set_cons_zero, List.set_cons_succ]
  refine wpAnyH_take (i := 23) (oi := ⟨some 34, _, _, _, _, _⟩) (v := ?_) rfl (by kernel_rfl) (by kernel_rfl) (by kernel_rfl) (fun _ _ _ h => h) (Or.inl ⟨by rfl, ?_⟩) (by assumption) ?_
  rotate_left 1
  · (intro W hSw; go_simp <;> with_reducible rfl)
  try simp only [Act.put, List.setIfInBounds_toArray, List.set_cons_zero, List.set_cons_succ]
  refine wpAnyH_ready (rs := [24]) (by kernel_rfl) (by simp) ?_
  refine AllReadyH.cons (o := ⟨some 35, _, _, _, _, _⟩) rfl (fun K hK => ?_) AllReadyH.nil
  go_simp
  refine (of_x x_4).mono ?_
  rintro e w5 ⟨hA, hc, hB, hd, rfl, h_5, hb5⟩
  have F_5 := F_4.on hb5
  have x_5 := x_4.on hb5
  have g_5 := g_4.on hb5
  have S5 : (fun W => Below W0.heap.size W0 W) w5 := stepB S4 hb5
  refine hK.out _ _ S5 (fun h5 => ?_)
  clear h4 hK K
  try simp only [Act.put, List.setIfInBounds_toArray, List.set_cons_zero, List.set_cons_succ]
  refine wpAnyH_ready (rs := [25]) (by kernel_rfl) (by simp) ?_
  refine AllReadyH.cons (o := ⟨some 36, _, _, _, _, _⟩) rfl (fun K hK => ?_) AllReadyH.nil
  go_simp
  refine (join_fx F_5 h_5).mono ?_
  rintro e w6 ⟨jA, jn, jc, jB, jd, rfl, hb6⟩
  have hfld : ∀ W, (Instr.field 24 (.agg #[.slice jA jn jc, .slice jB 1 jd]) 1).run Try.prog W = .ok (.slice jB 1 jd) W := fun W => by kernel_rfl
  have F_6 := F_5.on hb6
  have x_6 := x_5.on hb6
  have g_6 := g_5.on hb6
  have h_6 := h_5.on hb6
  have S6 : (fun W => Below W0.heap.size W0 W) w6 := stepB S5 hb6
  refine hK.out _ _ S6 (fun h6 => ?_)
  clear h5 hK K
  try simp only [Act.put, List.setIfInBounds_toArray, List.set_cons_zero, List.set_cons_succ]
  refine wpAnyH_take (i := 26) (oi := ⟨some 37, _, _, _, _, _⟩) (v := ?_) rfl (by kernel_rfl) (by kernel_rfl) (by kernel_rfl) (fun _ _ _ h => h) (Or.inl ⟨by rfl, ?_⟩) (by assumption) ?_
  rotate_left 1
  · (intro W hSw; go_simp <;> with_reducible rfl)
  try simp only [Act.put, List.setIfInBounds_toArray, List.set_cons_zero, List.set_cons_succ]
  refine wpAnyH_take (i := 27) (oi := ⟨some 38, _, _, _, _, _⟩) (v := ?_) rfl (by kernel_rfl) (by kernel_rfl) (by kernel_rfl) (fun _ _ _ h => h) (Or.inl ⟨by rfl, ?_⟩) (by assumption) ?_
  rotate_left 1
  · (intro W hSw; go_simp <;> with_reducible rfl)
  try simp only [Act.put, List.setIfInBounds_toArray, List.set_cons_zero, List.set_cons_succ]
  refine wpAnyH_take (i := 28) (oi := ⟨some 39, _, _, _, _, _⟩) (v := ?_) rfl (by kernel_rfl) (by kernel_rfl) (by kernel_rfl) (fun _ _ _ h => h) (Or.inl ⟨by rfl, ?_⟩) (by assumption) ?_
  rotate_left 1
  · (intro W hSw; go_simp <;> with_reducible rfl)
  try simp only [Act.put, List.setIfInBounds_toArray, List.set_cons_zero, List.set_cons_succ]
  refine wpAnyH_take (i := 29) (oi := ⟨some 40, _, _, _, _, _⟩) (v := ?_) rfl (by kernel_rfl) (by kernel_rfl) (by kernel_rfl) (fun _ _ _ h => h) (Or.inl ⟨by rfl, ?_⟩) (by assumption) ?_
  rotate_left 1
  · (intro W hSw; go_simp <;> with_reducible rfl)
  try simp only [Act.put, List.setIfInBounds_toArray, List.set_cons_zero, List.set_cons_succ]
  refine wpAnyH_take (i := 30) (oi := ⟨some 0, _, _, _, _, _⟩) (v := ?_) rfl (by kernel_rfl) (by kernel_rfl) (by kernel_rfl) (fun _ _ _ h => h) (Or.inl ⟨by rfl, ?_⟩) (by assumption) ?_
  rotate_left 1
  · (intro W hSw; go_simp <;> with_reducible rfl)
  try simp only [Act.put, List.setIfInBounds_toArray, List.set_cons_zero]
  refine wpAnyH_done (by kernel_rfl) ?_ _
  refine NoPanic.normal ?_
  have HZ := Lib.hid (stepB HB.out S6)
  go_wp2
  go_ret
  exact ⟨rfl, HZ.out⟩
end Go.Proofs.Ytmhogmhdgbdpbaa
