/- The sum of any state, and of any octets, is as the page says. Conditions: lists of at most 1048576. -/
import Derived.Test.YtfmkmmmaoiepmaaAlive
import Derived.Test.YtfmkmmmaoiepmaaWides
namespace Go.Proofs.Ytfmkmmmaoiepmaa
set_option linter.unusedSimpArgs false
set_option linter.unusedVariables false
open Go.RowKit Go.ChangeShapes Go.WideShapes

theorem under32 : Try.prog.underlying 32 = some (.slice (Try.prog.elem 32)) := by kernel_rfl
theorem sizeE32 (w : World) : (sizeOf (Try.prog.elem 32)).run Try.prog w = .ok 1 w := by kernel_rfl
theorem upto32 (A : Option Addr) (n cap k : Nat) (hk : k ≤ cap) (hA : A = none → cap = 0) (w : World) :
    (Instr.slice 32 (.slice A n cap) none (some (.int .i64 (k : Int))) none).run Try.prog w = .ok (.slice A k cap) w := by
  rw [run_slice_h w 32 _ n cap under32 .i64 _ (by omega) (by omega), sizeE32]
  simp only [Result.andThen, sliced, Int.toNat_natCast, Nat.sub_zero, Nat.zero_mul]
  rcases A with _ | ad
  · have := hA rfl
    subst this
    obtain rfl : k = 0 := by omega
    rfl
  · split <;> simp [Addr.add]
theorem cut_500 (A : Option Addr) (n cap : Nat) (hc : 500 ≤ cap) (hA : A = none → cap = 0) : ∃ m : Nat, m = 500 ∧ ∀ w, (Instr.slice 32 (.slice A n cap) none (some (.int .i64 500)) none).run Try.prog w = .ok (.slice A m cap) w :=
  ⟨500, rfl, fun w => upto32 A n cap 500 hc hA w⟩
set_option maxRecDepth 100000 in
set_option maxHeartbeats 4000000 in
theorem hashes_walk (s : St) (c : Sc) (bl : List Bu) (i : Int) (A : Option Addr) (n cap : Nat) (xs : List Int) (w : World) (hs : Stat w s c bl) (ks : Caps c bl) (hb : Oct w w.heap.size A n cap xs) : Calls Try.prog 4 #[.agg s.cs.toArray, .int .i64 i, .slice A n cap] w fun e w' => e = .returned (.bool true) ∧ Below w.heap.size w w' := by
  have hokq := hs.ok
  have hq := few_stat hs
  have hfq := few_fits ks
  obtain ⟨q, eq⟩ : ∃ x, fewS s = x := ⟨_, rfl⟩
  obtain ⟨d, ed⟩ : ∃ x, c.few = x := ⟨_, rfl⟩
  obtain ⟨bq, ebq⟩ : ∃ x, bl.take 4 = x := ⟨_, rfl⟩
  have dfewq := fun W => few_any s hokq W
  rw [eq] at hq dfewq
  rw [ed] at hq hfq
  rw [ebq] at hq hfq
  clear eq ed ebq hs ks hokq
  have HR := Lib.hid hq
  have HF := Lib.hid hfq
  clear hfq
  have hrm := hb.room
  have hmx := hb.most
  have hno := hb.none_
  unfold maxLen at hmx
  have HBB := Lib.hid hb
  obtain ⟨p1, f1⟩ : ∃ p, w.heap.size = p := ⟨_, rfl⟩
  obtain ⟨W1, ea1⟩ : ∃ W, w.alloc (.cells s.cs.toArray 29) = W := ⟨_, rfl⟩
  have ka1 : Below w.heap.size w W1 := by rw [← ea1]; exact (Below.refl _ w).alloc (Nat.le_refl _) _
  have b1 : Blk W1 p1 29 s.cs.toArray := by rw [← ea1]; exact blk_new w _ 29 _ f1
  have kk : Below w.heap.size w W1 := ka1
  have hp1 : w.heap.size ≤ p1 := Nat.le_of_eq f1
  clear ka1
  by_cases h5 : 500 < n
  · have t5 : decide ((500 : Int) < (n : Int)) = true := decide_eq_true (by omega)
    obtain ⟨m, hm, hcut⟩ := cut_500 A n cap (by omega) hno
    have hf := hb.front (k := m) (by omega)
    obtain ⟨ys, ey⟩ : ∃ ys, xs.take m = ys := ⟨_, rfl⟩
    rw [ey] at hf
    clear ey hm h5 hb
    go_enter Try.func4, Try.ntmps4
    go_wp2_with fail
    refine (alive_any _).mono ?_
    rintro e W2 ⟨rfl, k1⟩
    replace b1 := b1.on k1
    replace kk := kk.trans (k1.mono kk.size)
    clear k1
    go_wp2_with (((with_reducible refine at_load 29 (.tmp 3) ?_); refine wpList_load_row rfl 29 (.tmp 3) rfl p1 rfl 29 s.cs.toArray (0, 0) _ b1 Try.underlying29 rfl (sizeS _) ?_))
    refine (dfewq _).mono ?_
    rintro e W3 ⟨rfl, k1⟩
    replace b1 := b1.on k1
    replace kk := kk.trans (k1.mono kk.size)
    clear k1
    clear dfewq
    obtain ⟨W4, es4⟩ : ∃ W, W3.setRow p1 q.cs.toArray = W := ⟨_, rfl⟩
    have bo1 := b1
    replace b1 : Blk W4 p1 29 q.cs.toArray := row_named b1 es4
    replace kk := kk.trans (row_below es4 hp1 kk.size)
    go_wp2_with (((with_reducible refine at_store 29 (.tmp 3) (.tmp 10) ?_); refine wpList_store_row rfl 29 (.tmp 3) (.tmp 10) rfl p1 q.cs.toArray rfl rfl 29 s.cs.toArray bo1 (sizeS _) rfl (St.onea _) ?_; rw [es4]))
    clear bo1
    have hr : Stat W4 q d bq := HR.out.on kk
    have ob := hf.on kk
    obtain ⟨wd, ed⟩ : ∃ W, W4.drew = W := ⟨_, rfl⟩
    have hd : Below W4.heap.size W4 wd := by rw [← ed]; exact (Below.refl _ _).drew
    replace b1 := b1.on hd
    replace kk := kk.trans (hd.mono kk.size)
    replace hr := hr.on hd
    replace ob := ob.on hd
    clear hd
    have kS : Kept (fun g => False) wd wd := Kept.refl _ _
    refine wp_region_noPanic ?_
    refine wp_region_held_drew (S := (fun W => Kept (fun g => False) wd W)) (by kernel_rfl) (by rw [ed]; exact kS) (fun hHeld => ?_)
    rw [ed] at hHeld ⊢
    refine wpAnyH_take (i := 0) (oi := ⟨some 16, _, _, _, _, _⟩) (v := .agg (List.toArray (q.cs))) rfl (by kernel_rfl) (by kernel_rfl) (by kernel_rfl) (fun _ _ _ h => h) (yieldsIf_load_mid (by rfl) 29 (.tmp 3) rfl p1 (0) rfl (q.cs) _ (fun W hW => range_blk (b1.kept hW (fun h => h))) Try.underlying29 rfl size29) (by assumption) ?_
    try simp only [Act.put, List.setIfInBounds_toArray, List.set_cons_zero, List.set_cons_succ]
    refine wpAnyH_take (i := 2) (oi := ⟨some 18, _, _, _, _, _⟩) (v := .agg (List.toArray (q.cs))) rfl (by kernel_rfl) (by kernel_rfl) (by kernel_rfl) (fun _ _ _ h => h) (yieldsIf_load_mid (by rfl) 29 (.tmp 3) rfl p1 (0) rfl (q.cs) _ (fun W hW => range_blk (b1.kept hW (fun h => h))) Try.underlying29 rfl size29) (by assumption) ?_
    try simp only [Act.put, List.setIfInBounds_toArray, List.set_cons_zero, List.set_cons_succ]
    refine wpAnyH_ready (rs := [1]) (by kernel_rfl) (by simp) ?_
    refine AllReadyH.cons (o := ⟨some 17, _, _, _, _, _⟩) rfl (fun K hK => ?_) AllReadyH.nil
    go_simp
    refine (chash_any q d bq wd hr HF.out).mono ?_
    rintro e w1 ⟨rfl, hb1⟩
    have b1_1 := b1.on hb1
    have kk_1 := kk.trans (hb1.mono kk.size)
    have hr_1 := hr.on hb1
    have ob_1 := ob.on hb1
    have S1 : (fun W => Kept (fun g => False) wd W) w1 := Kept.next kS (kept_below (fun _ => False) hb1) (fun _ h => h.elim)
    refine hK.out _ _ S1 (fun h1 => ?_)
    clear hHeld hK K
    try simp only [Act.put, List.setIfInBounds_toArray, List.set_cons_zero, List.set_cons_succ]
    refine wpAnyH_ready (rs := [3]) (by kernel_rfl) (by simp) ?_
    refine AllReadyH.cons (o := ⟨some 19, _, _, _, _, _⟩) rfl (fun K hK => ?_) AllReadyH.nil
    go_simp
    refine (rhash_any q d bq w1 hr_1 HF.out).mono ?_
    rintro e w2 ⟨rfl, hb2⟩
    have b1_2 := b1_1.on hb2
    have kk_2 := kk_1.trans (hb2.mono kk_1.size)
    have hr_2 := hr_1.on hb2
    have ob_2 := ob_1.on hb2
    have S2 : (fun W => Kept (fun g => False) wd W) w2 := Kept.next S1 (kept_below (fun _ => False) hb2) (fun _ h => h.elim)
    refine hK.out _ _ S2 (fun h2 => ?_)
    clear h1 hK K
    try simp only [Act.put, List.setIfInBounds_toArray, List.set_cons_zero, List.set_cons_succ]
    refine wpAnyH_take (i := 4) (oi := ⟨some 20, _, _, _, _, _⟩) (v := ?_) rfl (by kernel_rfl) (by kernel_rfl) (by kernel_rfl) (fun _ _ _ h => h) (Or.inl ⟨by rfl, ?_⟩) (by assumption) ?_
    rotate_left 1
    · (intro W hSw; go_simp <;> with_reducible rfl)
    try simp only [Act.put, List.setIfInBounds_toArray, List.set_cons_zero, List.set_cons_succ]
    refine wpAnyH_take (i := 5) (oi := ⟨some 21, _, _, _, _, _⟩) (v := ?_) rfl (by kernel_rfl) (by kernel_rfl) (by kernel_rfl) (fun _ _ _ h => h) (Or.inl ⟨by rfl, ?_⟩) (by assumption) ?_
    rotate_left 1
    · (intro W hSw; go_simp <;> with_reducible rfl)
    try simp only [Act.put, List.setIfInBounds_toArray, List.set_cons_zero, List.set_cons_succ]
    refine wpAnyH_take (i := 6) (oi := ⟨some 22, _, _, _, _, _⟩) (v := ?_) rfl (by kernel_rfl) (by kernel_rfl) (by kernel_rfl) (fun _ _ _ h => h) (Or.inl ⟨by rfl, ?_⟩) (by assumption) ?_
    rotate_left 1
    · (intro W hSw; go_simp <;> with_reducible rfl)
    try simp only [Act.put, List.setIfInBounds_toArray, List.set_cons_zero, List.set_cons_succ]
    refine wpAnyH_take (i := 7) (oi := ⟨some 23, _, _, _, _, _⟩) (v := ?_) rfl (by kernel_rfl) (by kernel_rfl) (by kernel_rfl) (fun _ _ _ h => h) (Or.inl ⟨by rfl, ?_⟩) (by assumption) ?_
    rotate_left 1
    · (intro W hSw; go_simp <;> with_reducible rfl)
    try simp only [Act.put, List.setIfInBounds_toArray, List.set_cons_zero, List.set_cons_succ]
    refine wpAnyH_take (i := 9) (oi := ⟨some 25, _, _, _, _, _⟩) (v := ?_) rfl (by kernel_rfl) (by kernel_rfl) (by kernel_rfl) (fun _ _ _ h => h) (Or.inl ⟨by rfl, ?_⟩) (by assumption) ?_
    rotate_left 1
    · (intro W hSw; go_simp <;> with_reducible rfl)
    try simp only [Act.put, List.setIfInBounds_toArray, List.set_cons_zero, List.set_cons_succ]
    refine wpAnyH_take (i := 10) (oi := ⟨some 26, _, _, _, _, _⟩) (v := ?_) rfl (by kernel_rfl) (by kernel_rfl) (by kernel_rfl) (fun _ _ _ h => h) (Or.inl ⟨by rfl, ?_⟩) (by assumption) ?_
    rotate_left 1
    · (intro W hSw; go_simp <;> with_reducible rfl)
    try simp only [Act.put, List.setIfInBounds_toArray, List.set_cons_zero, List.set_cons_succ]
    refine wpAnyH_take (i := 11) (oi := ⟨some 27, _, _, _, _, _⟩) (v := ?_) rfl (by kernel_rfl) (by kernel_rfl) (by kernel_rfl) (fun _ _ _ h => h) (Or.inl ⟨by rfl, ?_⟩) (by assumption) ?_
    rotate_left 1
    · (intro W hSw; go_simp <;> with_reducible rfl)
    try simp only [Act.put, List.setIfInBounds_toArray, List.set_cons_zero, List.set_cons_succ]
    refine wpAnyH_ready (rs := [8]) (by kernel_rfl) (by simp) ?_
    refine AllReadyH.cons (o := ⟨some 24, _, _, _, _, _⟩) rfl (fun K hK => ?_) AllReadyH.nil
    go_simp
    refine (part_any i ys A m cap w2 _ ob_2).mono ?_
    rintro e w3 ⟨rfl, ew3⟩
    have hb3 : Below w2.heap.size w2 w3 := by rw [← ew3]; exact Below.refl _ _
    have b1_3 := b1_2.on hb3
    have kk_3 := kk_2.trans (hb3.mono kk_2.size)
    have hr_3 := hr_2.on hb3
    have ob_3 := ob_2.on hb3
    have S3 : (fun W => Kept (fun g => False) wd W) w3 := Kept.next S2 (kept_below (fun _ => False) hb3) (fun _ h => h.elim)
    refine hK.out _ _ S3 (fun h3 => ?_)
    clear h2 hK K
    try simp only [Act.put, List.setIfInBounds_toArray, List.set_cons_zero, List.set_cons_succ]
    refine wpAnyH_ready (rs := [12]) (by kernel_rfl) (by simp) ?_
    refine AllReadyH.cons (o := ⟨some 28, _, _, _, _, _⟩) rfl (fun K hK => ?_) AllReadyH.nil
    go_simp
    refine (show Calls Try.prog 19 #[.int .u64 (IntKind.u64.wrap i), .slice A m cap] w3 (fun e w' => e = .returned (.int .u64 (partZ i ys)) ∧ w3 = w') from (rsum_any (IntKind.u64.wrap i) ys A m cap w3 _ ob_3)).mono ?_
    rintro e w4 ⟨rfl, ew4⟩
    have hb4 : Below w3.heap.size w3 w4 := by rw [← ew4]; exact Below.refl _ _
    have b1_4 := b1_3.on hb4
    have kk_4 := kk_3.trans (hb4.mono kk_3.size)
    have hr_4 := hr_3.on hb4
    have ob_4 := ob_3.on hb4
    have S4 : (fun W => Kept (fun g => False) wd W) w4 := Kept.next S3 (kept_below (fun _ => False) hb4) (fun _ h => h.elim)
    refine hK.out _ _ S4 (fun h4 => ?_)
    clear h3 hK K
    try simp only [Act.put, List.setIfInBounds_toArray, List.set_cons_zero, List.set_cons_succ]
    refine wpAnyH_take (i := 13) (oi := ⟨some 29, _, _, _, _, _⟩) (v := ?_) rfl (by kernel_rfl) (by kernel_rfl) (by kernel_rfl) (fun _ _ _ h => h) (Or.inl ⟨by rfl, ?_⟩) (by assumption) ?_
    rotate_left 1
    · (intro W hSw; go_simp <;> with_reducible rfl)
    try simp only [Act.put, List.setIfInBounds_toArray, List.set_cons_zero, List.set_cons_succ]
    refine wpAnyH_take (i := 14) (oi := ⟨some 30, _, _, _, _, _⟩) (v := ?_) rfl (by kernel_rfl) (by kernel_rfl) (by kernel_rfl) (fun _ _ _ h => h) (Or.inl ⟨by rfl, ?_⟩) (by assumption) ?_
    rotate_left 1
    · (intro W hSw; go_simp <;> with_reducible rfl)
    try simp only [Act.put, List.setIfInBounds_toArray, List.set_cons_zero, List.set_cons_succ]
    refine wpAnyH_take (i := 15) (oi := ⟨some 6, _, _, _, _, _⟩) (v := ?_) rfl (by kernel_rfl) (by kernel_rfl) (by kernel_rfl) (fun _ _ _ h => h) (Or.inl ⟨by rfl, ?_⟩) (by assumption) ?_
    rotate_left 1
    · (intro W hSw; go_simp <;> with_reducible rfl)
    try simp only [Act.put, List.setIfInBounds_toArray, List.set_cons_zero, List.set_cons_succ]
    refine wpAnyH_done (by kernel_rfl) ?_ _
    refine NoPanic.normal ?_
    go_wp2
    go_ret
    have kz := kk_4
    first | exact ⟨rfl, kz⟩ | (rw [f1] at kz; exact ⟨rfl, kz⟩)
  · have t5 : decide ((500 : Int) < (n : Int)) = false := decide_eq_false (by omega)
    obtain ⟨ys, ey⟩ : ∃ ys, xs = ys := ⟨_, rfl⟩
    have hf := hb
    rw [ey] at hf
    clear ey h5 hb
    go_enter Try.func4, Try.ntmps4
    go_wp2_with fail
    refine (alive_any _).mono ?_
    rintro e W2 ⟨rfl, k1⟩
    replace b1 := b1.on k1
    replace kk := kk.trans (k1.mono kk.size)
    clear k1
    go_wp2_with (((with_reducible refine at_load 29 (.tmp 3) ?_); refine wpList_load_row rfl 29 (.tmp 3) rfl p1 rfl 29 s.cs.toArray (0, 0) _ b1 Try.underlying29 rfl (sizeS _) ?_))
    refine (dfewq _).mono ?_
    rintro e W3 ⟨rfl, k1⟩
    replace b1 := b1.on k1
    replace kk := kk.trans (k1.mono kk.size)
    clear k1
    clear dfewq
    obtain ⟨W4, es4⟩ : ∃ W, W3.setRow p1 q.cs.toArray = W := ⟨_, rfl⟩
    have bo1 := b1
    replace b1 : Blk W4 p1 29 q.cs.toArray := row_named b1 es4
    replace kk := kk.trans (row_below es4 hp1 kk.size)
    go_wp2_with (((with_reducible refine at_store 29 (.tmp 3) (.tmp 10) ?_); refine wpList_store_row rfl 29 (.tmp 3) (.tmp 10) rfl p1 q.cs.toArray rfl rfl 29 s.cs.toArray bo1 (sizeS _) rfl (St.onea _) ?_; rw [es4]))
    clear bo1
    have hr : Stat W4 q d bq := HR.out.on kk
    have ob := hf.on kk
    obtain ⟨wd, ed⟩ : ∃ W, W4.drew = W := ⟨_, rfl⟩
    have hd : Below W4.heap.size W4 wd := by rw [← ed]; exact (Below.refl _ _).drew
    replace b1 := b1.on hd
    replace kk := kk.trans (hd.mono kk.size)
    replace hr := hr.on hd
    replace ob := ob.on hd
    clear hd
    have kS : Kept (fun g => False) wd wd := Kept.refl _ _
    refine wp_region_noPanic ?_
    refine wp_region_held_drew (S := (fun W => Kept (fun g => False) wd W)) (by kernel_rfl) (by rw [ed]; exact kS) (fun hHeld => ?_)
    rw [ed] at hHeld ⊢
    refine wpAnyH_take (i := 0) (oi := ⟨some 16, _, _, _, _, _⟩) (v := .agg (List.toArray (q.cs))) rfl (by kernel_rfl) (by kernel_rfl) (by kernel_rfl) (fun _ _ _ h => h) (yieldsIf_load_mid (by rfl) 29 (.tmp 3) rfl p1 (0) rfl (q.cs) _ (fun W hW => range_blk (b1.kept hW (fun h => h))) Try.underlying29 rfl size29) (by assumption) ?_
    try simp only [Act.put, List.setIfInBounds_toArray, List.set_cons_zero, List.set_cons_succ]
    refine wpAnyH_take (i := 2) (oi := ⟨some 18, _, _, _, _, _⟩) (v := .agg (List.toArray (q.cs))) rfl (by kernel_rfl) (by kernel_rfl) (by kernel_rfl) (fun _ _ _ h => h) (yieldsIf_load_mid (by rfl) 29 (.tmp 3) rfl p1 (0) rfl (q.cs) _ (fun W hW => range_blk (b1.kept hW (fun h => h))) Try.underlying29 rfl size29) (by assumption) ?_
    try simp only [Act.put, List.setIfInBounds_toArray, List.set_cons_zero, List.set_cons_succ]
    refine wpAnyH_ready (rs := [1]) (by kernel_rfl) (by simp) ?_
    refine AllReadyH.cons (o := ⟨some 17, _, _, _, _, _⟩) rfl (fun K hK => ?_) AllReadyH.nil
    go_simp
    refine (chash_any q d bq wd hr HF.out).mono ?_
    rintro e w1 ⟨rfl, hb1⟩
    have b1_1 := b1.on hb1
    have kk_1 := kk.trans (hb1.mono kk.size)
    have hr_1 := hr.on hb1
    have ob_1 := ob.on hb1
    have S1 : (fun W => Kept (fun g => False) wd W) w1 := Kept.next kS (kept_below (fun _ => False) hb1) (fun _ h => h.elim)
    refine hK.out _ _ S1 (fun h1 => ?_)
    clear hHeld hK K
    try simp only [Act.put, List.setIfInBounds_toArray, List.set_cons_zero, List.set_cons_succ]
    refine wpAnyH_ready (rs := [3]) (by kernel_rfl) (by simp) ?_
    refine AllReadyH.cons (o := ⟨some 19, _, _, _, _, _⟩) rfl (fun K hK => ?_) AllReadyH.nil
    go_simp
    refine (rhash_any q d bq w1 hr_1 HF.out).mono ?_
    rintro e w2 ⟨rfl, hb2⟩
    have b1_2 := b1_1.on hb2
    have kk_2 := kk_1.trans (hb2.mono kk_1.size)
    have hr_2 := hr_1.on hb2
    have ob_2 := ob_1.on hb2
    have S2 : (fun W => Kept (fun g => False) wd W) w2 := Kept.next S1 (kept_below (fun _ => False) hb2) (fun _ h => h.elim)
    refine hK.out _ _ S2 (fun h2 => ?_)
    clear h1 hK K
    try simp only [Act.put, List.setIfInBounds_toArray, List.set_cons_zero, List.set_cons_succ]
    refine wpAnyH_take (i := 4) (oi := ⟨some 20, _, _, _, _, _⟩) (v := ?_) rfl (by kernel_rfl) (by kernel_rfl) (by kernel_rfl) (fun _ _ _ h => h) (Or.inl ⟨by rfl, ?_⟩) (by assumption) ?_
    rotate_left 1
    · (intro W hSw; go_simp <;> with_reducible rfl)
    try simp only [Act.put, List.setIfInBounds_toArray, List.set_cons_zero, List.set_cons_succ]
    refine wpAnyH_take (i := 5) (oi := ⟨some 21, _, _, _, _, _⟩) (v := ?_) rfl (by kernel_rfl) (by kernel_rfl) (by kernel_rfl) (fun _ _ _ h => h) (Or.inl ⟨by rfl, ?_⟩) (by assumption) ?_
    rotate_left 1
    · (intro W hSw; go_simp <;> with_reducible rfl)
    try simp only [Act.put, List.setIfInBounds_toArray, List.set_cons_zero, List.set_cons_succ]
    refine wpAnyH_take (i := 6) (oi := ⟨some 22, _, _, _, _, _⟩) (v := ?_) rfl (by kernel_rfl) (by kernel_rfl) (by kernel_rfl) (fun _ _ _ h => h) (Or.inl ⟨by rfl, ?_⟩) (by assumption) ?_
    rotate_left 1
    · (intro W hSw; go_simp <;> with_reducible rfl)
    try simp only [Act.put, List.setIfInBounds_toArray, List.set_cons_zero, List.set_cons_succ]
    refine wpAnyH_take (i := 7) (oi := ⟨some 23, _, _, _, _, _⟩) (v := ?_) rfl (by kernel_rfl) (by kernel_rfl) (by kernel_rfl) (fun _ _ _ h => h) (Or.inl ⟨by rfl, ?_⟩) (by assumption) ?_
    rotate_left 1
    · (intro W hSw; go_simp <;> with_reducible rfl)
    try simp only [Act.put, List.setIfInBounds_toArray, List.set_cons_zero, List.set_cons_succ]
    refine wpAnyH_take (i := 9) (oi := ⟨some 25, _, _, _, _, _⟩) (v := ?_) rfl (by kernel_rfl) (by kernel_rfl) (by kernel_rfl) (fun _ _ _ h => h) (Or.inl ⟨by rfl, ?_⟩) (by assumption) ?_
    rotate_left 1
    · (intro W hSw; go_simp <;> with_reducible rfl)
    try simp only [Act.put, List.setIfInBounds_toArray, List.set_cons_zero, List.set_cons_succ]
    refine wpAnyH_take (i := 10) (oi := ⟨some 26, _, _, _, _, _⟩) (v := ?_) rfl (by kernel_rfl) (by kernel_rfl) (by kernel_rfl) (fun _ _ _ h => h) (Or.inl ⟨by rfl, ?_⟩) (by assumption) ?_
    rotate_left 1
    · (intro W hSw; go_simp <;> with_reducible rfl)
    try simp only [Act.put, List.setIfInBounds_toArray, List.set_cons_zero, List.set_cons_succ]
    refine wpAnyH_take (i := 11) (oi := ⟨some 27, _, _, _, _, _⟩) (v := ?_) rfl (by kernel_rfl) (by kernel_rfl) (by kernel_rfl) (fun _ _ _ h => h) (Or.inl ⟨by rfl, ?_⟩) (by assumption) ?_
    rotate_left 1
    · (intro W hSw; go_simp <;> with_reducible rfl)
    try simp only [Act.put, List.setIfInBounds_toArray, List.set_cons_zero, List.set_cons_succ]
    refine wpAnyH_ready (rs := [8]) (by kernel_rfl) (by simp) ?_
    refine AllReadyH.cons (o := ⟨some 24, _, _, _, _, _⟩) rfl (fun K hK => ?_) AllReadyH.nil
    go_simp
    refine (part_any i ys A n cap w2 _ ob_2).mono ?_
    rintro e w3 ⟨rfl, ew3⟩
    have hb3 : Below w2.heap.size w2 w3 := by rw [← ew3]; exact Below.refl _ _
    have b1_3 := b1_2.on hb3
    have kk_3 := kk_2.trans (hb3.mono kk_2.size)
    have hr_3 := hr_2.on hb3
    have ob_3 := ob_2.on hb3
    have S3 : (fun W => Kept (fun g => False) wd W) w3 := Kept.next S2 (kept_below (fun _ => False) hb3) (fun _ h => h.elim)
    refine hK.out _ _ S3 (fun h3 => ?_)
    clear h2 hK K
    try simp only [Act.put, List.setIfInBounds_toArray, List.set_cons_zero, List.set_cons_succ]
    refine wpAnyH_ready (rs := [12]) (by kernel_rfl) (by simp) ?_
    refine AllReadyH.cons (o := ⟨some 28, _, _, _, _, _⟩) rfl (fun K hK => ?_) AllReadyH.nil
    go_simp
    refine (show Calls Try.prog 19 #[.int .u64 (IntKind.u64.wrap i), .slice A n cap] w3 (fun e w' => e = .returned (.int .u64 (partZ i ys)) ∧ w3 = w') from (rsum_any (IntKind.u64.wrap i) ys A n cap w3 _ ob_3)).mono ?_
    rintro e w4 ⟨rfl, ew4⟩
    have hb4 : Below w3.heap.size w3 w4 := by rw [← ew4]; exact Below.refl _ _
    have b1_4 := b1_3.on hb4
    have kk_4 := kk_3.trans (hb4.mono kk_3.size)
    have hr_4 := hr_3.on hb4
    have ob_4 := ob_3.on hb4
    have S4 : (fun W => Kept (fun g => False) wd W) w4 := Kept.next S3 (kept_below (fun _ => False) hb4) (fun _ h => h.elim)
    refine hK.out _ _ S4 (fun h4 => ?_)
    clear h3 hK K
    try simp only [Act.put, List.setIfInBounds_toArray, List.set_cons_zero, List.set_cons_succ]
    refine wpAnyH_take (i := 13) (oi := ⟨some 29, _, _, _, _, _⟩) (v := ?_) rfl (by kernel_rfl) (by kernel_rfl) (by kernel_rfl) (fun _ _ _ h => h) (Or.inl ⟨by rfl, ?_⟩) (by assumption) ?_
    rotate_left 1
    · (intro W hSw; go_simp <;> with_reducible rfl)
    try simp only [Act.put, List.setIfInBounds_toArray, List.set_cons_zero, List.set_cons_succ]
    refine wpAnyH_take (i := 14) (oi := ⟨some 30, _, _, _, _, _⟩) (v := ?_) rfl (by kernel_rfl) (by kernel_rfl) (by kernel_rfl) (fun _ _ _ h => h) (Or.inl ⟨by rfl, ?_⟩) (by assumption) ?_
    rotate_left 1
    · (intro W hSw; go_simp <;> with_reducible rfl)
    try simp only [Act.put, List.setIfInBounds_toArray, List.set_cons_zero, List.set_cons_succ]
    refine wpAnyH_take (i := 15) (oi := ⟨some 6, _, _, _, _, _⟩) (v := ?_) rfl (by kernel_rfl) (by kernel_rfl) (by kernel_rfl) (fun _ _ _ h => h) (Or.inl ⟨by rfl, ?_⟩) (by assumption) ?_
    rotate_left 1
    · (intro W hSw; go_simp <;> with_reducible rfl)
    try simp only [Act.put, List.setIfInBounds_toArray, List.set_cons_zero, List.set_cons_succ]
    refine wpAnyH_done (by kernel_rfl) ?_ _
    refine NoPanic.normal ?_
    go_wp2
    go_ret
    have kz := kk_4
    first | exact ⟨rfl, kz⟩ | (rw [f1] at kz; exact ⟨rfl, kz⟩)
end Go.Proofs.Ytfmkmmmaoiepmaa
