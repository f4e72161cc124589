/- A register set in a thread of the call's own, by both sides; what is reckoned of two registers. Conditions: at most a thousand elements in each list. -/
import Derived.Test.YtcajoekmigkhjaaStart
import Derived.Test.YtcajoekmigkhjaaDone
namespace Go.Proofs.Ytcajoekmigkhjaa
open Go.RowKit Go.ChangeShapes Go.WideShapes Go.Great

section
variable (x : Th) (se bg sn : Sl) (w : World)
theorem with_put (r : Int) (v : Wd) : Calls Try.prog 33 #[.agg (x.put se bg sn).cs.toArray, .int .i64 r, .agg v.cs.toArray] w fun e w' => e = .returned (.agg ((setI x r v).put se bg sn).cs.toArray) ∧ Below w.heap.size w w' := by
  rw [← setI_put]
  exact with_any _ r v w
theorem get_put (r : Int) : Calls Try.prog 21 #[.agg (x.put se bg sn).cs.toArray, .int .i64 r] w fun e w' => e = .returned (.agg (regI x r).cs.toArray) ∧ Below w.heap.size w w' := by
  rw [← regI_put x se bg sn]
  exact get_any _ r w
theorem rget_put (r : Int) : Calls Try.prog 22 #[.agg (x.put se bg sn).cs.toArray, .int .i64 r] w fun e w' => e = .returned (.agg (regI x r).cs.toArray) ∧ Below w.heap.size w w' := by
  rw [← regI_put x se bg sn]
  exact rget_any _ r w
theorem halted_put : Calls Try.prog 36 #[.agg (x.put se bg sn).cs.toArray] w fun e w' => e = .returned (.agg (({ x with st := 1 } : Th).put se bg sn).cs.toArray) ∧ Below w.heap.size w w' := halted_any _ w
theorem jumped_put (i : Ins) (b : Bool) : Calls Try.prog 38 #[.agg (x.put se bg sn).cs.toArray, .agg i.cs.toArray, .bool b] w fun e w' => e = .returned (.agg ((jmpT x i b).put se bg sn).cs.toArray) ∧ Below w.heap.size w w' := by
  rw [← jmpT_put]
  exact jumped_any _ i b w
end
theorem Own.off {B : Nat} {w W : World} {x y : Th} {z s : List Int} {l : List Bg} {g : Nat} {t' : TypeId} {cs cs' : Array Value} (h : Own B w x z l s) (hb : Blk w g t' cs) (h1 : 2 ≠ t') (h2 : 48 ≠ t') (e : w.setRow g cs' = W) (e1 : y.se = x.se) (e2 : y.bg = x.bg) (e3 : y.sn = x.sn) : Own B W y z l s :=
  ⟨by rw [e1]; exact row_own h.se hb h1 e, by rw [e2]; exact row_own h.bg hb h2 e, by rw [e3]; exact row_own h.sn hb h1 e⟩
set_option maxRecDepth 100000 in
set_option maxHeartbeats 4000000 in
theorem set_any {w : World} {x : Th} {z s : List Int} {l : List Bg} (r : Int) (v : Wd) (h : Reads w x z l s) (h1 : x.se.n ≤ 1000) (h2 : x.bg.n ≤ 1000) (h3 : x.sn.n ≤ 1000) :
    Calls Try.prog 19 #[.agg x.cs.toArray, .int .i64 r, .agg v.cs.toArray] w fun e w' => ∃ A1 c1 A2 c2 A3 c3, e = .returned (.agg ((setI x r v).put ⟨A1, x.se.n, c1⟩ ⟨A2, x.bg.n, c2⟩ ⟨A3, x.sn.n, c3⟩).cs.toArray) ∧ Own w.heap.size w' ((setI x r v).put ⟨A1, x.se.n, c1⟩ ⟨A2, x.bg.n, c2⟩ ⟨A3, x.sn.n, c3⟩) z l s ∧ Below w.heap.size w w' := by
  obtain ⟨p1, f1⟩ : ∃ p, w.heap.size = p := ⟨_, rfl⟩
  obtain ⟨W1, ea1⟩ : ∃ W, w.alloc (.cells x.cs.toArray 32) = W := ⟨_, rfl⟩
  have ka1 : Below w.heap.size w W1 := by rw [← ea1]; exact (Below.refl _ w).alloc (Nat.le_refl _) _
  have b1 : Blk W1 p1 32 x.cs.toArray := by rw [← ea1]; exact blk_new w _ 32 _ f1
  have kk : Below w.heap.size w W1 := ka1
  have hp1 : w.heap.size ≤ p1 := Nat.le_of_eq f1
  clear ka1
  obtain ⟨p2, f2⟩ : ∃ p, W1.heap.size = p := ⟨_, rfl⟩
  obtain ⟨W2, ea2⟩ : ∃ W, W1.alloc (.cells v.cs.toArray 25) = W := ⟨_, rfl⟩
  have ka2 : Below W1.heap.size W1 W2 := by rw [← ea2]; exact (Below.refl _ W1).alloc (Nat.le_refl _) _
  have b2 : Blk W2 p2 25 v.cs.toArray := by rw [← ea2]; exact blk_new W1 _ 25 _ f2
  have q1_2 : p1 < p2 := by rw [← f2]; exact b1.lt
  replace b1 := b1.on ka2
  have kk0 := kk
  replace kk := kk.trans (ka2.mono kk.size)
  have hp2 : w.heap.size ≤ p2 := by rw [← f2]; exact kk0.size
  clear ka2 kk0
  obtain ⟨p3, f3⟩ : ∃ p, W2.heap.size = p := ⟨_, rfl⟩
  obtain ⟨W3, ea3⟩ : ∃ W, W2.alloc (.cells #[.int .i64 0, .int .i64 0, .int .i64 0, .int .i64 0, .int .i64 0, .int .i64 0, .int .i64 0, .int .i64 0, .int .i64 0, .int .i64 0, .int .i64 0, .int .i64 0, .int .i64 0, .int .i64 0, .int .i64 0, .int .i64 0, .int .i64 0, .int .i64 0, .slice none 0 0, .slice none 0 0, .slice none 0 0, .int .i64 0] 32) = W := ⟨_, rfl⟩
  have ka3 : Below W2.heap.size W2 W3 := by rw [← ea3]; exact (Below.refl _ W2).alloc (Nat.le_refl _) _
  have b3 : Blk W3 p3 32 #[.int .i64 0, .int .i64 0, .int .i64 0, .int .i64 0, .int .i64 0, .int .i64 0, .int .i64 0, .int .i64 0, .int .i64 0, .int .i64 0, .int .i64 0, .int .i64 0, .int .i64 0, .int .i64 0, .int .i64 0, .int .i64 0, .int .i64 0, .int .i64 0, .slice none 0 0, .slice none 0 0, .slice none 0 0, .int .i64 0] := by rw [← ea3]; exact blk_new W2 _ 32 _ f3
  have q1_3 : p1 < p3 := by rw [← f3]; exact b1.lt
  replace b1 := b1.on ka3
  have q2_3 : p2 < p3 := by rw [← f3]; exact b2.lt
  replace b2 := b2.on ka3
  have kk0 := kk
  replace kk := kk.trans (ka3.mono kk.size)
  have hp3 : w.heap.size ≤ p3 := by rw [← f3]; exact kk0.size
  clear ka3 kk0
  have h13 : p1 ≠ p3 := by omega
  have h23 : p2 ≠ p3 := by omega
  go_enter Try.func19, Try.ntmps19
  go_wp2_with fail
  clear f1
  obtain ⟨wd, ed⟩ : ∃ W, W3.drew = W := ⟨_, rfl⟩
  have hd : Below W3.heap.size W3 wd := by rw [← ed]; exact (Below.refl _ _).drew
  replace b1 := b1.on hd
  replace b2 := b2.on hd
  replace b3 := b3.on hd
  replace kk := kk.trans (hd.mono kk.size)
  clear hd
  have kS : Kept (fun g => g = p3) wd wd := Kept.refl _ _
  refine wp_region_noPanic ?_
  refine wp_region_held_drew (S := (fun W => Kept (fun g => g = p3) wd W)) (by kernel_rfl) (by rw [ed]; exact kS) (fun hHeld => ?_)
  rw [ed] at hHeld ⊢
  refine wpAnyH_take (i := 0) (oi := ⟨some 7, _, _, _, _, _⟩) (v := .agg (List.toArray (x.cs))) rfl (by kernel_rfl) (by kernel_rfl) (by kernel_rfl) (fun _ _ _ h => h) (yieldsIf_load_mid (by rfl) 32 (.tmp 3) rfl p1 (0) rfl (x.cs) _ (fun W hW => range_part (b1.kept hW h13) 0 x.cs rfl) Try.underlying32 rfl (sizeT _)) (by assumption) ?_
  try simp only [Act.put, List.setIfInBounds_toArray, List.set_cons_zero, List.set_cons_succ]
  refine wpAnyH_take (i := 2) (oi := ⟨some 9, _, _, _, _, _⟩) (v := ?_) rfl (by kernel_rfl) (by kernel_rfl) (by kernel_rfl) (fun _ _ _ h => h) (Or.inl ⟨by rfl, ?_⟩) (by assumption) ?_
  rotate_left 1
  · (intro W hSw; go_simp <;> with_reducible rfl)
  try simp only [Act.put, List.setIfInBounds_toArray, List.set_cons_zero, List.set_cons_succ]
  refine wpAnyH_take (i := 3) (oi := ⟨some 10, _, _, _, _, _⟩) (v := .agg (List.toArray (v.cs))) rfl (by kernel_rfl) (by kernel_rfl) (by kernel_rfl) (fun _ _ _ h => h) (yieldsIf_load_mid (by rfl) 25 (.tmp 5) rfl p2 (0) rfl (v.cs) _ (fun W hW => range_part (b2.kept hW h23) 0 v.cs rfl) Try.underlying25 rfl size25) (by assumption) ?_
  try simp only [Act.put, List.setIfInBounds_toArray, List.set_cons_zero, List.set_cons_succ]
  refine wpAnyH_ready (rs := [1]) (by kernel_rfl) (by simp) ?_
  refine AllReadyH.cons (o := ⟨some 8, _, _, _, _, _⟩) rfl (fun K hK => ?_) AllReadyH.nil
  go_simp
  refine (clone_any (h.on kk) h1 h2 h3).mono ?_
  rintro e w1 ⟨A1, c1, A2, c2, A3, c3, rfl, ow1, hb1⟩
  replace ow1 := ow1.mono kk.size
  have b1_1 := b1.on hb1
  have b2_1 := b2.on hb1
  have b3_1 := b3.on hb1
  have kk_1 := kk.trans (hb1.mono kk.size)
  have S1 : (fun W => Kept (fun g => g = p3) wd W) w1 := Kept.next kS (kept_below (fun _ => False) hb1) (fun _ h => h.elim)
  refine hK.out _ _ S1 (fun h1 => ?_)
  clear hHeld hK K
  try simp only [Act.put, List.setIfInBounds_toArray, List.set_cons_zero, List.set_cons_succ]
  refine wpAnyH_ready (rs := [4]) (by kernel_rfl) (by simp) ?_
  refine AllReadyH.cons (o := ⟨some 11, _, _, _, _, _⟩) rfl (fun K hK => ?_) AllReadyH.nil
  go_simp
  refine (with_put x ⟨A1, x.se.n, c1⟩ ⟨A2, x.bg.n, c2⟩ ⟨A3, x.sn.n, c3⟩ w1 r v).mono ?_
  rintro e w2 ⟨rfl, hb2⟩
  have b1_2 := b1_1.on hb2
  have b2_2 := b2_1.on hb2
  have b3_2 := b3_1.on hb2
  have kk_2 := kk_1.trans (hb2.mono kk_1.size)
  have ow_2 := ow1.on hb2
  have S2 : (fun W => Kept (fun g => g = p3) wd W) w2 := Kept.next S1 (kept_below (fun _ => False) hb2) (fun _ h => h.elim)
  refine hK.out _ _ S2 (fun h2 => ?_)
  clear h1 hK K
  try simp only [Act.put, List.setIfInBounds_toArray, List.set_cons_zero, List.set_cons_succ]
  refine wpAnyH_ready (rs := [5]) (by kernel_rfl) (by simp) ?_
  refine AllReadyH.cons (o := ⟨none, _, _, _, _, _⟩) rfl (fun K hK => ?_) AllReadyH.nil
  rw [if_pos (by rfl)]
  refine wp_store_row 32 (.tmp 6) (.tmp 11) rfl p3 ((setI x r v).put ⟨A1, x.se.n, c1⟩ ⟨A2, x.bg.n, c2⟩ ⟨A3, x.sn.n, c3⟩).cs.toArray rfl rfl 32 #[.int .i64 0, .int .i64 0, .int .i64 0, .int .i64 0, .int .i64 0, .int .i64 0, .int .i64 0, .int .i64 0, .int .i64 0, .int .i64 0, .int .i64 0, .int .i64 0, .int .i64 0, .int .i64 0, .int .i64 0, .int .i64 0, .int .i64 0, .int .i64 0, .slice none 0 0, .slice none 0 0, .slice none 0 0, .int .i64 0] b3_2 (sizeT _) rfl (Th.onea _) ?_
  refine hK.out _ _ (Kept.next S2 (kept_row _ p3 _) (fun g h => .inl h)) (fun h3 => ?_)
  clear h2 hK K
  try simp only [Act.put]
  refine wpAnyH_done (by kernel_rfl) ?_ _
  refine NoPanic.normal ?_
  go_wp2_with fail
  have bz := row_named (cs' := ((setI x r v).put ⟨A1, x.se.n, c1⟩ ⟨A2, x.bg.n, c2⟩ ⟨A3, x.sn.n, c3⟩).cs.toArray) b3_2 rfl
  refine bodyPost_ret (results_cell_row (cs := ((setI x r v).put ⟨A1, x.se.n, c1⟩ ⟨A2, x.bg.n, c2⟩ ⟨A3, x.sn.n, c3⟩).cs.toArray) rfl _ _ p3 32 (0, 0) _ rfl bz Try.underlying32 rfl (sizeT _)) rfl ?_
  exact ⟨A1, c1, A2, c2, A3, c3, rfl, ow_2.off b3_2 (by decide) (by decide) rfl rfl rfl rfl, kk_2.trans (row_below rfl hp3 kk_2.size)⟩
set_option maxRecDepth 100000 in
set_option maxHeartbeats 4000000 in
theorem rset_any {w : World} {x : Th} {z s : List Int} {l : List Bg} (r : Int) (v : Wd) (h : Reads w x z l s) (h1 : x.se.n ≤ 1000) (h2 : x.bg.n ≤ 1000) (h3 : x.sn.n ≤ 1000) :
    Calls Try.prog 20 #[.agg x.cs.toArray, .int .i64 r, .agg v.cs.toArray] w fun e w' => ∃ A1 c1 A2 c2 A3 c3, e = .returned (.agg ((setI x r v).put ⟨A1, x.se.n, c1⟩ ⟨A2, x.bg.n, c2⟩ ⟨A3, x.sn.n, c3⟩).cs.toArray) ∧ Own w.heap.size w' ((setI x r v).put ⟨A1, x.se.n, c1⟩ ⟨A2, x.bg.n, c2⟩ ⟨A3, x.sn.n, c3⟩) z l s ∧ Below w.heap.size w w' := by
  obtain ⟨p1, f1⟩ : ∃ p, w.heap.size = p := ⟨_, rfl⟩
  obtain ⟨W1, ea1⟩ : ∃ W, w.alloc (.cells x.cs.toArray 32) = W := ⟨_, rfl⟩
  have ka1 : Below w.heap.size w W1 := by rw [← ea1]; exact (Below.refl _ w).alloc (Nat.le_refl _) _
  have b1 : Blk W1 p1 32 x.cs.toArray := by rw [← ea1]; exact blk_new w _ 32 _ f1
  have kk : Below w.heap.size w W1 := ka1
  have hp1 : w.heap.size ≤ p1 := Nat.le_of_eq f1
  clear ka1
  obtain ⟨p2, f2⟩ : ∃ p, W1.heap.size = p := ⟨_, rfl⟩
  obtain ⟨W2, ea2⟩ : ∃ W, W1.alloc (.cells v.cs.toArray 25) = W := ⟨_, rfl⟩
  have ka2 : Below W1.heap.size W1 W2 := by rw [← ea2]; exact (Below.refl _ W1).alloc (Nat.le_refl _) _
  have b2 : Blk W2 p2 25 v.cs.toArray := by rw [← ea2]; exact blk_new W1 _ 25 _ f2
  have q1_2 : p1 < p2 := by rw [← f2]; exact b1.lt
  replace b1 := b1.on ka2
  have kk0 := kk
  replace kk := kk.trans (ka2.mono kk.size)
  have hp2 : w.heap.size ≤ p2 := by rw [← f2]; exact kk0.size
  clear ka2 kk0
  obtain ⟨p3, f3⟩ : ∃ p, W2.heap.size = p := ⟨_, rfl⟩
  obtain ⟨W3, ea3⟩ : ∃ W, W2.alloc (.cells #[.int .i64 0, .int .i64 0, .int .i64 0, .int .i64 0, .int .i64 0, .int .i64 0, .int .i64 0, .int .i64 0, .int .i64 0, .int .i64 0, .int .i64 0, .int .i64 0, .int .i64 0, .int .i64 0, .int .i64 0, .int .i64 0, .int .i64 0, .int .i64 0, .slice none 0 0, .slice none 0 0, .slice none 0 0, .int .i64 0] 32) = W := ⟨_, rfl⟩
  have ka3 : Below W2.heap.size W2 W3 := by rw [← ea3]; exact (Below.refl _ W2).alloc (Nat.le_refl _) _
  have b3 : Blk W3 p3 32 #[.int .i64 0, .int .i64 0, .int .i64 0, .int .i64 0, .int .i64 0, .int .i64 0, .int .i64 0, .int .i64 0, .int .i64 0, .int .i64 0, .int .i64 0, .int .i64 0, .int .i64 0, .int .i64 0, .int .i64 0, .int .i64 0, .int .i64 0, .int .i64 0, .slice none 0 0, .slice none 0 0, .slice none 0 0, .int .i64 0] := by rw [← ea3]; exact blk_new W2 _ 32 _ f3
  have q1_3 : p1 < p3 := by rw [← f3]; exact b1.lt
  replace b1 := b1.on ka3
  have q2_3 : p2 < p3 := by rw [← f3]; exact b2.lt
  replace b2 := b2.on ka3
  have kk0 := kk
  replace kk := kk.trans (ka3.mono kk.size)
  have hp3 : w.heap.size ≤ p3 := by rw [← f3]; exact kk0.size
  clear ka3 kk0
  have d1 := copy_any (h.on kk) h1 h2 h3
  have lb0 := b1
  by_cases c0 : r < 0
  · have t0 : decide ((0 : Int) ≤ r) = false := by simpa using c0
    have hb : inB r 0 3 = false := by unfold inB; rw [t0]; rfl
    rw [setI_none hb]
    clear hb c0
    go_enter Try.func20, Try.ntmps20
    go_wp2_with (((with_reducible refine at_load 32 (.tmp 3) ?_); refine wpList_load_row rfl 32 (.tmp 3) rfl p1 rfl 32 x.cs.toArray (0, 0) _ b1 Try.underlying32 rfl (sizeT _) ?_))
    refine (d1).mono ?_
    rintro e W4 ⟨A1, c1, A2, c2, A3, c3, rfl, ⟨o1, o2, o3⟩, k1⟩
    replace o1 := own_mono o1 kk.size
    replace o2 := own_mono o2 kk.size
    replace o3 := own_mono o3 kk.size
    replace b1 := b1.on k1
    replace b2 := b2.on k1
    replace b3 := b3.on k1
    replace kk := kk.trans (k1.mono kk.size)
    clear k1
    clear d1 f1
    obtain ⟨W5, es5⟩ : ∃ W, W4.setRow p1 (x.put ⟨A1, x.se.n, c1⟩ ⟨A2, x.bg.n, c2⟩ ⟨A3, x.sn.n, c3⟩).cs.toArray = W := ⟨_, rfl⟩
    have bo1 := b1
    replace o1 := row_own o1 b1 (by decide) es5
    replace o2 := row_own o2 b1 (by decide) es5
    replace o3 := row_own o3 b1 (by decide) es5
    replace b2 := row_far b2 es5 (by omega)
    replace b3 := row_far b3 es5 (by omega)
    replace b1 : Blk W5 p1 32 (x.put ⟨A1, x.se.n, c1⟩ ⟨A2, x.bg.n, c2⟩ ⟨A3, x.sn.n, c3⟩).cs.toArray := row_named b1 es5
    replace kk := kk.trans (row_below es5 hp1 kk.size)
    have bo1_ := bo1
    have lb1 := b1
    obtain ⟨W6, es6⟩ : ∃ W, W5.setRow p3 (x.put ⟨A1, x.se.n, c1⟩ ⟨A2, x.bg.n, c2⟩ ⟨A3, x.sn.n, c3⟩).cs.toArray = W := ⟨_, rfl⟩
    have bo3 := b3
    replace o1 := row_own o1 b3 (by decide) es6
    replace o2 := row_own o2 b3 (by decide) es6
    replace o3 := row_own o3 b3 (by decide) es6
    replace b1 := row_far b1 es6 (by omega)
    replace b2 := row_far b2 es6 (by omega)
    replace b3 : Blk W6 p3 32 (x.put ⟨A1, x.se.n, c1⟩ ⟨A2, x.bg.n, c2⟩ ⟨A3, x.sn.n, c3⟩).cs.toArray := row_named b3 es6
    replace kk := kk.trans (row_below es6 hp3 kk.size)
    go_wp2_with (first | ((with_reducible refine at_store 32 (.tmp 3) (.tmp 8) ?_); refine wpList_store_row rfl 32 (.tmp 3) (.tmp 8) rfl p1 (x.put ⟨A1, x.se.n, c1⟩ ⟨A2, x.bg.n, c2⟩ ⟨A3, x.sn.n, c3⟩).cs.toArray rfl rfl 32 x.cs.toArray bo1_ (sizeT _) rfl (Th.onea _) ?_; rw [es5]) | ((with_reducible refine at_load 32 (.tmp 3) ?_); refine wpList_load_row rfl 32 (.tmp 3) rfl p1 rfl 32 (x.put ⟨A1, x.se.n, c1⟩ ⟨A2, x.bg.n, c2⟩ ⟨A3, x.sn.n, c3⟩).cs.toArray (0, 0) _ lb1 Try.underlying32 rfl (sizeT _) ?_) | ((with_reducible refine at_store 32 (.tmp 6) (.tmp 19) ?_); refine wpList_store_row rfl 32 (.tmp 6) (.tmp 19) rfl p3 (x.put ⟨A1, x.se.n, c1⟩ ⟨A2, x.bg.n, c2⟩ ⟨A3, x.sn.n, c3⟩).cs.toArray rfl rfl 32 #[.int .i64 0, .int .i64 0, .int .i64 0, .int .i64 0, .int .i64 0, .int .i64 0, .int .i64 0, .int .i64 0, .int .i64 0, .int .i64 0, .int .i64 0, .int .i64 0, .int .i64 0, .int .i64 0, .int .i64 0, .int .i64 0, .int .i64 0, .int .i64 0, .slice none 0 0, .slice none 0 0, .slice none 0 0, .int .i64 0] bo3 (sizeT _) rfl (Th.onea _) ?_; rw [es6]))
    refine bodyPost_ret (results_cell_row (cs := (x.put ⟨A1, x.se.n, c1⟩ ⟨A2, x.bg.n, c2⟩ ⟨A3, x.sn.n, c3⟩).cs.toArray) rfl _ _ p3 32 (0, 0) _ rfl b3 Try.underlying32 rfl (sizeT _)) rfl ?_
    exact ⟨A1, c1, A2, c2, A3, c3, rfl, ⟨o1, o2, o3⟩, kk⟩
  · by_cases c1 : 3 < r
    · have t0 : decide ((0 : Int) ≤ r) = true := by simpa using c0
      have t1 : decide (r ≤ 3) = false := by simpa using c1
      have hb : inB r 0 3 = false := by unfold inB; rw [t0, t1]; rfl
      rw [setI_none hb]
      clear hb c0 c1
      go_enter Try.func20, Try.ntmps20
      go_wp2_with (((with_reducible refine at_load 32 (.tmp 3) ?_); refine wpList_load_row rfl 32 (.tmp 3) rfl p1 rfl 32 x.cs.toArray (0, 0) _ b1 Try.underlying32 rfl (sizeT _) ?_))
      refine (d1).mono ?_
      rintro e W4 ⟨A1, c1, A2, c2, A3, c3, rfl, ⟨o1, o2, o3⟩, k1⟩
      replace o1 := own_mono o1 kk.size
      replace o2 := own_mono o2 kk.size
      replace o3 := own_mono o3 kk.size
      replace b1 := b1.on k1
      replace b2 := b2.on k1
      replace b3 := b3.on k1
      replace kk := kk.trans (k1.mono kk.size)
      clear k1
      clear d1 f1
      obtain ⟨W5, es5⟩ : ∃ W, W4.setRow p1 (x.put ⟨A1, x.se.n, c1⟩ ⟨A2, x.bg.n, c2⟩ ⟨A3, x.sn.n, c3⟩).cs.toArray = W := ⟨_, rfl⟩
      have bo1 := b1
      replace o1 := row_own o1 b1 (by decide) es5
      replace o2 := row_own o2 b1 (by decide) es5
      replace o3 := row_own o3 b1 (by decide) es5
      replace b2 := row_far b2 es5 (by omega)
      replace b3 := row_far b3 es5 (by omega)
      replace b1 : Blk W5 p1 32 (x.put ⟨A1, x.se.n, c1⟩ ⟨A2, x.bg.n, c2⟩ ⟨A3, x.sn.n, c3⟩).cs.toArray := row_named b1 es5
      replace kk := kk.trans (row_below es5 hp1 kk.size)
      have bo1_ := bo1
      have lb1 := b1
      obtain ⟨W6, es6⟩ : ∃ W, W5.setRow p3 (x.put ⟨A1, x.se.n, c1⟩ ⟨A2, x.bg.n, c2⟩ ⟨A3, x.sn.n, c3⟩).cs.toArray = W := ⟨_, rfl⟩
      have bo3 := b3
      replace o1 := row_own o1 b3 (by decide) es6
      replace o2 := row_own o2 b3 (by decide) es6
      replace o3 := row_own o3 b3 (by decide) es6
      replace b1 := row_far b1 es6 (by omega)
      replace b2 := row_far b2 es6 (by omega)
      replace b3 : Blk W6 p3 32 (x.put ⟨A1, x.se.n, c1⟩ ⟨A2, x.bg.n, c2⟩ ⟨A3, x.sn.n, c3⟩).cs.toArray := row_named b3 es6
      replace kk := kk.trans (row_below es6 hp3 kk.size)
      go_wp2_with (first | ((with_reducible refine at_store 32 (.tmp 3) (.tmp 8) ?_); refine wpList_store_row rfl 32 (.tmp 3) (.tmp 8) rfl p1 (x.put ⟨A1, x.se.n, c1⟩ ⟨A2, x.bg.n, c2⟩ ⟨A3, x.sn.n, c3⟩).cs.toArray rfl rfl 32 x.cs.toArray bo1_ (sizeT _) rfl (Th.onea _) ?_; rw [es5]) | ((with_reducible refine at_load 32 (.tmp 3) ?_); refine wpList_load_row rfl 32 (.tmp 3) rfl p1 rfl 32 (x.put ⟨A1, x.se.n, c1⟩ ⟨A2, x.bg.n, c2⟩ ⟨A3, x.sn.n, c3⟩).cs.toArray (0, 0) _ lb1 Try.underlying32 rfl (sizeT _) ?_) | ((with_reducible refine at_store 32 (.tmp 6) (.tmp 19) ?_); refine wpList_store_row rfl 32 (.tmp 6) (.tmp 19) rfl p3 (x.put ⟨A1, x.se.n, c1⟩ ⟨A2, x.bg.n, c2⟩ ⟨A3, x.sn.n, c3⟩).cs.toArray rfl rfl 32 #[.int .i64 0, .int .i64 0, .int .i64 0, .int .i64 0, .int .i64 0, .int .i64 0, .int .i64 0, .int .i64 0, .int .i64 0, .int .i64 0, .int .i64 0, .int .i64 0, .int .i64 0, .int .i64 0, .int .i64 0, .int .i64 0, .int .i64 0, .int .i64 0, .slice none 0 0, .slice none 0 0, .slice none 0 0, .int .i64 0] bo3 (sizeT _) rfl (Th.onea _) ?_; rw [es6]))
      refine bodyPost_ret (results_cell_row (cs := (x.put ⟨A1, x.se.n, c1⟩ ⟨A2, x.bg.n, c2⟩ ⟨A3, x.sn.n, c3⟩).cs.toArray) rfl _ _ p3 32 (0, 0) _ rfl b3 Try.underlying32 rfl (sizeT _)) rfl ?_
      exact ⟨A1, c1, A2, c2, A3, c3, rfl, ⟨o1, o2, o3⟩, kk⟩
    · have t0 : decide ((0 : Int) ≤ r) = true := by simpa using c0
      have t1 : decide (r ≤ 3) = true := by simpa using c1
      have hb : inB r 0 3 = true := by unfold inB; rw [t0, t1]; rfl
      obtain ⟨k, rfl, hk, _⟩ := inB_nat hb
      rw [setI_nat hb]
      have hk0 : (0 : Int) ≤ (k : Int) := by omega
      have hk4 : (k : Int) < 4 := by omega
      clear hb c0 c1
      go_enter Try.func20, Try.ntmps20
      go_wp2_with (((with_reducible refine at_load 32 (.tmp 3) ?_); refine wpList_load_row rfl 32 (.tmp 3) rfl p1 rfl 32 x.cs.toArray (0, 0) _ b1 Try.underlying32 rfl (sizeT _) ?_))
      refine (d1).mono ?_
      rintro e W4 ⟨A1, c1, A2, c2, A3, c3, rfl, ⟨o1, o2, o3⟩, k1⟩
      replace o1 := own_mono o1 kk.size
      replace o2 := own_mono o2 kk.size
      replace o3 := own_mono o3 kk.size
      replace b1 := b1.on k1
      replace b2 := b2.on k1
      replace b3 := b3.on k1
      replace kk := kk.trans (k1.mono kk.size)
      clear k1
      clear d1 f1
      obtain ⟨W5, es5⟩ : ∃ W, W4.setRow p1 (x.put ⟨A1, x.se.n, c1⟩ ⟨A2, x.bg.n, c2⟩ ⟨A3, x.sn.n, c3⟩).cs.toArray = W := ⟨_, rfl⟩
      have bo1 := b1
      replace o1 := row_own o1 b1 (by decide) es5
      replace o2 := row_own o2 b1 (by decide) es5
      replace o3 := row_own o3 b1 (by decide) es5
      replace b2 := row_far b2 es5 (by omega)
      replace b3 := row_far b3 es5 (by omega)
      replace b1 : Blk W5 p1 32 (x.put ⟨A1, x.se.n, c1⟩ ⟨A2, x.bg.n, c2⟩ ⟨A3, x.sn.n, c3⟩).cs.toArray := row_named b1 es5
      replace kk := kk.trans (row_below es5 hp1 kk.size)
      have bo1_ := bo1
      have lv := b2
      obtain ⟨W6, es6⟩ : ∃ W, W5.setCells p1 (3 + k * 3) v.cs.toArray.toList = W := ⟨_, rfl⟩
      have bm1 := b1
      replace o1 := mid_own o1 b1 (by decide) es6
      replace o2 := mid_own o2 b1 (by decide) es6
      replace o3 := mid_own o3 b1 (by decide) es6
      replace b2 := mid_far b2 es6 (by omega)
      replace b3 := mid_far b3 es6 (by omega)
      replace b1 : Blk W6 p1 32 ((x.setR k v).put ⟨A1, x.se.n, c1⟩ ⟨A2, x.bg.n, c2⟩ ⟨A3, x.sn.n, c3⟩).cs.toArray := mid_named b1 es6 (by rw [← setR_put]; exact reg_splice _ v hk)
      replace kk := kk.trans (mid_below es6 hp1 kk.size)
      have lb1 := b1
      obtain ⟨W7, es7⟩ : ∃ W, W6.setRow p3 ((x.setR k v).put ⟨A1, x.se.n, c1⟩ ⟨A2, x.bg.n, c2⟩ ⟨A3, x.sn.n, c3⟩).cs.toArray = W := ⟨_, rfl⟩
      have bo3 := b3
      replace o1 := row_own o1 b3 (by decide) es7
      replace o2 := row_own o2 b3 (by decide) es7
      replace o3 := row_own o3 b3 (by decide) es7
      replace b1 := row_far b1 es7 (by omega)
      replace b2 := row_far b2 es7 (by omega)
      replace b3 : Blk W7 p3 32 ((x.setR k v).put ⟨A1, x.se.n, c1⟩ ⟨A2, x.bg.n, c2⟩ ⟨A3, x.sn.n, c3⟩).cs.toArray := row_named b3 es7
      replace kk := kk.trans (row_below es7 hp3 kk.size)
      go_wp2_with (first | ((with_reducible refine at_store 32 (.tmp 3) (.tmp 8) ?_); refine wpList_store_row rfl 32 (.tmp 3) (.tmp 8) rfl p1 (x.put ⟨A1, x.se.n, c1⟩ ⟨A2, x.bg.n, c2⟩ ⟨A3, x.sn.n, c3⟩).cs.toArray rfl rfl 32 x.cs.toArray bo1_ (sizeT _) rfl (Th.onea _) ?_; rw [es5]) | ((with_reducible refine at_load 25 (.tmp 5) ?_); refine wpList_load_row rfl 25 (.tmp 5) rfl p2 rfl 25 v.cs.toArray (0, 0) _ lv Try.underlying25 rfl size25 ?_) | ((with_reducible refine at_store 25 (.tmp 18) (.tmp 16) ?_); refine wpList_store_mid rfl 25 (.tmp 18) (.tmp 16) rfl p1 (3 + k * 3) v.cs.toArray rfl rfl (reg_there bm1 hk) size25 (Wd.onea _) ?_; rw [es6]) | ((with_reducible refine at_load 32 (.tmp 3) ?_); refine wpList_load_row rfl 32 (.tmp 3) rfl p1 rfl 32 ((x.setR k v).put ⟨A1, x.se.n, c1⟩ ⟨A2, x.bg.n, c2⟩ ⟨A3, x.sn.n, c3⟩).cs.toArray (0, 0) _ lb1 Try.underlying32 rfl (sizeT _) ?_) | ((with_reducible refine at_store 32 (.tmp 6) (.tmp 19) ?_); refine wpList_store_row rfl 32 (.tmp 6) (.tmp 19) rfl p3 ((x.setR k v).put ⟨A1, x.se.n, c1⟩ ⟨A2, x.bg.n, c2⟩ ⟨A3, x.sn.n, c3⟩).cs.toArray rfl rfl 32 #[.int .i64 0, .int .i64 0, .int .i64 0, .int .i64 0, .int .i64 0, .int .i64 0, .int .i64 0, .int .i64 0, .int .i64 0, .int .i64 0, .int .i64 0, .int .i64 0, .int .i64 0, .int .i64 0, .int .i64 0, .int .i64 0, .int .i64 0, .int .i64 0, .slice none 0 0, .slice none 0 0, .slice none 0 0, .int .i64 0] bo3 (sizeT _) rfl (Th.onea _) ?_; rw [es7]))
      refine bodyPost_ret (results_cell_row (cs := ((x.setR k v).put ⟨A1, x.se.n, c1⟩ ⟨A2, x.bg.n, c2⟩ ⟨A3, x.sn.n, c3⟩).cs.toArray) rfl _ _ p3 32 (0, 0) _ rfl b3 Try.underlying32 rfl (sizeT _)) rfl ?_
      exact ⟨A1, c1, A2, c2, A3, c3, rfl, ⟨o1, o2, o3⟩, kk⟩
end Go.Proofs.Ytcajoekmigkhjaa
