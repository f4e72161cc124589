/- Registers got and set, a thread halted, and behind a jump. Conditions: none. -/
import Derived.Test.YtfadfdfpocpelaaDoorSmall
namespace Go.Proofs.YtfadfdfpocpelaaDoor
open Go.RowKit Go.ChangeShapes Go.WideShapes

section
variable {w W : World} {g o B : Nat} {t t' : TypeId} {cs cs' : Array Value} {vs : List Value}
theorem mid_named (h : Blk w g t cs) (e : w.setCells g o vs = W) (hc : splice cs o vs = cs') : Blk W g t cs' := by
  subst e hc
  exact heap_cells vs o w cs h
theorem mid_far {g' : Nat} (h : Blk w g' t cs) (e : w.setCells g o vs = W) (hne : g' ≠ g) : Blk W g' t cs := by
  subst e
  exact h.kept (kept_cells g vs o w) hne
theorem mid_below (e : w.setCells g o vs = W) (hB : B ≤ g) (hs : B ≤ w.heap.size) : Below B w W := by
  subst e
  exact (kept_cells g vs o w).under B hs (fun k hk => by rw [hk]; exact hB)
theorem mid_own {k n cap : Nat} {A : Option Addr} {us : List Value} (h : w.ownsRow B t k (.slice A n cap) n us) (hb : Blk w g t' cs) (ht : t ≠ t') (e : w.setCells g o vs = W) : W.ownsRow B t k (.slice A n cap) n us := by
  subst e
  exact h.kept (row := some g) ((kept_cells g vs o w).grown (some g) (fun k hk => by rw [hk])) (own_blocks h hb ht)
end
theorem setI_none {x : Th} {r : Int} {v : Wd} (h : inB r 0 3 = false) : setI x r v = x := by
  unfold setI
  rw [h]
  rfl
theorem setI_nat {x : Th} {k : Nat} {v : Wd} (h : inB (k : Int) 0 3 = true) : setI x (k : Int) v = x.setR k v := by
  unfold setI
  rw [h]
  rfl
theorem regI_none {x : Th} {r : Int} (h : inB r 0 3 = false) : regI x r = noW := by
  unfold regI
  rw [h]
  rfl
theorem regI_nat {x : Th} {k : Nat} (h : inB (k : Int) 0 3 = true) : regI x (k : Int) = x.reg k := by
  unfold regI
  rw [h]
  rfl
set_option maxRecDepth 100000 in
set_option maxHeartbeats 4000000 in
theorem get_any (x : Th) (r : Int) (w : World) : Calls Tryd.prog 24 #[.agg x.cs.toArray, .int .i64 r] w fun e w' => e = .returned (.agg (regI x r).cs.toArray) ∧ Below w.heap.size w w' := by
  obtain ⟨p1, f1⟩ : ∃ p, w.heap.size = p := ⟨_, rfl⟩
  obtain ⟨W1, ea1⟩ : ∃ W, w.alloc (.cells x.cs.toArray 46) = W := ⟨_, rfl⟩
  have ka1 : Below w.heap.size w W1 := by rw [← ea1]; exact (Below.refl _ w).alloc (Nat.le_refl _) _
  have b1 : Blk W1 p1 46 x.cs.toArray := by rw [← ea1]; exact blk_new w _ 46 _ f1
  have kk : Below w.heap.size w W1 := ka1
  have hp1 : w.heap.size ≤ p1 := Nat.le_of_eq f1
  clear ka1
  obtain ⟨p2, f2⟩ : ∃ p, W1.heap.size = p := ⟨_, rfl⟩
  obtain ⟨W2, ea2⟩ : ∃ W, W1.alloc (.cells #[.int .i64 0, .int .i64 0, .int .i64 0] 25) = W := ⟨_, rfl⟩
  have ka2 : Below W1.heap.size W1 W2 := by rw [← ea2]; exact (Below.refl _ W1).alloc (Nat.le_refl _) _
  have b2 : Blk W2 p2 25 #[.int .i64 0, .int .i64 0, .int .i64 0] := by rw [← ea2]; exact blk_new W1 _ 25 _ f2
  have q1_2 : p1 < p2 := by rw [← f2]; exact b1.lt
  replace b1 := b1.on ka2
  have kk0 := kk
  replace kk := kk.trans (ka2.mono kk.size)
  have hp2 : w.heap.size ≤ p2 := by rw [← f2]; exact kk0.size
  clear ka2 kk0
  have c1 := fun W => isreg_any r W
  cases hb : inB r 0 3 with
  | false =>
    rw [hb] at c1
    rw [regI_none hb]
    clear hb
    go_enter Tryd.func24, Tryd.ntmps24
    go_wp2_with (go_at_call 44; refine (c1 _).mono ?_; rintro e w' ⟨rfl, rfl⟩)
    refine (plain_any 0 _).mono ?_
    rintro e W3 ⟨rfl, k1⟩
    replace b1 := b1.on k1
    replace b2 := b2.on k1
    replace kk := kk.trans (k1.mono kk.size)
    clear k1
    obtain ⟨W4, es4⟩ : ∃ W, W3.setRow p2 noW.cs.toArray = W := ⟨_, rfl⟩
    have bo2 := b2
    replace b1 := row_far b1 es4 (by omega)
    replace b2 : Blk W4 p2 25 noW.cs.toArray := row_named b2 es4
    replace kk := kk.trans (row_below es4 hp2 kk.size)
    go_wp2_with (((with_reducible refine at_store 25 (.tmp 4) (.tmp 8) ?_); refine wpList_store_row rfl 25 (.tmp 4) (.tmp 8) rfl p2 noW.cs.toArray rfl rfl 25 #[.int .i64 0, .int .i64 0, .int .i64 0] bo2 size25 rfl (Wd.onea _) ?_; rw [es4]))
    refine bodyPost_ret (results_cell_row (cs := noW.cs.toArray) rfl _ _ p2 25 (0, 0) _ rfl b2 Tryd.underlying25 rfl size25) rfl ?_
    exact ⟨rfl, kk⟩
  | true =>
    obtain ⟨k, rfl, hk, _⟩ := inB_nat hb
    rw [hb] at c1
    rw [regI_nat hb]
    have hk0 : (0 : Int) ≤ (k : Int) := by omega
    have hk4 : (k : Int) < 4 := by omega
    clear hb
    have lr := reg_range b1 hk
    obtain ⟨W3, es3⟩ : ∃ W, W2.setRow p2 (x.reg k).cs.toArray = W := ⟨_, rfl⟩
    have bo2 := b2
    replace b1 := row_far b1 es3 (by omega)
    replace b2 : Blk W3 p2 25 (x.reg k).cs.toArray := row_named b2 es3
    replace kk := kk.trans (row_below es3 hp2 kk.size)
    go_enter Tryd.func24, Tryd.ntmps24
    go_wp2_with (first | (go_at_call 44; refine (c1 _).mono ?_; rintro e w' ⟨rfl, rfl⟩) | ((with_reducible refine at_load 25 (.tmp 11) ?_); refine wpList_mid (by rfl) 25 (.tmp 11) rfl p1 (3 + k * 3) rfl (x.reg k).cs _ lr Tryd.underlying25 rfl size25 ?_) | ((with_reducible refine at_store 25 (.tmp 4) (.tmp 12) ?_); refine wpList_store_row rfl 25 (.tmp 4) (.tmp 12) rfl p2 (x.reg k).cs.toArray rfl rfl 25 #[.int .i64 0, .int .i64 0, .int .i64 0] bo2 size25 rfl (Wd.onea _) ?_; rw [es3]))
    refine bodyPost_ret (results_cell_row (cs := (x.reg k).cs.toArray) rfl _ _ p2 25 (0, 0) _ rfl b2 Tryd.underlying25 rfl size25) rfl ?_
    exact ⟨rfl, kk⟩
end Go.Proofs.YtfadfdfpocpelaaDoor
