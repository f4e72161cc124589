/- A memory stands as its Puts say: the plain question is answered by true. Conditions: at most 800000 Puts, a place of 64 bits. -/
import Derived.Test.YtlajjadpcaobiaaLPut
namespace Go.Proofs.Ytlajjadpcaobiaa
open Go.RowKit Go.ChangeShapes Go.WideShapes

theorem near3_any (n hi : Int) (w : World) : Calls Try.prog 27 #[.int .i64 n, .int .i64 0, .int .i64 hi] w fun e w' => e = .returned (.int .i64 (cl n hi)) ∧ Below w.heap.size w w' := (near_any n hi w).mono fun _ _ h => ⟨h.1, by rw [← h.2]; exact Below.refl _ _⟩
theorem nsame35 (x : Wd) (w : World) : (binOp BinOp.neq 35 (.agg x.cs.toArray) (.agg x.cs.toArray)).run Try.prog w = .ok (.bool false) w := by
  have := neq35 x x w
  rw [decide_eq_true rfl] at this
  exact this
theorem nsame0 (w : World) : (binOp BinOp.neq 35 (.agg #[.int .i64 0, .int .i64 0, .int .i64 0]) (.agg #[.int .i64 0, .int .i64 0, .int .i64 0])).run Try.prog w = .ok (.bool false) w := nsame35 noW w
theorem field0 (a b c : Value) (w : World) : (Instr.field 35 (.agg #[a, b, c]) 0).run Try.prog w = .ok a w := by kernel_rfl
/-- What is at hand while a memory is looked at. -/
structure Td (w : World) (p1 : Nat) (p : Pg) (LR LS : List Wd) (LM LC : List Int) (sr ss sm sc : Sl) (W : World) : Prop where
  box : Blk W p1 24 p.cs.toArray
  roots : SeesW W sr.A sr.n sr.cap LR
  slots : SeesW W ss.A ss.n ss.cap LS
  marks : SeesI W sm.A sm.n sm.cap LM
  counts : SeesI W sc.A sc.n sc.cap LC
  below : Below w.heap.size w W
theorem Td.on {w : World} {p1 : Nat} {p : Pg} {LR LS : List Wd} {LM LC : List Int} {sr ss sm sc : Sl} {W W' : World} (q : Td w p1 p LR LS LM LC sr ss sm sc W) (hb : Below W.heap.size W W') : Td w p1 p LR LS LM LC sr ss sm sc W' :=
  ⟨q.box.on hb, q.roots.on hb, q.slots.on hb, q.marks.on hb, q.counts.on hb, q.below.trans (hb.mono q.below.size)⟩
/-- What such lists hold. -/
structure Hold (p : Pg) (L : List Ch) (R V N E : Nat) (LR LS : List Wd) (LM LC : List Int) : Prop where
  r : cl p.r 4 = (R : Int)
  n : cl (p.n : Int) 4 = (N : Int)
  e : cl p.s 2 = (E : Int)
  v : (N : Int) * (E : Int) = (V : Int)
  rs : ∀ k : Nat, k < R → LR[k]? = some (atP L ⟨1, (k : Int), 0⟩)
  vs : ∀ k : Nat, k < V → LS[k]? = some (atP L ⟨5, (k : Int) / (E : Int), (k : Int) % (E : Int)⟩)
  ms : ∀ k : Nat, k < N → LM[k]? = some (atP L ⟨7, (k : Int), 0⟩).n
  cs : ∀ k : Nat, k < N → LC[k]? = some (atP L ⟨8, (k : Int), 0⟩).n
  few : R ≤ 100 ∧ V ≤ 100 ∧ N ≤ 100 ∧ E ≤ 2
theorem Hold.pos {p : Pg} {L : List Ch} {R V N E : Nat} {LR LS : List Wd} {LM LC : List Int} (h : Hold p L R V N E LR LS LM LC) {k : Nat} (hk : k < V) : (1 : Int) ≤ (E : Int) := by
  have hv := h.v
  rcases Nat.eq_zero_or_pos E with e | e
  · subst e
    simp at hv
    omega
  · omega
theorem hold_of (p : Pg) (L : List Ch) : ∃ R V N E, Hold p L R V N E (allW p L 1) (allW p L 5) (numW (allW p L 7)) (numW (allW p L 8)) ∧ (allW p L 1).length = R ∧ (allW p L 5).length = V ∧ (allW p L 7).length = N ∧ (allW p L 8).length = N := by
  have h1 := cl_of p.r 4 (by omega)
  have h2 := cl_of (p.n : Int) 4 (by omega)
  have h3 := cl_of p.s 2 (by omega)
  have l1 : (allW p L 1).length = (cl p.r 4).toNat := by rw [all_root]; simp
  have l5 : (allW p L 5).length = (cl (p.n : Int) 4).toNat * (cl p.s 2).toNat := by rw [all_slot]; simp
  have l7 : (allW p L 7).length = (cl (p.n : Int) 4).toNat := by rw [show (7 : Int) = ((7 : Nat) : Int) from rfl, all_one p L 7 (by omega)]; simp
  have l8 : (allW p L 8).length = (cl (p.n : Int) 4).toNat := by rw [show (8 : Int) = ((8 : Nat) : Int) from rfl, all_one p L 8 (by omega)]; simp
  have hv : (((cl (p.n : Int) 4).toNat : Nat) : Int) * (((cl p.s 2).toNat : Nat) : Int) = (((cl (p.n : Int) 4).toNat * (cl p.s 2).toNat : Nat) : Int) := (Int.natCast_mul _ _).symm
  refine ⟨(cl p.r 4).toNat, (cl (p.n : Int) 4).toNat * (cl p.s 2).toNat, (cl (p.n : Int) 4).toNat, (cl p.s 2).toNat, ⟨by omega, by omega, by omega, hv, fun k hk => ?_, fun k hk => ?_, fun k hk => ?_, fun k hk => ?_, by rw [← l1, ← l5, ← l7]; exact ⟨allW_len _ _ _, allW_len _ _ _, allW_len _ _ _, by omega⟩⟩, l1, l5, l7, l8⟩
  · rw [all_root, List.getElem?_map, List.getElem?_range hk]
    rfl
  · rw [all_slot, List.getElem?_map, List.getElem?_range hk]
    simp only [Option.map_some, Int.natCast_ediv, Int.natCast_emod]
  · unfold numW
    rw [show (7 : Int) = ((7 : Nat) : Int) from rfl, all_one p L 7 (by omega), List.getElem?_map, List.getElem?_map, List.getElem?_range hk]
    rfl
  · unfold numW
    rw [show (8 : Int) = ((8 : Nat) : Int) from rfl, all_one p L 8 (by omega), List.getElem?_map, List.getElem?_map, List.getElem?_range hk]
    rfl
set_option maxRecDepth 100000 in
set_option maxHeartbeats 16000000 in
theorem told_any {w : World} {m h b : Nat} {sp sq : Sl} {p : Pg} {L : List Ch} {n cap : Nat} {A : Option Addr} (q : Mem w m h b sp sq p L) (hp : p.Ok) (hS : SeesC w A n cap L) (hn : n ≤ 1000000) (x : Pl) (hx : x.Wide) : Calls Try.prog 11 #[.pointer (some ⟨m, 0, none⟩), .agg p.cs.toArray, .slice A n cap, .agg x.cs.toArray] w fun e w' => e = .returned (.bool true) ∧ Below w.heap.size w w' := by
  obtain ⟨p1, f1⟩ : ∃ p, w.heap.size = p := ⟨_, rfl⟩
  obtain ⟨W1, ea1⟩ : ∃ W, w.alloc (.cells p.cs.toArray 24) = W := ⟨_, rfl⟩
  have ka1 : Below w.heap.size w W1 := by rw [← ea1]; exact (Below.refl _ w).alloc (Nat.le_refl _) _
  have b1 : Blk W1 p1 24 p.cs.toArray := by rw [← ea1]; exact blk_new w _ 24 _ f1
  have kk : Below w.heap.size w W1 := ka1
  have hp1 : w.heap.size ≤ p1 := Nat.le_of_eq f1
  clear ka1
  obtain ⟨p2, f2⟩ : ∃ p, W1.heap.size = p := ⟨_, rfl⟩
  obtain ⟨W2, ea2⟩ : ∃ W, W1.alloc (.cells x.cs.toArray 27) = W := ⟨_, rfl⟩
  have ka2 : Below W1.heap.size W1 W2 := by rw [← ea2]; exact (Below.refl _ W1).alloc (Nat.le_refl _) _
  have b2 : Blk W2 p2 27 x.cs.toArray := by rw [← ea2]; exact blk_new W1 _ 27 _ f2
  have q1_2 : p1 < p2 := by rw [← f2]; exact b1.lt
  replace b1 := b1.on ka2
  have kk0 := kk
  replace kk := kk.trans (ka2.mono kk.size)
  have hp2 : w.heap.size ≤ p2 := by rw [← f2]; exact kk0.size
  clear ka2 kk0
  have c1 := get_any (q.on kk) x hx
  have lb2 := b2
  have n63 := Pg.n63 hp
  go_enter Try.func11, Try.ntmps11
  go_wp2_with (((with_reducible refine at_load 27 (.tmp 7) ?_); refine wpList_load_row rfl 27 (.tmp 7) rfl p2 rfl 27 x.cs.toArray (0, 0) _ lb2 Try.underlying27 rfl size27 ?_))
  refine (c1).mono ?_
  rintro e W3 ⟨rfl, k3⟩
  replace b1 := b1.on k3
  replace b2 := b2.on k3
  replace kk := kk.trans (k3.mono kk.size)
  clear k3
  clear lb2 f1
  obtain ⟨p3, f3⟩ : ∃ p, W3.heap.size = p := ⟨_, rfl⟩
  obtain ⟨W4, ea4⟩ : ∃ W, W3.alloc (.cells #[.int .i64 0, .int .i64 0, .int .i64 0] 35) = W := ⟨_, rfl⟩
  have ka4 : Below W3.heap.size W3 W4 := by rw [← ea4]; exact (Below.refl _ W3).alloc (Nat.le_refl _) _
  have b3 : Blk W4 p3 35 #[.int .i64 0, .int .i64 0, .int .i64 0] := by rw [← ea4]; exact blk_new W3 _ 35 _ f3
  have q1_3 : p1 < p3 := by rw [← f3]; exact b1.lt
  replace b1 := b1.on ka4
  have q2_3 : p2 < p3 := by rw [← f3]; exact b2.lt
  replace b2 := b2.on ka4
  have kk0 := kk
  replace kk := kk.trans (ka4.mono kk.size)
  have hp3 : w.heap.size ≤ p3 := by rw [← f3]; exact kk0.size
  clear ka4 kk0
  obtain ⟨W5, es5⟩ : ∃ W, W4.setRow p3 (getP p L x).cs.toArray = W := ⟨_, rfl⟩
  have bo3 := b3
  replace b1 := row_far b1 es5 (by omega)
  replace b2 := row_far b2 es5 (by omega)
  replace b3 : Blk W5 p3 35 (getP p L x).cs.toArray := row_named b3 es5
  replace kk := kk.trans (row_below es5 hp3 kk.size)
  go_wp2_with (((with_reducible refine at_store 35 (.tmp 9) (.tmp 24) ?_); refine wpList_store_row rfl 35 (.tmp 9) (.tmp 24) rfl p3 (getP p L x).cs.toArray rfl rfl 35 #[.int .i64 0, .int .i64 0, .int .i64 0] bo3 size35 rfl (Wd.onea _) ?_; rw [es5]))
  go_cut [10, 49] (fun s10 s49 wx => (∃ B, s10 = .bool B) ∧ s49 = .bool false ∧ Blk wx p1 24 p.cs.toArray ∧ Below w.heap.size w wx)
  case first =>
    cases hth : thereP p x with
    | false =>
      have eG : getP p L x = noW := getP_not hth
      have c2 := fun W => there_any p hp x W
      simp only [hth] at c2
      replace b3 : Blk W5 p3 35 noW.cs.toArray := by rw [← eG]; exact b3
      have hnq := nsame35 noW
      have hnq0 := nsame0
      clear hth eG
      obtain ⟨wd, ed⟩ : ∃ W, W5.drew = W := ⟨_, rfl⟩
      have hd : Below W5.heap.size W5 wd := by rw [← ed]; exact (Below.refl _ _).drew
      replace b1 := b1.on hd
      replace b2 := b2.on hd
      replace b3 := b3.on hd
      replace kk := kk.trans (hd.mono kk.size)
      clear hd
      have kS : Kept (fun g => False) wd wd := Kept.refl _ _
      refine wp_region_noPanic ?_
      refine wp_region_held_drew (S := (fun W => Kept (fun g => False) wd W)) (by kernel_rfl) (by rw [ed]; exact kS) (fun hHeld => ?_)
      rw [ed] at hHeld ⊢
      refine wpAnyH_take (i := 0) (oi := ⟨some 26, _, _, _, _, _⟩) (v := ?_) rfl (by kernel_rfl) (by kernel_rfl) (by kernel_rfl) (fun _ _ _ h => h) (Or.inl ⟨by rfl, ?_⟩) (by assumption) ?_
      rotate_left 1
      · (intro W hSw; go_simp <;> with_reducible rfl)
      try simp only [Act.put, List.setIfInBounds_toArray, List.set_cons_zero, List.set_cons_succ]
      refine wpAnyH_take (i := 1) (oi := ⟨some 27, _, _, _, _, _⟩) (v := .agg (List.toArray (p.cs))) rfl (by kernel_rfl) (by kernel_rfl) (by kernel_rfl) (fun _ _ _ h => h) (yieldsIf_load_mid (by rfl) 24 (.tmp 5) rfl p1 (0) rfl (p.cs) _ (fun W hW => range_part (b1.kept hW (fun h => h)) 0 p.cs rfl) Try.underlying24 rfl size24) (by assumption) ?_
      try simp only [Act.put, List.setIfInBounds_toArray, List.set_cons_zero, List.set_cons_succ]
      refine wpAnyH_take (i := 2) (oi := ⟨some 28, _, _, _, _, _⟩) (v := .agg (List.toArray (x.cs))) rfl (by kernel_rfl) (by kernel_rfl) (by kernel_rfl) (fun _ _ _ h => h) (yieldsIf_load_mid (by rfl) 27 (.tmp 7) rfl p2 (0) rfl (x.cs) _ (fun W hW => range_part (b2.kept hW (fun h => h)) 0 x.cs rfl) Try.underlying27 rfl size27) (by assumption) ?_
      try simp only [Act.put, List.setIfInBounds_toArray, List.set_cons_zero, List.set_cons_succ]
      refine wpAnyH_ready (rs := [3]) (by kernel_rfl) (by simp) ?_
      refine AllReadyH.cons (o := ⟨some 29, _, _, _, _, _⟩) rfl (fun K hK => ?_) AllReadyH.nil
      go_simp
      refine (c2 wd).mono ?_
      rintro e w1 ⟨rfl, hb1⟩
      have b1_1 := b1.on hb1
      have b2_1 := b2.on hb1
      have b3_1 := b3.on hb1
      have kk_1 := kk.trans (hb1.mono kk.size)
      have S1 : (fun W => Kept (fun g => False) wd W) w1 := Kept.next kS (kept_below (fun _ => False) hb1) (fun _ h => h.elim)
      refine hK.out _ _ S1 (fun h1 => ?_)
      clear hHeld hK K
      try simp only [Act.put, List.setIfInBounds_toArray, List.set_cons_zero, List.set_cons_succ]
      refine wpAnyH_take (i := 4) (oi := ⟨some 30, _, _, _, _, _⟩) (v := ?_) rfl (by kernel_rfl) (by kernel_rfl) (by kernel_rfl) (fun _ _ _ h => h) (Or.inl ⟨by rfl, ?_⟩) (by assumption) ?_
      rotate_left 1
      · (intro W hSw; go_simp <;> with_reducible rfl)
      try simp only [Act.put, List.setIfInBounds_toArray, List.set_cons_zero, List.set_cons_succ]
      refine wpAnyH_take (i := 5) (oi := ⟨some 31, _, _, _, _, _⟩) (v := ?_) rfl (by kernel_rfl) (by kernel_rfl) (by kernel_rfl) (fun _ _ _ h => h) (Or.inl ⟨by rfl, ?_⟩) (by assumption) ?_
      rotate_left 1
      · (intro W hSw; go_simp <;> with_reducible rfl)
      try simp only [Act.put, List.setIfInBounds_toArray, List.set_cons_zero, List.set_cons_succ]
      refine wpAnyH_take (i := 6) (oi := ⟨some 32, _, _, _, _, _⟩) (v := ?_) rfl (by kernel_rfl) (by kernel_rfl) (by kernel_rfl) (fun _ _ _ h => h) (Or.inl ⟨by rfl, ?_⟩) (by assumption) ?_
      rotate_left 1
      · (intro W hSw; go_simp <;> with_reducible rfl)
      try simp only [Act.put, List.setIfInBounds_toArray, List.set_cons_zero, List.set_cons_succ]
      refine wpAnyH_take (i := 7) (oi := ⟨some 33, _, _, _, _, _⟩) (v := ?_) rfl (by kernel_rfl) (by kernel_rfl) (by kernel_rfl) (fun _ _ _ h => h) (Or.inl ⟨by rfl, ?_⟩) (by assumption) ?_
      rotate_left 1
      · (intro W hSw; go_simp <;> with_reducible rfl)
      try simp only [Act.put, List.setIfInBounds_toArray, List.set_cons_zero, List.set_cons_succ]
      refine wpAnyH_take (i := 8) (oi := ⟨some 34, _, _, _, _, _⟩) (v := undef) rfl (by kernel_rfl) (by kernel_rfl) (by kernel_rfl) (fun _ _ _ h => h) (Or.inr ⟨by rfl, rfl⟩) (by assumption) ?_
      try simp only [Act.put, List.setIfInBounds_toArray, List.set_cons_zero, List.set_cons_succ]
      refine wpAnyH_take (i := 9) (oi := ⟨some 35, _, _, _, _, _⟩) (v := undef) rfl (by kernel_rfl) (by kernel_rfl) (by kernel_rfl) (fun _ _ _ h => h) (Or.inr ⟨by rfl, rfl⟩) (by assumption) ?_
      try simp only [Act.put, List.setIfInBounds_toArray, List.set_cons_zero, List.set_cons_succ]
      refine wpAnyH_take (i := 10) (oi := ⟨some 36, _, _, _, _, _⟩) (v := undef) rfl (by kernel_rfl) (by kernel_rfl) (by kernel_rfl) (fun _ _ _ h => h) (Or.inr ⟨by rfl, rfl⟩) (by assumption) ?_
      try simp only [Act.put, List.setIfInBounds_toArray, List.set_cons_zero, List.set_cons_succ]
      refine wpAnyH_take (i := 11) (oi := ⟨some 37, _, _, _, _, _⟩) (v := undef) rfl (by kernel_rfl) (by kernel_rfl) (by kernel_rfl) (fun _ _ _ h => h) (Or.inr ⟨by rfl, rfl⟩) (by assumption) ?_
      try simp only [Act.put, List.setIfInBounds_toArray, List.set_cons_zero, List.set_cons_succ]
      refine wpAnyH_take (i := 12) (oi := ⟨some 38, _, _, _, _, _⟩) (v := undef) rfl (by kernel_rfl) (by kernel_rfl) (by kernel_rfl) (fun _ _ _ h => h) (Or.inr ⟨by rfl, rfl⟩) (by assumption) ?_
      try simp only [Act.put, List.setIfInBounds_toArray, List.set_cons_zero, List.set_cons_succ]
      refine wpAnyH_take (i := 13) (oi := ⟨some 39, _, _, _, _, _⟩) (v := ?_) rfl (by kernel_rfl) (by kernel_rfl) (by kernel_rfl) (fun _ _ _ h => h) (Or.inl ⟨by rfl, ?_⟩) (by assumption) ?_
      rotate_left 1
      · (intro W hSw; go_simp <;> with_reducible rfl)
      try simp only [Act.put, List.setIfInBounds_toArray, List.set_cons_zero, List.set_cons_succ]
      refine wpAnyH_take (i := 14) (oi := ⟨some 40, _, _, _, _, _⟩) (v := ?_) rfl (by kernel_rfl) (by kernel_rfl) (by kernel_rfl) (fun _ _ _ h => h) (Or.inl ⟨by rfl, ?_⟩) (by assumption) ?_
      rotate_left 1
      · (intro W hSw; go_simp <;> with_reducible rfl)
      try simp only [Act.put, List.setIfInBounds_toArray, List.set_cons_zero, List.set_cons_succ]
      refine wpAnyH_take (i := 15) (oi := ⟨some 41, _, _, _, _, _⟩) (v := ?_) rfl (by kernel_rfl) (by kernel_rfl) (by kernel_rfl) (fun _ _ _ h => h) (Or.inl ⟨by rfl, ?_⟩) (by assumption) ?_
      rotate_left 1
      · (intro W hSw; go_simp <;> with_reducible rfl)
      try simp only [Act.put, List.setIfInBounds_toArray, List.set_cons_zero, List.set_cons_succ]
      refine wpAnyH_take (i := 16) (oi := ⟨some 42, _, _, _, _, _⟩) (v := ?_) rfl (by kernel_rfl) (by kernel_rfl) (by kernel_rfl) (fun _ _ _ h => h) (Or.inl ⟨by rfl, ?_⟩) (by assumption) ?_
      rotate_left 1
      · (intro W hSw; go_simp <;> with_reducible rfl)
      try simp only [Act.put, List.setIfInBounds_toArray, List.set_cons_zero, List.set_cons_succ]
      refine wpAnyH_take (i := 17) (oi := ⟨some 43, _, _, _, _, _⟩) (v := ?_) rfl (by kernel_rfl) (by kernel_rfl) (by kernel_rfl) (fun _ _ _ h => h) (Or.inl ⟨by rfl, ?_⟩) (by assumption) ?_
      rotate_left 1
      · (intro W hSw; go_simp <;> with_reducible rfl)
      try simp only [Act.put, List.setIfInBounds_toArray, List.set_cons_zero, List.set_cons_succ]
      refine wpAnyH_take (i := 18) (oi := ⟨some 44, _, _, _, _, _⟩) (v := ?_) rfl (by kernel_rfl) (by kernel_rfl) (by kernel_rfl) (fun _ _ _ h => h) (Or.inl ⟨by rfl, ?_⟩) (by assumption) ?_
      rotate_left 1
      · (intro W hSw; go_simp <;> with_reducible rfl)
      try simp only [Act.put, List.setIfInBounds_toArray, List.set_cons_zero, List.set_cons_succ]
      refine wpAnyH_take (i := 19) (oi := ⟨some 45, _, _, _, _, _⟩) (v := .agg (List.toArray ([.int .i64 0, .int .i64 0, .int .i64 0]))) rfl (by kernel_rfl) (by kernel_rfl) (by kernel_rfl) (fun _ _ _ h => h) (yieldsIf_load_mid (by rfl) 35 (.tmp 9) rfl p3 (0) rfl ([.int .i64 0, .int .i64 0, .int .i64 0]) _ (fun W hW => range_part (b3.kept hW (fun h => h)) 0 noW.cs rfl) Try.underlying35 rfl size35) (by assumption) ?_
      try simp only [Act.put, List.setIfInBounds_toArray, List.set_cons_zero, List.set_cons_succ]
      refine wpAnyH_take (i := 20) (oi := ⟨some 46, _, _, _, _, _⟩) (v := ?_) rfl (by kernel_rfl) (by kernel_rfl) (by kernel_rfl) (fun _ _ _ h => h) (Or.inl ⟨by rfl, ?_⟩) (by assumption) ?_
      rotate_left 1
      · (intro W hSw; go_simp <;> with_reducible rfl)
      try simp only [Act.put, List.setIfInBounds_toArray, List.set_cons_zero, List.set_cons_succ]
      refine wpAnyH_take (i := 21) (oi := ⟨some 47, _, _, _, _, _⟩) (v := ?_) rfl (by kernel_rfl) (by kernel_rfl) (by kernel_rfl) (fun _ _ _ h => h) (Or.inl ⟨by rfl, ?_⟩) (by assumption) ?_
      rotate_left 1
      · (intro W hSw; go_simp <;> with_reducible rfl)
      try simp only [Act.put, List.setIfInBounds_toArray, List.set_cons_zero, List.set_cons_succ]
      refine wpAnyH_take (i := 22) (oi := ⟨some 48, _, _, _, _, _⟩) (v := ?_) rfl (by kernel_rfl) (by kernel_rfl) (by kernel_rfl) (fun _ _ _ h => h) (Or.inl ⟨by rfl, ?_⟩) (by assumption) ?_
      rotate_left 1
      · (intro W hSw; go_simp <;> with_reducible rfl)
      try simp only [Act.put, List.setIfInBounds_toArray, List.set_cons_zero, List.set_cons_succ]
      refine wpAnyH_take (i := 23) (oi := ⟨some 49, _, _, _, _, _⟩) (v := ?_) rfl (by kernel_rfl) (by kernel_rfl) (by kernel_rfl) (fun _ _ _ h => h) (Or.inl ⟨by rfl, ?_⟩) (by assumption) ?_
      rotate_left 1
      · (intro W hSw; go_simp <;> with_reducible rfl)
      try simp only [Act.put, List.setIfInBounds_toArray, List.set_cons_zero, List.set_cons_succ]
      refine wpAnyH_done (by kernel_rfl) ?_ _
      refine NoPanic.normal ?_
      go_wp2_with fail
      go_meet
      exact ⟨⟨_, rfl⟩, rfl, b1_1, kk_1⟩
    | true =>
      have eG : getP p L x = atP L x := getP_there hth
      have c2 := fun W => there_any p hp x W
      simp only [hth] at c2
      replace b3 : Blk W5 p3 35 (atP L x).cs.toArray := by rw [← eG]; exact b3
      have hnq := nsame35 (atP L x)
      have hnq0 := nsame0
      clear hth eG
      obtain ⟨wd, ed⟩ : ∃ W, W5.drew = W := ⟨_, rfl⟩
      have hd : Below W5.heap.size W5 wd := by rw [← ed]; exact (Below.refl _ _).drew
      replace b1 := b1.on hd
      replace b2 := b2.on hd
      replace b3 := b3.on hd
      replace kk := kk.trans (hd.mono kk.size)
      clear hd
      have kS : Kept (fun g => False) wd wd := Kept.refl _ _
      refine wp_region_noPanic ?_
      refine wp_region_held_drew (S := (fun W => Kept (fun g => False) wd W)) (by kernel_rfl) (by rw [ed]; exact kS) (fun hHeld => ?_)
      rw [ed] at hHeld ⊢
      refine wpAnyH_take (i := 0) (oi := ⟨some 26, _, _, _, _, _⟩) (v := ?_) rfl (by kernel_rfl) (by kernel_rfl) (by kernel_rfl) (fun _ _ _ h => h) (Or.inl ⟨by rfl, ?_⟩) (by assumption) ?_
      rotate_left 1
      · (intro W hSw; go_simp <;> with_reducible rfl)
      try simp only [Act.put, List.setIfInBounds_toArray, List.set_cons_zero, List.set_cons_succ]
      refine wpAnyH_take (i := 1) (oi := ⟨some 27, _, _, _, _, _⟩) (v := .agg (List.toArray (p.cs))) rfl (by kernel_rfl) (by kernel_rfl) (by kernel_rfl) (fun _ _ _ h => h) (yieldsIf_load_mid (by rfl) 24 (.tmp 5) rfl p1 (0) rfl (p.cs) _ (fun W hW => range_part (b1.kept hW (fun h => h)) 0 p.cs rfl) Try.underlying24 rfl size24) (by assumption) ?_
      try simp only [Act.put, List.setIfInBounds_toArray, List.set_cons_zero, List.set_cons_succ]
      refine wpAnyH_take (i := 2) (oi := ⟨some 28, _, _, _, _, _⟩) (v := .agg (List.toArray (x.cs))) rfl (by kernel_rfl) (by kernel_rfl) (by kernel_rfl) (fun _ _ _ h => h) (yieldsIf_load_mid (by rfl) 27 (.tmp 7) rfl p2 (0) rfl (x.cs) _ (fun W hW => range_part (b2.kept hW (fun h => h)) 0 x.cs rfl) Try.underlying27 rfl size27) (by assumption) ?_
      try simp only [Act.put, List.setIfInBounds_toArray, List.set_cons_zero, List.set_cons_succ]
      refine wpAnyH_ready (rs := [3]) (by kernel_rfl) (by simp) ?_
      refine AllReadyH.cons (o := ⟨some 29, _, _, _, _, _⟩) rfl (fun K hK => ?_) AllReadyH.nil
      go_simp
      refine (c2 wd).mono ?_
      rintro e w1 ⟨rfl, hb1⟩
      have b1_1 := b1.on hb1
      have b2_1 := b2.on hb1
      have b3_1 := b3.on hb1
      have kk_1 := kk.trans (hb1.mono kk.size)
      have S1 : (fun W => Kept (fun g => False) wd W) w1 := Kept.next kS (kept_below (fun _ => False) hb1) (fun _ h => h.elim)
      refine hK.out _ _ S1 (fun h1 => ?_)
      clear hHeld hK K
      try simp only [Act.put, List.setIfInBounds_toArray, List.set_cons_zero, List.set_cons_succ]
      refine wpAnyH_take (i := 4) (oi := ⟨some 30, _, _, _, _, _⟩) (v := ?_) rfl (by kernel_rfl) (by kernel_rfl) (by kernel_rfl) (fun _ _ _ h => h) (Or.inl ⟨by rfl, ?_⟩) (by assumption) ?_
      rotate_left 1
      · (intro W hSw; go_simp <;> with_reducible rfl)
      try simp only [Act.put, List.setIfInBounds_toArray, List.set_cons_zero, List.set_cons_succ]
      refine wpAnyH_take (i := 5) (oi := ⟨some 31, _, _, _, _, _⟩) (v := ?_) rfl (by kernel_rfl) (by kernel_rfl) (by kernel_rfl) (fun _ _ _ h => h) (Or.inl ⟨by rfl, ?_⟩) (by assumption) ?_
      rotate_left 1
      · (intro W hSw; go_simp <;> with_reducible rfl)
      try simp only [Act.put, List.setIfInBounds_toArray, List.set_cons_zero, List.set_cons_succ]
      refine wpAnyH_take (i := 6) (oi := ⟨some 32, _, _, _, _, _⟩) (v := ?_) rfl (by kernel_rfl) (by kernel_rfl) (by kernel_rfl) (fun _ _ _ h => h) (Or.inl ⟨by rfl, ?_⟩) (by assumption) ?_
      rotate_left 1
      · (intro W hSw; go_simp <;> with_reducible rfl)
      try simp only [Act.put, List.setIfInBounds_toArray, List.set_cons_zero, List.set_cons_succ]
      refine wpAnyH_take (i := 7) (oi := ⟨some 33, _, _, _, _, _⟩) (v := ?_) rfl (by kernel_rfl) (by kernel_rfl) (by kernel_rfl) (fun _ _ _ h => h) (Or.inl ⟨by rfl, ?_⟩) (by assumption) ?_
      rotate_left 1
      · (intro W hSw; go_simp <;> with_reducible rfl)
      try simp only [Act.put, List.setIfInBounds_toArray, List.set_cons_zero, List.set_cons_succ]
      refine wpAnyH_take (i := 8) (oi := ⟨some 34, _, _, _, _, _⟩) (v := .agg (List.toArray ((atP L x).cs))) rfl (by kernel_rfl) (by kernel_rfl) (by kernel_rfl) (fun _ _ _ h => h) (yieldsIf_load_mid (by rfl) 35 (.tmp 9) rfl p3 (0) rfl ((atP L x).cs) _ (fun W hW => range_part (b3.kept hW (fun h => h)) 0 (atP L x).cs rfl) Try.underlying35 rfl size35) (by assumption) ?_
      try simp only [Act.put, List.setIfInBounds_toArray, List.set_cons_zero, List.set_cons_succ]
      refine wpAnyH_take (i := 9) (oi := ⟨some 35, _, _, _, _, _⟩) (v := ?_) rfl (by kernel_rfl) (by kernel_rfl) (by kernel_rfl) (fun _ _ _ h => h) (Or.inl ⟨by rfl, ?_⟩) (by assumption) ?_
      rotate_left 1
      · (intro W hSw; go_simp <;> with_reducible rfl)
      try simp only [Act.put, List.setIfInBounds_toArray, List.set_cons_zero, List.set_cons_succ]
      refine wpAnyH_take (i := 10) (oi := ⟨some 36, _, _, _, _, _⟩) (v := .agg (List.toArray (x.cs))) rfl (by kernel_rfl) (by kernel_rfl) (by kernel_rfl) (fun _ _ _ h => h) (yieldsIf_load_mid (by rfl) 27 (.tmp 7) rfl p2 (0) rfl (x.cs) _ (fun W hW => range_part (b2.kept hW (fun h => h)) 0 x.cs rfl) Try.underlying27 rfl size27) (by assumption) ?_
      try simp only [Act.put, List.setIfInBounds_toArray, List.set_cons_zero, List.set_cons_succ]
      refine wpAnyH_ready (rs := [11]) (by kernel_rfl) (by simp) ?_
      refine AllReadyH.cons (o := ⟨some 37, _, _, _, _, _⟩) rfl (fun K hK => ?_) AllReadyH.nil
      go_simp
      refine (at_any (hS.on kk_1) x hn).mono ?_
      rintro e w2 ⟨rfl, hb2⟩
      have b1_2 := b1_1.on hb2
      have b2_2 := b2_1.on hb2
      have b3_2 := b3_1.on hb2
      have kk_2 := kk_1.trans (hb2.mono kk_1.size)
      have S2 : (fun W => Kept (fun g => False) wd W) w2 := Kept.next S1 (kept_below (fun _ => False) hb2) (fun _ h => h.elim)
      refine hK.out _ _ S2 (fun h2 => ?_)
      clear h1 hK K
      try simp only [Act.put, List.setIfInBounds_toArray, List.set_cons_zero, List.set_cons_succ]
      refine wpAnyH_take (i := 12) (oi := ⟨some 38, _, _, _, _, _⟩) (v := ?_) rfl (by kernel_rfl) (by kernel_rfl) (by kernel_rfl) (fun _ _ _ h => h) (Or.inl ⟨by rfl, ?_⟩) (by assumption) ?_
      rotate_left 1
      · (intro W hSw; go_simp <;> with_reducible rfl)
      try simp only [Act.put, List.setIfInBounds_toArray, List.set_cons_zero, List.set_cons_succ]
      refine wpAnyH_take (i := 13) (oi := ⟨some 39, _, _, _, _, _⟩) (v := ?_) rfl (by kernel_rfl) (by kernel_rfl) (by kernel_rfl) (fun _ _ _ h => h) (Or.inl ⟨by rfl, ?_⟩) (by assumption) ?_
      rotate_left 1
      · (intro W hSw; go_simp <;> with_reducible rfl)
      try simp only [Act.put, List.setIfInBounds_toArray, List.set_cons_zero, List.set_cons_succ]
      refine wpAnyH_take (i := 14) (oi := ⟨some 40, _, _, _, _, _⟩) (v := ?_) rfl (by kernel_rfl) (by kernel_rfl) (by kernel_rfl) (fun _ _ _ h => h) (Or.inl ⟨by rfl, ?_⟩) (by assumption) ?_
      rotate_left 1
      · (intro W hSw; go_simp <;> with_reducible rfl)
      try simp only [Act.put, List.setIfInBounds_toArray, List.set_cons_zero, List.set_cons_succ]
      refine wpAnyH_take (i := 15) (oi := ⟨some 41, _, _, _, _, _⟩) (v := ?_) rfl (by kernel_rfl) (by kernel_rfl) (by kernel_rfl) (fun _ _ _ h => h) (Or.inl ⟨by rfl, ?_⟩) (by assumption) ?_
      rotate_left 1
      · (intro W hSw; go_simp <;> with_reducible rfl)
      try simp only [Act.put, List.setIfInBounds_toArray, List.set_cons_zero, List.set_cons_succ]
      refine wpAnyH_take (i := 16) (oi := ⟨some 42, _, _, _, _, _⟩) (v := ?_) rfl (by kernel_rfl) (by kernel_rfl) (by kernel_rfl) (fun _ _ _ h => h) (Or.inl ⟨by rfl, ?_⟩) (by assumption) ?_
      rotate_left 1
      · (intro W hSw; go_simp <;> with_reducible rfl)
      try simp only [Act.put, List.setIfInBounds_toArray, List.set_cons_zero, List.set_cons_succ]
      refine wpAnyH_take (i := 17) (oi := ⟨some 43, _, _, _, _, _⟩) (v := ?_) rfl (by kernel_rfl) (by kernel_rfl) (by kernel_rfl) (fun _ _ _ h => h) (Or.inl ⟨by rfl, ?_⟩) (by assumption) ?_
      rotate_left 1
      · (intro W hSw; go_simp <;> with_reducible rfl)
      try simp only [Act.put, List.setIfInBounds_toArray, List.set_cons_zero, List.set_cons_succ]
      refine wpAnyH_take (i := 18) (oi := ⟨some 44, _, _, _, _, _⟩) (v := ?_) rfl (by kernel_rfl) (by kernel_rfl) (by kernel_rfl) (fun _ _ _ h => h) (Or.inl ⟨by rfl, ?_⟩) (by assumption) ?_
      rotate_left 1
      · (intro W hSw; go_simp <;> with_reducible rfl)
      try simp only [Act.put, List.setIfInBounds_toArray, List.set_cons_zero, List.set_cons_succ]
      refine wpAnyH_take (i := 19) (oi := ⟨some 45, _, _, _, _, _⟩) (v := undef) rfl (by kernel_rfl) (by kernel_rfl) (by kernel_rfl) (fun _ _ _ h => h) (Or.inr ⟨by rfl, rfl⟩) (by assumption) ?_
      try simp only [Act.put, List.setIfInBounds_toArray, List.set_cons_zero, List.set_cons_succ]
      refine wpAnyH_take (i := 20) (oi := ⟨some 46, _, _, _, _, _⟩) (v := undef) rfl (by kernel_rfl) (by kernel_rfl) (by kernel_rfl) (fun _ _ _ h => h) (Or.inr ⟨by rfl, rfl⟩) (by assumption) ?_
      try simp only [Act.put, List.setIfInBounds_toArray, List.set_cons_zero, List.set_cons_succ]
      refine wpAnyH_take (i := 21) (oi := ⟨some 47, _, _, _, _, _⟩) (v := undef) rfl (by kernel_rfl) (by kernel_rfl) (by kernel_rfl) (fun _ _ _ h => h) (Or.inr ⟨by rfl, rfl⟩) (by assumption) ?_
      try simp only [Act.put, List.setIfInBounds_toArray, List.set_cons_zero, List.set_cons_succ]
      refine wpAnyH_take (i := 22) (oi := ⟨some 48, _, _, _, _, _⟩) (v := ?_) rfl (by kernel_rfl) (by kernel_rfl) (by kernel_rfl) (fun _ _ _ h => h) (Or.inl ⟨by rfl, ?_⟩) (by assumption) ?_
      rotate_left 1
      · (intro W hSw; go_simp <;> with_reducible rfl)
      try simp only [Act.put, List.setIfInBounds_toArray, List.set_cons_zero, List.set_cons_succ]
      refine wpAnyH_take (i := 23) (oi := ⟨some 49, _, _, _, _, _⟩) (v := ?_) rfl (by kernel_rfl) (by kernel_rfl) (by kernel_rfl) (fun _ _ _ h => h) (Or.inl ⟨by rfl, ?_⟩) (by assumption) ?_
      rotate_left 1
      · (intro W hSw; go_simp <;> with_reducible rfl)
      try simp only [Act.put, List.setIfInBounds_toArray, List.set_cons_zero, List.set_cons_succ]
      refine wpAnyH_done (by kernel_rfl) ?_ _
      refine NoPanic.normal ?_
      go_wp2_with fail
      go_meet
      exact ⟨⟨_, rfl⟩, rfl, b1_2, kk_2⟩
  case rest =>
    clear b1 b2 b3 kk
    obtain ⟨⟨B10, rfl⟩, rfl, b1, kk⟩ := hcut
    obtain ⟨R, V, N, E, hH, eR, eV, eN, eN2⟩ := hold_of p L
    have cR := fun (W : World) (hb : Below w.heap.size w W) => roots_any (q.on hb)
    have cV := fun (W : World) (hb : Below w.heap.size w W) => slots_any (q.on hb)
    have cM := fun (W : World) (hb : Below w.heap.size w W) => marks_any (q.on hb)
    have cC := fun (W : World) (hb : Below w.heap.size w W) => counts_any (q.on hb)
    simp only [eR] at cR
    simp only [eV] at cV
    simp only [eN] at cM
    simp only [eN2] at cC
    have aW : ∀ (x : Pl) (U : Wd), atP L x = U → ∀ W, Below w.heap.size w W → Calls Try.prog 26 #[.slice A n cap, .agg x.cs.toArray] W fun e w' => e = .returned (.agg U.cs.toArray) ∧ Below W.heap.size W w' := fun x U e W hb => by rw [← e]; exact at_any (hS.on hb) x hn
    have ep := epoch_any (q := q) |> fun _ => fun (W : World) (hb : Below w.heap.size w W) => epoch_any (q.on hb)
    have em := fun (W : World) (hb : Below w.heap.size w W) => mark_any (q.on hb)
    have hLn : L.length = n := hS.len
    rw [hLn] at em
    clear eR eV eN eN2
    generalize allW p L 1 = LR at *
    generalize allW p L 5 = LS at *
    generalize numW (allW p L 7) = LM at *
    generalize numW (allW p L 8) = LC at *
    have nN := fun W => near3_any (p.n : Int) 4 W
    have nE := fun W => near3_any p.s 2 W
    have nR := fun W => near3_any p.r 4 W
    rw [hH.n] at nN
    rw [hH.e] at nE
    rw [hH.r] at nR
    go_wp2_with fail
    refine (cR _ kk).mono ?_
    rintro e W6 ⟨Ar, cr, rfl, orr, k6⟩
    replace b1 := b1.on k6
    replace kk := kk.trans (k6.mono kk.size)
    have sr := own_seesW orr
    clear k6
    go_wp2_with fail
    refine (cV _ kk).mono ?_
    rintro e W7 ⟨As, cs, rfl, os, k7⟩
    replace b1 := b1.on k7
    replace kk := kk.trans (k7.mono kk.size)
    replace sr := sr.on k7
    have ss := own_seesW os
    clear k7
    go_wp2_with fail
    refine (cM _ kk).mono ?_
    rintro e W8 ⟨Am, cm, rfl, om, k8⟩
    replace b1 := b1.on k8
    replace kk := kk.trans (k8.mono kk.size)
    replace sr := sr.on k8
    replace ss := ss.on k8
    have sm := own_seesI om
    clear k8
    go_wp2_with fail
    refine (cC _ kk).mono ?_
    rintro e W9 ⟨Ac, cc, rfl, oc, k9⟩
    replace b1 := b1.on k9
    replace kk := kk.trans (k9.mono kk.size)
    replace sr := sr.on k9
    replace ss := ss.on k9
    replace sm := sm.on k9
    have sc := own_seesI oc
    clear k9
    have td : Td w p1 p LR LS LM LC ⟨Ar, R, cr⟩ ⟨As, V, cs⟩ ⟨Am, N, cm⟩ ⟨Ac, N, cc⟩ W9 := ⟨b1, sr, ss, sm, sc, kk⟩
    clear b1 sr ss sm sc kk orr os om oc cR cV cM cC
    go_wp2_with fail
    obtain ⟨wd, ed⟩ : ∃ W, W9.drew = W := ⟨_, rfl⟩
    have hd : Below W9.heap.size W9 wd := by rw [← ed]; exact (Below.refl _ _).drew
    replace td := td.on hd
    clear hd
    have kS : Kept (fun g => False) wd wd := Kept.refl _ _
    have tS : ∀ W, Kept (fun g => False) wd W → W.cell? ⟨p1, 3, none⟩ = some (.slice p.A p.n p.cap) ∧ W.cell? ⟨p1, 2, none⟩ = some (.int .i64 p.s) := fun W hW => ⟨(td.box.kept hW (fun h => h)).cell 3, (td.box.kept hW (fun h => h)).cell 2⟩
    refine wp_region_noPanic ?_
    refine wp_region_held_drew (S := (fun W => Kept (fun g => False) wd W)) (by kernel_rfl) (by rw [ed]; exact kS) (fun hHeld => ?_)
    rw [ed] at hHeld ⊢
    refine wpAnyH_take (i := 0) (oi := ⟨some 58, _, _, _, _, _⟩) (v := ?_) rfl (by kernel_rfl) (by kernel_rfl) (by kernel_rfl) (fun _ _ _ h => h) (Or.inl ⟨by rfl, ?_⟩) (by assumption) ?_
    rotate_left 1
    · (intro W hSw; go_simp <;> with_reducible rfl)
    try simp only [Act.put, List.setIfInBounds_toArray, List.set_cons_zero, List.set_cons_succ]
    refine wpAnyH_take (i := 1) (oi := ⟨some 59, _, _, _, _, _⟩) (v := ?_) rfl (by kernel_rfl) (by kernel_rfl) (by kernel_rfl) (fun _ _ _ h => h) (Or.inl ⟨by rfl, ?_⟩) (by assumption) ?_
    rotate_left 1
    · (intro W hSw; obtain ⟨q0, q1⟩ := tS W hSw; go_simp <;> with_reducible rfl)
    try simp only [Act.put, List.setIfInBounds_toArray, List.set_cons_zero, List.set_cons_succ]
    refine wpAnyH_take (i := 2) (oi := ⟨some 60, _, _, _, _, _⟩) (v := ?_) rfl (by kernel_rfl) (by kernel_rfl) (by kernel_rfl) (fun _ _ _ h => h) (Or.inl ⟨by rfl, ?_⟩) (by assumption) ?_
    rotate_left 1
    · (intro W hSw; go_simp <;> with_reducible rfl)
    try simp only [Act.put, List.setIfInBounds_toArray, List.set_cons_zero, List.set_cons_succ]
    refine wpAnyH_take (i := 4) (oi := ⟨some 62, _, _, _, _, _⟩) (v := ?_) rfl (by kernel_rfl) (by kernel_rfl) (by kernel_rfl) (fun _ _ _ h => h) (Or.inl ⟨by rfl, ?_⟩) (by assumption) ?_
    rotate_left 1
    · (intro W hSw; go_simp <;> with_reducible rfl)
    try simp only [Act.put, List.setIfInBounds_toArray, List.set_cons_zero, List.set_cons_succ]
    refine wpAnyH_take (i := 5) (oi := ⟨some 63, _, _, _, _, _⟩) (v := ?_) rfl (by kernel_rfl) (by kernel_rfl) (by kernel_rfl) (fun _ _ _ h => h) (Or.inl ⟨by rfl, ?_⟩) (by assumption) ?_
    rotate_left 1
    · (intro W hSw; obtain ⟨q0, q1⟩ := tS W hSw; go_simp <;> with_reducible rfl)
    try simp only [Act.put, List.setIfInBounds_toArray, List.set_cons_zero, List.set_cons_succ]
    refine wpAnyH_ready (rs := [3]) (by kernel_rfl) (by simp) ?_
    refine AllReadyH.cons (o := ⟨some 61, _, _, _, _, _⟩) rfl (fun K hK => ?_) AllReadyH.nil
    go_simp
    refine (nN wd).mono ?_
    rintro e w1 ⟨rfl, hb1⟩
    have td_1 := td.on hb1
    have S1 : (fun W => Kept (fun g => False) wd W) w1 := Kept.next kS (kept_below (fun _ => False) hb1) (fun _ h => h.elim)
    refine hK.out _ _ S1 (fun h1 => ?_)
    clear hHeld hK K
    try simp only [Act.put, List.setIfInBounds_toArray, List.set_cons_zero, List.set_cons_succ]
    refine wpAnyH_ready (rs := [6]) (by kernel_rfl) (by simp) ?_
    refine AllReadyH.cons (o := ⟨some 64, _, _, _, _, _⟩) rfl (fun K hK => ?_) AllReadyH.nil
    go_simp
    refine (nE w1).mono ?_
    rintro e w2 ⟨rfl, hb2⟩
    have td_2 := td_1.on hb2
    have S2 : (fun W => Kept (fun g => False) wd W) w2 := Kept.next S1 (kept_below (fun _ => False) hb2) (fun _ h => h.elim)
    refine hK.out _ _ S2 (fun h2 => ?_)
    clear h1 hK K
    try simp only [Act.put, List.setIfInBounds_toArray, List.set_cons_zero, List.set_cons_succ]
    refine wpAnyH_take (i := 7) (oi := ⟨some 15, _, _, _, _, _⟩) (v := ?_) rfl (by kernel_rfl) (by kernel_rfl) (by kernel_rfl) (fun _ _ _ h => h) (Or.inl ⟨by rfl, ?_⟩) (by assumption) ?_
    rotate_left 1
    · (intro W hSw; go_simp <;> with_reducible rfl)
    try simp only [Act.put, List.setIfInBounds_toArray, List.set_cons_zero, List.set_cons_succ]
    refine wpAnyH_take (i := 8) (oi := ⟨some 16, _, _, _, _, _⟩) (v := ?_) rfl (by kernel_rfl) (by kernel_rfl) (by kernel_rfl) (fun _ _ _ h => h) (Or.inl ⟨by rfl, ?_⟩) (by assumption) ?_
    rotate_left 1
    · (intro W hSw; go_simp <;> with_reducible rfl)
    try simp only [Act.put, List.setIfInBounds_toArray, List.set_cons_zero, List.set_cons_succ]
    refine wpAnyH_done (by kernel_rfl) ?_ _
    refine NoPanic.normal ?_
    replace td := td_2
    have y0 : w2.cell? ⟨p1, 0, none⟩ = some (.int .i64 p.r) := td.box.cell 0
    clear h2 tS kS
    clear td_2
    have hv := hH.v
    have hfew := hH.few
    go_wp2_with fail
    refine (nR _).mono ?_
    rintro e wA ⟨rfl, kA⟩
    replace td := td.on kA
    clear kA y0
    go_wp2_with fail
    go_loopw [17] (fun i wr => ∃ k : Nat, k ≤ R ∧ i = .int .i64 (k : Int) ∧ Td w p1 p LR LS LM LC ⟨Ar, R, cr⟩ ⟨As, V, cs⟩ ⟨Am, N, cm⟩ ⟨Ac, N, cc⟩ wr) (fun i _ => R - (intOf i).toNat)
    case atStart => exact ⟨0, Nat.zero_le _, rfl, td⟩
    case round =>
      clear td
      obtain ⟨k, hk, rfl, td⟩ := hrel
      by_cases hlt : k < R
      · have hkI : (k : Int) < (R : Int) := by omega
        have hk0 : (0 : Int) ≤ (k : Int) := by omega
        have hx := hH.rs k hlt
        obtain ⟨U, eU⟩ : ∃ U, atP L ⟨1, (k : Int), 0⟩ = U := ⟨_, rfl⟩
        rw [eU] at hx
        have cU := aW ⟨1, (k : Int), 0⟩ U eU
        have hnq := nsame35 U
        obtain ⟨g, o, eA, hr⟩ := td.roots.at_ hx
        replace eA : Ar = some ⟨g, o, none⟩ := eA
        clear hx eU
        subst eA
        go_wp2_with fail
        have hr2 : wr.drew.rangeAt g (o + k * 3) U.cs := hr
        clear hr
        obtain ⟨wd, ed⟩ : ∃ W, wr.drew = W := ⟨_, rfl⟩
        have hd : Below wr.heap.size wr wd := by rw [← ed]; exact (Below.refl _ _).drew
        rw [ed] at hr2
        replace td := td.on hd
        clear hd
        have kS : Kept (fun g => False) wd wd := Kept.refl _ _
        refine wp_region_noPanic ?_
        refine wp_region_held_drew (S := (fun W => Kept (fun g => False) wd W)) (by kernel_rfl) (by rw [ed]; exact kS) (fun hHeld => ?_)
        rw [ed] at hHeld ⊢
        refine wpAnyH_take (i := 0) (oi := ⟨some 97, _, _, _, _, _⟩) (v := ?_) rfl (by kernel_rfl) (by kernel_rfl) (by kernel_rfl) (fun _ _ _ h => h) (Or.inl ⟨by rfl, ?_⟩) (by assumption) ?_
        rotate_left 1
        · (intro W hSw; go_simp <;> with_reducible rfl)
        try simp only [Act.put, List.setIfInBounds_toArray, List.set_cons_zero, List.set_cons_succ]
        refine wpAnyH_take (i := 1) (oi := ⟨some 98, _, _, _, _, _⟩) (v := ?_) rfl (by kernel_rfl) (by kernel_rfl) (by kernel_rfl) (fun _ _ _ h => h) (Or.inl ⟨by rfl, ?_⟩) (by assumption) ?_
        rotate_left 1
        · (intro W hSw; go_simp <;> with_reducible rfl)
        try simp only [Act.put, List.setIfInBounds_toArray, List.set_cons_zero, List.set_cons_succ]
        refine wpAnyH_take (i := 2) (oi := ⟨some 99, _, _, _, _, _⟩) (v := ?_) rfl (by kernel_rfl) (by kernel_rfl) (by kernel_rfl) (fun _ _ _ h => h) (Or.inl ⟨by rfl, ?_⟩) (by assumption) ?_
        rotate_left 1
        · (intro W hSw; go_simp <;> with_reducible rfl)
        try simp only [Act.put, List.setIfInBounds_toArray, List.set_cons_zero, List.set_cons_succ]
        refine wpAnyH_take (i := 3) (oi := ⟨some 100, _, _, _, _, _⟩) (v := .agg (List.toArray (U.cs))) rfl (by kernel_rfl) (by kernel_rfl) (by kernel_rfl) (fun _ _ _ h => h) (yieldsIf_load_mid (by rfl) 35 (.tmp 99) rfl g (o + k * 3) rfl (U.cs) _ (fun W hW => range_kept hr2 hW) Try.underlying35 rfl size35) (by assumption) ?_
        try simp only [Act.put, List.setIfInBounds_toArray, List.set_cons_zero, List.set_cons_succ]
        refine wpAnyH_take (i := 4) (oi := ⟨some 101, _, _, _, _, _⟩) (v := ?_) rfl (by kernel_rfl) (by kernel_rfl) (by kernel_rfl) (fun _ _ _ h => h) (Or.inl ⟨by rfl, ?_⟩) (by assumption) ?_
        rotate_left 1
        · (intro W hSw; go_simp <;> with_reducible rfl)
        try simp only [Act.put, List.setIfInBounds_toArray, List.set_cons_zero, List.set_cons_succ]
        refine wpAnyH_take (i := 5) (oi := ⟨some 102, _, _, _, _, _⟩) (v := ?_) rfl (by kernel_rfl) (by kernel_rfl) (by kernel_rfl) (fun _ _ _ h => h) (Or.inl ⟨by rfl, ?_⟩) (by assumption) ?_
        rotate_left 1
        · (intro W hSw; go_simp <;> with_reducible rfl)
        try simp only [Act.put, List.setIfInBounds_toArray, List.set_cons_zero, List.set_cons_succ]
        refine wpAnyH_take (i := 6) (oi := ⟨some 103, _, _, _, _, _⟩) (v := ?_) rfl (by kernel_rfl) (by kernel_rfl) (by kernel_rfl) (fun _ _ _ h => h) (Or.inl ⟨by rfl, ?_⟩) (by assumption) ?_
        rotate_left 1
        · (intro W hSw; go_simp <;> with_reducible rfl)
        try simp only [Act.put, List.setIfInBounds_toArray, List.set_cons_zero, List.set_cons_succ]
        refine wpAnyH_ready (rs := [7]) (by kernel_rfl) (by simp) ?_
        refine AllReadyH.cons (o := ⟨some 104, _, _, _, _, _⟩) rfl (fun K hK => ?_) AllReadyH.nil
        go_simp
        refine (cU wd td.below).mono ?_
        rintro e w1 ⟨rfl, hb1⟩
        have td_1 := td.on hb1
        have S1 : (fun W => Kept (fun g => False) wd W) w1 := Kept.next kS (kept_below (fun _ => False) hb1) (fun _ h => h.elim)
        refine hK.out _ _ S1 (fun h1 => ?_)
        clear hHeld hK K
        try simp only [Act.put, List.setIfInBounds_toArray, List.set_cons_zero, List.set_cons_succ]
        refine wpAnyH_take (i := 8) (oi := ⟨some 105, _, _, _, _, _⟩) (v := ?_) rfl (by kernel_rfl) (by kernel_rfl) (by kernel_rfl) (fun _ _ _ h => h) (Or.inl ⟨by rfl, ?_⟩) (by assumption) ?_
        rotate_left 1
        · (intro W hSw; go_simp <;> with_reducible rfl)
        try simp only [Act.put, List.setIfInBounds_toArray, List.set_cons_zero, List.set_cons_succ]
        refine wpAnyH_done (by kernel_rfl) ?_ _
        refine NoPanic.normal ?_
        replace td := td_1
        clear h1 kS
        go_wp2
        go_roundw
        case rel => exact ⟨k + 1, by omega, by go_num, td⟩
        case measure => simp [intOf]; omega
      · obtain rfl : R = k := by omega
        clear hlt hk
        go_wp2_with fail
        go_loopw [18] (fun i wr => ∃ k : Nat, k ≤ V ∧ i = .int .i64 (k : Int) ∧ Td w p1 p LR LS LM LC ⟨Ar, R, cr⟩ ⟨As, V, cs⟩ ⟨Am, N, cm⟩ ⟨Ac, N, cc⟩ wr) (fun i _ => V - (intOf i).toNat)
        case atStart => exact ⟨0, Nat.zero_le _, rfl, td⟩
        case round =>
          clear td
          obtain ⟨k, hk, rfl, td⟩ := hrel
          by_cases hlt : k < V
          · have hkI : (k : Int) < (V : Int) := by omega
            have hk0 : (0 : Int) ≤ (k : Int) := by omega
            have hx := hH.vs k hlt
            have hE1 : (1 : Int) ≤ (E : Int) := hH.pos hlt
            have hE0 : ¬ E = 0 := by omega
            obtain ⟨I, hq⟩ : ∃ I, (k : Int) / (E : Int) = I := ⟨_, rfl⟩
            obtain ⟨J, hj⟩ : ∃ J, (k : Int) % (E : Int) = J := ⟨_, rfl⟩
            rw [hq, hj] at hx
            have ht : (k : Int).tmod (E : Int) = J := by rw [Int.tmod_eq_emod_of_nonneg hk0, hj]
            have hd0 : (0 : Int) ≤ I := by rw [← hq]; exact Int.ediv_nonneg hk0 (by omega)
            have hd1 : I ≤ 9223372036854775807 := by rw [← hq]; exact Int.le_trans (Int.ediv_le_self (E : Int) hk0) (by have := hH.few; omega)
            have hwI : IntKind.i64.wrap I = I := by rw [IntKind.wrap_i64]; omega
            clear hj hd0 hd1
            obtain ⟨U, eU⟩ : ∃ U, atP L ⟨5, I, J⟩ = U := ⟨_, rfl⟩
            rw [eU] at hx
            have cU := aW ⟨5, I, J⟩ U eU
            have hnq := nsame35 U
            obtain ⟨g, o, eA, hr⟩ := td.slots.at_ hx
            replace eA : As = some ⟨g, o, none⟩ := eA
            clear hx eU
            subst eA
            go_wp2_with fail
            have hr2 : wr.drew.rangeAt g (o + k * 3) U.cs := hr
            clear hr
            obtain ⟨wd, ed⟩ : ∃ W, wr.drew = W := ⟨_, rfl⟩
            have hd : Below wr.heap.size wr wd := by rw [← ed]; exact (Below.refl _ _).drew
            rw [ed] at hr2
            replace td := td.on hd
            clear hd
            have kS : Kept (fun g => False) wd wd := Kept.refl _ _
            refine wp_region_noPanic ?_
            refine wp_region_held_drew (S := (fun W => Kept (fun g => False) wd W)) (by kernel_rfl) (by rw [ed]; exact kS) (fun hHeld => ?_)
            rw [ed] at hHeld ⊢
            refine wpAnyH_take (i := 0) (oi := ⟨some 112, _, _, _, _, _⟩) (v := ?_) rfl (by kernel_rfl) (by kernel_rfl) (by kernel_rfl) (fun _ _ _ h => h) (Or.inl ⟨by rfl, ?_⟩) (by assumption) ?_
            rotate_left 1
            · (intro W hSw; go_simp <;> with_reducible rfl)
            try simp only [Act.put, List.setIfInBounds_toArray, List.set_cons_zero, List.set_cons_succ]
            refine wpAnyH_take (i := 1) (oi := ⟨some 113, _, _, _, _, _⟩) (v := ?_) rfl (by kernel_rfl) (by kernel_rfl) (by kernel_rfl) (fun _ _ _ h => h) (Or.inl ⟨by rfl, ?_⟩) (by assumption) ?_
            rotate_left 1
            · (intro W hSw; go_simp <;> with_reducible rfl)
            try simp only [Act.put, List.setIfInBounds_toArray, List.set_cons_zero, List.set_cons_succ]
            refine wpAnyH_take (i := 2) (oi := ⟨some 114, _, _, _, _, _⟩) (v := ?_) rfl (by kernel_rfl) (by kernel_rfl) (by kernel_rfl) (fun _ _ _ h => h) (Or.inl ⟨by rfl, ?_⟩) (by assumption) ?_
            rotate_left 1
            · (intro W hSw; go_simp <;> with_reducible rfl)
            try simp only [Act.put, List.setIfInBounds_toArray, List.set_cons_zero, List.set_cons_succ]
            refine wpAnyH_take (i := 3) (oi := ⟨some 115, _, _, _, _, _⟩) (v := .agg (List.toArray (U.cs))) rfl (by kernel_rfl) (by kernel_rfl) (by kernel_rfl) (fun _ _ _ h => h) (yieldsIf_load_mid (by rfl) 35 (.tmp 114) rfl g (o + k * 3) rfl (U.cs) _ (fun W hW => range_kept hr2 hW) Try.underlying35 rfl size35) (by assumption) ?_
            try simp only [Act.put, List.setIfInBounds_toArray, List.set_cons_zero, List.set_cons_succ]
            refine wpAnyH_take (i := 4) (oi := ⟨some 116, _, _, _, _, _⟩) (v := ?_) rfl (by kernel_rfl) (by kernel_rfl) (by kernel_rfl) (fun _ _ _ h => h) (Or.inl ⟨by rfl, ?_⟩) (by assumption) ?_
            rotate_left 1
            · (intro W hSw; go_simp <;> with_reducible rfl)
            try simp only [Act.put, List.setIfInBounds_toArray, List.set_cons_zero, List.set_cons_succ]
            refine wpAnyH_take (i := 5) (oi := ⟨some 117, _, _, _, _, _⟩) (v := ?_) rfl (by kernel_rfl) (by kernel_rfl) (by kernel_rfl) (fun _ _ _ h => h) (Or.inl ⟨by rfl, ?_⟩) (by assumption) ?_
            rotate_left 1
            · (intro W hSw; go_simp <;> with_reducible rfl)
            try simp only [Act.put, List.setIfInBounds_toArray, List.set_cons_zero, List.set_cons_succ]
            refine wpAnyH_take (i := 6) (oi := ⟨some 118, _, _, _, _, _⟩) (v := ?_) rfl (by kernel_rfl) (by kernel_rfl) (by kernel_rfl) (fun _ _ _ h => h) (Or.inl ⟨by rfl, ?_⟩) (by assumption) ?_
            rotate_left 1
            · (intro W hSw; go_simp <;> with_reducible rfl)
            try simp only [Act.put, List.setIfInBounds_toArray, List.set_cons_zero, List.set_cons_succ]
            refine wpAnyH_take (i := 7) (oi := ⟨some 119, _, _, _, _, _⟩) (v := ?_) rfl (by kernel_rfl) (by kernel_rfl) (by kernel_rfl) (fun _ _ _ h => h) (Or.inl ⟨by rfl, ?_⟩) (by assumption) ?_
            rotate_left 1
            · (intro W hSw; go_simp <;> with_reducible rfl)
            try simp only [Act.put, List.setIfInBounds_toArray, List.set_cons_zero, List.set_cons_succ]
            refine wpAnyH_take (i := 8) (oi := ⟨some 120, _, _, _, _, _⟩) (v := ?_) rfl (by kernel_rfl) (by kernel_rfl) (by kernel_rfl) (fun _ _ _ h => h) (Or.inl ⟨by rfl, ?_⟩) (by assumption) ?_
            rotate_left 1
            · (intro W hSw; go_simp <;> with_reducible rfl)
            try simp only [Act.put, List.setIfInBounds_toArray, List.set_cons_zero, List.set_cons_succ]
            refine wpAnyH_take (i := 9) (oi := ⟨some 121, _, _, _, _, _⟩) (v := ?_) rfl (by kernel_rfl) (by kernel_rfl) (by kernel_rfl) (fun _ _ _ h => h) (Or.inl ⟨by rfl, ?_⟩) (by assumption) ?_
            rotate_left 1
            · (intro W hSw; go_simp <;> with_reducible rfl)
            try simp only [Act.put, List.setIfInBounds_toArray, List.set_cons_zero, List.set_cons_succ]
            refine wpAnyH_take (i := 10) (oi := ⟨some 122, _, _, _, _, _⟩) (v := ?_) rfl (by kernel_rfl) (by kernel_rfl) (by kernel_rfl) (fun _ _ _ h => h) (Or.inl ⟨by rfl, ?_⟩) (by assumption) ?_
            rotate_left 1
            · (intro W hSw; go_simp <;> with_reducible rfl)
            try simp only [Act.put, List.setIfInBounds_toArray, List.set_cons_zero, List.set_cons_succ]
            refine wpAnyH_take (i := 11) (oi := ⟨some 123, _, _, _, _, _⟩) (v := ?_) rfl (by kernel_rfl) (by kernel_rfl) (by kernel_rfl) (fun _ _ _ h => h) (Or.inl ⟨by rfl, ?_⟩) (by assumption) ?_
            rotate_left 1
            · (intro W hSw; go_simp <;> with_reducible rfl)
            try simp only [Act.put, List.setIfInBounds_toArray, List.set_cons_zero, List.set_cons_succ]
            refine wpAnyH_ready (rs := [12]) (by kernel_rfl) (by simp) ?_
            refine AllReadyH.cons (o := ⟨some 124, _, _, _, _, _⟩) rfl (fun K hK => ?_) AllReadyH.nil
            go_simp
            refine (cU wd td.below).mono ?_
            rintro e w1 ⟨rfl, hb1⟩
            have td_1 := td.on hb1
            have S1 : (fun W => Kept (fun g => False) wd W) w1 := Kept.next kS (kept_below (fun _ => False) hb1) (fun _ h => h.elim)
            refine hK.out _ _ S1 (fun h1 => ?_)
            clear hHeld hK K
            try simp only [Act.put, List.setIfInBounds_toArray, List.set_cons_zero, List.set_cons_succ]
            refine wpAnyH_take (i := 13) (oi := ⟨some 125, _, _, _, _, _⟩) (v := ?_) rfl (by kernel_rfl) (by kernel_rfl) (by kernel_rfl) (fun _ _ _ h => h) (Or.inl ⟨by rfl, ?_⟩) (by assumption) ?_
            rotate_left 1
            · (intro W hSw; go_simp <;> with_reducible rfl)
            try simp only [Act.put, List.setIfInBounds_toArray, List.set_cons_zero, List.set_cons_succ]
            refine wpAnyH_done (by kernel_rfl) ?_ _
            refine NoPanic.normal ?_
            replace td := td_1
            clear h1 kS
            go_wp2
            go_roundw
            case rel => exact ⟨k + 1, by omega, by go_num, td⟩
            case measure => simp [intOf]; omega
          · obtain rfl : V = k := by omega
            clear hlt hk
            go_wp2_with fail
            go_loopw [19] (fun i wr => ∃ k : Nat, k ≤ N ∧ i = .int .i64 (k : Int) ∧ Td w p1 p LR LS LM LC ⟨Ar, R, cr⟩ ⟨As, V, cs⟩ ⟨Am, N, cm⟩ ⟨Ac, N, cc⟩ wr) (fun i _ => N - (intOf i).toNat)
            case atStart => exact ⟨0, Nat.zero_le _, rfl, td⟩
            case round =>
              clear td
              obtain ⟨k, hk, rfl, td⟩ := hrel
              by_cases hlt : k < N
              · have hkI : (k : Int) < (N : Int) := by omega
                have hk0 : (0 : Int) ≤ (k : Int) := by omega
                have hxU := hH.ms k hlt
                obtain ⟨U, eU⟩ : ∃ U, atP L ⟨7, (k : Int), 0⟩ = U := ⟨_, rfl⟩
                rw [eU] at hxU
                have cU := aW ⟨7, (k : Int), 0⟩ U eU
                obtain ⟨g, o, eAU, hr⟩ := td.marks.at_ hxU
                replace eAU : Am = some ⟨g, o, none⟩ := eAU
                clear hxU eU
                subst eAU
                have hxU2 := hH.cs k hlt
                obtain ⟨U2, eU2⟩ : ∃ U, atP L ⟨8, (k : Int), 0⟩ = U := ⟨_, rfl⟩
                rw [eU2] at hxU2
                have cU2 := aW ⟨8, (k : Int), 0⟩ U2 eU2
                obtain ⟨g2, o2, eAU2, hr4⟩ := td.counts.at_ hxU2
                replace eAU2 : Ac = some ⟨g2, o2, none⟩ := eAU2
                clear hxU2 eU2
                subst eAU2
                replace cU : ∀ W, Below w.heap.size w W → Calls Try.prog 26 #[.slice A n cap, .agg #[.int .i64 7, .int .i64 (k : Int), .int .i64 0]] W fun e w' => e = .returned (.agg #[.int .i64 U.n, .int .i64 U.c, .int .i64 U.g]) ∧ Below W.heap.size W w' := cU
                replace cU2 : ∀ W, Below w.heap.size w W → Calls Try.prog 26 #[.slice A n cap, .agg #[.int .i64 8, .int .i64 (k : Int), .int .i64 0]] W fun e w' => e = .returned (.agg #[.int .i64 U2.n, .int .i64 U2.c, .int .i64 U2.g]) ∧ Below W.heap.size W w' := cU2
                have hf0 := field0
                go_wp2_with fail
                have hr2 : wr.drew.rangeAt g (o + k * 1) (int1 U.n) := hr
                have hr3 : wr.drew.rangeAt g2 (o2 + k * 1) (int1 U2.n) := hr4
                clear hr hr4
                obtain ⟨wd, ed⟩ : ∃ W, wr.drew = W := ⟨_, rfl⟩
                have hd : Below wr.heap.size wr wd := by rw [← ed]; exact (Below.refl _ _).drew
                rw [ed] at hr2 hr3
                replace td := td.on hd
                clear hd
                have kS : Kept (fun g => False) wd wd := Kept.refl _ _
                have tS : ∀ W, Kept (fun g => False) wd W → W.cell? ⟨g, o + k, none⟩ = some (.int .i64 U.n) ∧ W.cell? ⟨g2, o2 + k, none⟩ = some (.int .i64 U2.n) := fun W hW => ⟨by have := range_kept hr2 hW 0 _ rfl; simpa using this, by have := range_kept hr3 hW 0 _ rfl; simpa using this⟩
                refine wp_region_noPanic ?_
                refine wp_region_held_drew (S := (fun W => Kept (fun g => False) wd W)) (by kernel_rfl) (by rw [ed]; exact kS) (fun hHeld => ?_)
                rw [ed] at hHeld ⊢
                refine wpAnyH_take (i := 0) (oi := ⟨some 131, _, _, _, _, _⟩) (v := ?_) rfl (by kernel_rfl) (by kernel_rfl) (by kernel_rfl) (fun _ _ _ h => h) (Or.inl ⟨by rfl, ?_⟩) (by assumption) ?_
                rotate_left 1
                · (intro W hSw; go_simp <;> with_reducible rfl)
                try simp only [Act.put, List.setIfInBounds_toArray, List.set_cons_zero, List.set_cons_succ]
                refine wpAnyH_take (i := 1) (oi := ⟨some 132, _, _, _, _, _⟩) (v := ?_) rfl (by kernel_rfl) (by kernel_rfl) (by kernel_rfl) (fun _ _ _ h => h) (Or.inl ⟨by rfl, ?_⟩) (by assumption) ?_
                rotate_left 1
                · (intro W hSw; go_simp <;> with_reducible rfl)
                try simp only [Act.put, List.setIfInBounds_toArray, List.set_cons_zero, List.set_cons_succ]
                refine wpAnyH_take (i := 2) (oi := ⟨some 133, _, _, _, _, _⟩) (v := ?_) rfl (by kernel_rfl) (by kernel_rfl) (by kernel_rfl) (fun _ _ _ h => h) (Or.inl ⟨by rfl, ?_⟩) (by assumption) ?_
                rotate_left 1
                · (intro W hSw; go_simp <;> with_reducible rfl)
                try simp only [Act.put, List.setIfInBounds_toArray, List.set_cons_zero, List.set_cons_succ]
                refine wpAnyH_take (i := 3) (oi := ⟨some 134, _, _, _, _, _⟩) (v := ?_) rfl (by kernel_rfl) (by kernel_rfl) (by kernel_rfl) (fun _ _ _ h => h) (Or.inl ⟨by rfl, ?_⟩) (by assumption) ?_
                rotate_left 1
                · (intro W hSw; obtain ⟨q0, q1⟩ := tS W hSw; go_simp <;> with_reducible rfl)
                try simp only [Act.put, List.setIfInBounds_toArray, List.set_cons_zero, List.set_cons_succ]
                refine wpAnyH_take (i := 4) (oi := ⟨some 135, _, _, _, _, _⟩) (v := ?_) rfl (by kernel_rfl) (by kernel_rfl) (by kernel_rfl) (fun _ _ _ h => h) (Or.inl ⟨by rfl, ?_⟩) (by assumption) ?_
                rotate_left 1
                · (intro W hSw; go_simp <;> with_reducible rfl)
                try simp only [Act.put, List.setIfInBounds_toArray, List.set_cons_zero, List.set_cons_succ]
                refine wpAnyH_take (i := 5) (oi := ⟨some 136, _, _, _, _, _⟩) (v := ?_) rfl (by kernel_rfl) (by kernel_rfl) (by kernel_rfl) (fun _ _ _ h => h) (Or.inl ⟨by rfl, ?_⟩) (by assumption) ?_
                rotate_left 1
                · (intro W hSw; go_simp <;> with_reducible rfl)
                try simp only [Act.put, List.setIfInBounds_toArray, List.set_cons_zero, List.set_cons_succ]
                refine wpAnyH_take (i := 6) (oi := ⟨some 137, _, _, _, _, _⟩) (v := ?_) rfl (by kernel_rfl) (by kernel_rfl) (by kernel_rfl) (fun _ _ _ h => h) (Or.inl ⟨by rfl, ?_⟩) (by assumption) ?_
                rotate_left 1
                · (intro W hSw; go_simp <;> with_reducible rfl)
                try simp only [Act.put, List.setIfInBounds_toArray, List.set_cons_zero, List.set_cons_succ]
                refine wpAnyH_ready (rs := [7]) (by kernel_rfl) (by simp) ?_
                refine AllReadyH.cons (o := ⟨some 138, _, _, _, _, _⟩) rfl (fun K hK => ?_) AllReadyH.nil
                go_simp
                refine (cU wd td.below).mono ?_
                rintro e w1 ⟨rfl, hb1⟩
                have td_1 := td.on hb1
                have S1 : (fun W => Kept (fun g => False) wd W) w1 := Kept.next kS (kept_below (fun _ => False) hb1) (fun _ h => h.elim)
                refine hK.out _ _ S1 (fun h1 => ?_)
                clear hHeld hK K
                try simp only [Act.put, List.setIfInBounds_toArray, List.set_cons_zero, List.set_cons_succ]
                refine wpAnyH_take (i := 8) (oi := ⟨some 139, _, _, _, _, _⟩) (v := ?_) rfl (by kernel_rfl) (by kernel_rfl) (by kernel_rfl) (fun _ _ _ h => h) (Or.inl ⟨by rfl, ?_⟩) (by assumption) ?_
                rotate_left 1
                · (intro W hSw; go_simp <;> with_reducible rfl)
                try simp only [Act.put, List.setIfInBounds_toArray, List.set_cons_zero, List.set_cons_succ]
                refine wpAnyH_take (i := 9) (oi := ⟨some 140, _, _, _, _, _⟩) (v := ?_) rfl (by kernel_rfl) (by kernel_rfl) (by kernel_rfl) (fun _ _ _ h => h) (Or.inl ⟨by rfl, ?_⟩) (by assumption) ?_
                rotate_left 1
                · (intro W hSw; go_simp <;> with_reducible rfl)
                try simp only [Act.put, List.setIfInBounds_toArray, List.set_cons_zero, List.set_cons_succ]
                refine wpAnyH_take (i := 10) (oi := ⟨some 141, _, _, _, _, _⟩) (v := ?_) rfl (by kernel_rfl) (by kernel_rfl) (by kernel_rfl) (fun _ _ _ h => h) (Or.inl ⟨by rfl, ?_⟩) (by assumption) ?_
                rotate_left 1
                · (intro W hSw; go_simp <;> with_reducible rfl)
                try simp only [Act.put, List.setIfInBounds_toArray, List.set_cons_zero, List.set_cons_succ]
                refine wpAnyH_take (i := 11) (oi := ⟨some 142, _, _, _, _, _⟩) (v := ?_) rfl (by kernel_rfl) (by kernel_rfl) (by kernel_rfl) (fun _ _ _ h => h) (Or.inl ⟨by rfl, ?_⟩) (by assumption) ?_
                rotate_left 1
                · (intro W hSw; go_simp <;> with_reducible rfl)
                try simp only [Act.put, List.setIfInBounds_toArray, List.set_cons_zero, List.set_cons_succ]
                refine wpAnyH_take (i := 12) (oi := ⟨some 143, _, _, _, _, _⟩) (v := ?_) rfl (by kernel_rfl) (by kernel_rfl) (by kernel_rfl) (fun _ _ _ h => h) (Or.inl ⟨by rfl, ?_⟩) (by assumption) ?_
                rotate_left 1
                · (intro W hSw; go_simp <;> with_reducible rfl)
                try simp only [Act.put, List.setIfInBounds_toArray, List.set_cons_zero, List.set_cons_succ]
                refine wpAnyH_take (i := 13) (oi := ⟨some 144, _, _, _, _, _⟩) (v := ?_) rfl (by kernel_rfl) (by kernel_rfl) (by kernel_rfl) (fun _ _ _ h => h) (Or.inl ⟨by rfl, ?_⟩) (by assumption) ?_
                rotate_left 1
                · (intro W hSw; go_simp <;> with_reducible rfl)
                try simp only [Act.put, List.setIfInBounds_toArray, List.set_cons_zero, List.set_cons_succ]
                refine wpAnyH_take (i := 14) (oi := ⟨some 145, _, _, _, _, _⟩) (v := ?_) rfl (by kernel_rfl) (by kernel_rfl) (by kernel_rfl) (fun _ _ _ h => h) (Or.inl ⟨by rfl, ?_⟩) (by assumption) ?_
                rotate_left 1
                · (intro W hSw; obtain ⟨q0, q1⟩ := tS W hSw; go_simp <;> with_reducible rfl)
                try simp only [Act.put, List.setIfInBounds_toArray, List.set_cons_zero, List.set_cons_succ]
                refine wpAnyH_take (i := 15) (oi := ⟨some 146, _, _, _, _, _⟩) (v := ?_) rfl (by kernel_rfl) (by kernel_rfl) (by kernel_rfl) (fun _ _ _ h => h) (Or.inl ⟨by rfl, ?_⟩) (by assumption) ?_
                rotate_left 1
                · (intro W hSw; go_simp <;> with_reducible rfl)
                try simp only [Act.put, List.setIfInBounds_toArray, List.set_cons_zero, List.set_cons_succ]
                refine wpAnyH_take (i := 16) (oi := ⟨some 147, _, _, _, _, _⟩) (v := ?_) rfl (by kernel_rfl) (by kernel_rfl) (by kernel_rfl) (fun _ _ _ h => h) (Or.inl ⟨by rfl, ?_⟩) (by assumption) ?_
                rotate_left 1
                · (intro W hSw; go_simp <;> with_reducible rfl)
                try simp only [Act.put, List.setIfInBounds_toArray, List.set_cons_zero, List.set_cons_succ]
                refine wpAnyH_take (i := 17) (oi := ⟨some 148, _, _, _, _, _⟩) (v := ?_) rfl (by kernel_rfl) (by kernel_rfl) (by kernel_rfl) (fun _ _ _ h => h) (Or.inl ⟨by rfl, ?_⟩) (by assumption) ?_
                rotate_left 1
                · (intro W hSw; go_simp <;> with_reducible rfl)
                try simp only [Act.put, List.setIfInBounds_toArray, List.set_cons_zero, List.set_cons_succ]
                refine wpAnyH_ready (rs := [18]) (by kernel_rfl) (by simp) ?_
                refine AllReadyH.cons (o := ⟨some 149, _, _, _, _, _⟩) rfl (fun K hK => ?_) AllReadyH.nil
                go_simp
                refine (cU2 w1 td_1.below).mono ?_
                rintro e w2 ⟨rfl, hb2⟩
                have td_2 := td_1.on hb2
                have S2 : (fun W => Kept (fun g => False) wd W) w2 := Kept.next S1 (kept_below (fun _ => False) hb2) (fun _ h => h.elim)
                refine hK.out _ _ S2 (fun h2 => ?_)
                clear h1 hK K
                try simp only [Act.put, List.setIfInBounds_toArray, List.set_cons_zero, List.set_cons_succ]
                refine wpAnyH_take (i := 19) (oi := ⟨some 150, _, _, _, _, _⟩) (v := ?_) rfl (by kernel_rfl) (by kernel_rfl) (by kernel_rfl) (fun _ _ _ h => h) (Or.inl ⟨by rfl, ?_⟩) (by assumption) ?_
                rotate_left 1
                · (intro W hSw; go_simp <;> with_reducible rfl)
                try simp only [Act.put, List.setIfInBounds_toArray, List.set_cons_zero, List.set_cons_succ]
                refine wpAnyH_take (i := 20) (oi := ⟨some 151, _, _, _, _, _⟩) (v := ?_) rfl (by kernel_rfl) (by kernel_rfl) (by kernel_rfl) (fun _ _ _ h => h) (Or.inl ⟨by rfl, ?_⟩) (by assumption) ?_
                rotate_left 1
                · (intro W hSw; go_simp <;> with_reducible rfl)
                try simp only [Act.put, List.setIfInBounds_toArray, List.set_cons_zero, List.set_cons_succ]
                refine wpAnyH_take (i := 21) (oi := ⟨some 152, _, _, _, _, _⟩) (v := ?_) rfl (by kernel_rfl) (by kernel_rfl) (by kernel_rfl) (fun _ _ _ h => h) (Or.inl ⟨by rfl, ?_⟩) (by assumption) ?_
                rotate_left 1
                · (intro W hSw; go_simp <;> with_reducible rfl)
                try simp only [Act.put, List.setIfInBounds_toArray, List.set_cons_zero, List.set_cons_succ]
                refine wpAnyH_done (by kernel_rfl) ?_ _
                refine NoPanic.normal ?_
                replace td := td_2
                clear h2 kS tS
                go_wp2
                go_roundw
                case rel => exact ⟨k + 1, by omega, by go_num, td⟩
                case measure => simp [intOf]; omega
              · obtain rfl : N = k := by omega
                clear hlt hk
                obtain ⟨U, eU⟩ : ∃ U, atP L ⟨6, 0, 0⟩ = U := ⟨_, rfl⟩
                have cU := aW ⟨6, 0, 0⟩ U eU
                rw [eU] at ep
                replace cU : ∀ W, Below w.heap.size w W → Calls Try.prog 26 #[.slice A n cap, .agg #[.int .i64 6, .int .i64 0, .int .i64 0]] W fun e w' => e = .returned (.agg #[.int .i64 U.n, .int .i64 U.c, .int .i64 U.g]) ∧ Below W.heap.size W w' := cU
                have hf0 := field0
                have kk := td.below
                clear td eU
                go_wp2_with fail
                refine (ep _ kk).mono ?_
                rintro e wB ⟨rfl, kB⟩
                replace kk := kk.trans (kB.mono kk.size)
                clear kB
                go_wp2_with fail
                refine (cU _ kk).mono ?_
                rintro e wC ⟨rfl, kC⟩
                replace kk := kk.trans (kC.mono kk.size)
                clear kC
                go_wp2_with fail
                refine (em _ kk).mono ?_
                rintro e wD ⟨rfl, rfl⟩
                go_wp2_with fail
                go_ret
                exact ⟨rfl, kk⟩
end Go.Proofs.Ytlajjadpcaobiaa
