/- Put. Conditions: a place of 64 bits, at most a million Puts. -/
import Derived.Test.YtlajjadpcaobiaaGet
namespace Go.Proofs.Ytlajjadpcaobiaa
open Go.RowKit Go.ChangeShapes Go.WideShapes

/-- What a Put that is true leaves. -/
def Puts (w w' : World) (m h b : Nat) (sp sq : Sl) (p : Pg) (L : List Ch) (x : Pl) (v : Wd) : Prop :=
  ∃ A' c', Mem w' m h b sp ⟨A', sq.n + 1, c'⟩ p (L ++ [⟨x, v⟩]) ∧ (∀ g, blk A' = some g → blk sq.A = some g ∨ w.heap.size ≤ g) ∧ Kept (turned h b sq) w w'
set_option maxRecDepth 100000 in
set_option maxHeartbeats 4000000 in
theorem put_any {w : World} {m h b : Nat} {sp sq : Sl} {p : Pg} {L : List Ch} (q : Mem w m h b sp sq p L) (hn : L.length ≤ 900000) (x : Pl) (v : Wd) (hx : x.Wide) : Calls Try.prog 15 #[.pointer (some ⟨m, 0, none⟩), .agg x.cs.toArray, .agg v.cs.toArray] w fun e w' => e = .returned (.bool (thereP p x)) ∧ (thereP p x = false → Below w.heap.size w w') ∧ (thereP p x = true → Puts w w' m h b sp sq p L x v) := by
  obtain ⟨p1, f1⟩ : ∃ p, w.heap.size = p := ⟨_, rfl⟩
  obtain ⟨W1, ea1⟩ : ∃ W, w.alloc (.cells x.cs.toArray 27) = W := ⟨_, rfl⟩
  have ka1 : Below w.heap.size w W1 := by rw [← ea1]; exact (Below.refl _ w).alloc (Nat.le_refl _) _
  have b1 : Blk W1 p1 27 x.cs.toArray := by rw [← ea1]; exact blk_new w _ 27 _ f1
  have kk : Below w.heap.size w W1 := ka1
  have hp1 : w.heap.size ≤ p1 := Nat.le_of_eq f1
  clear ka1
  obtain ⟨p2, f2⟩ : ∃ p, W1.heap.size = p := ⟨_, rfl⟩
  obtain ⟨W2, ea2⟩ : ∃ W, W1.alloc (.cells v.cs.toArray 35) = W := ⟨_, rfl⟩
  have ka2 : Below W1.heap.size W1 W2 := by rw [← ea2]; exact (Below.refl _ W1).alloc (Nat.le_refl _) _
  have b2 : Blk W2 p2 35 v.cs.toArray := by rw [← ea2]; exact blk_new W1 _ 35 _ f2
  have q1_2 : p1 < p2 := by rw [← f2]; exact b1.lt
  replace b1 := b1.on ka2
  have kk0 := kk
  replace kk := kk.trans (ka2.mono kk.size)
  have hp2 : w.heap.size ≤ p2 := by rw [← f2]; exact kk0.size
  clear ka2 kk0
  replace q := q.on kk
  have c1 := get_any q x hx
  have lb1 := b1
  cases hth : thereP p x with
  | false =>
    rw [hth] at c1
    have Hth := Lib.hid hth
    clear hth
    go_enter Try.func15, Try.ntmps15
    go_wp2_with (((with_reducible refine at_load 27 (.tmp 4) ?_); refine wpList_load_row rfl 27 (.tmp 4) rfl p1 rfl 27 x.cs.toArray (0, 0) _ lb1 Try.underlying27 rfl size27 ?_))
    refine (c1).mono ?_
    rintro e W3 ⟨rfl, kw3⟩
    replace b1 := b1.on kw3
    replace b2 := b2.on kw3
    replace q := q.on kw3
    replace kk := kk.trans (kw3.mono kk.size)
    clear kw3
    clear lb1 f1
    obtain ⟨p3, f3⟩ : ∃ p, W3.heap.size = p := ⟨_, rfl⟩
    obtain ⟨W4, ea4⟩ : ∃ W, W3.alloc (.cells #[.int .i64 0, .int .i64 0, .int .i64 0] 35) = W := ⟨_, rfl⟩
    have ka4 : Below W3.heap.size W3 W4 := by rw [← ea4]; exact (Below.refl _ W3).alloc (Nat.le_refl _) _
    have b3 : Blk W4 p3 35 #[.int .i64 0, .int .i64 0, .int .i64 0] := by rw [← ea4]; exact blk_new W3 _ 35 _ f3
    have q1_3 : p1 < p3 := by rw [← f3]; exact b1.lt
    replace b1 := b1.on ka4
    have q2_3 : p2 < p3 := by rw [← f3]; exact b2.lt
    replace b2 := b2.on ka4
    replace q := q.on ka4
    have kk0 := kk
    replace kk := kk.trans (ka4.mono kk.size)
    have hp3 : w.heap.size ≤ p3 := by rw [← f3]; exact kk0.size
    clear ka4 kk0
    obtain ⟨W5, es5⟩ : ∃ W, W4.setRow p3 (getP p L x).cs.toArray = W := ⟨_, rfl⟩
    have bo3 := b3
    replace q := q.row b3 (by decide) es5
    replace b1 := row_far b1 es5 (by omega)
    replace b2 := row_far b2 es5 (by omega)
    replace b3 : Blk W5 p3 35 (getP p L x).cs.toArray := row_named b3 es5
    replace kk := kk.trans (row_below es5 hp3 kk.size)
    go_wp2_with (((with_reducible refine at_store 35 (.tmp 7) (.tmp 13) ?_); refine wpList_store_row rfl 35 (.tmp 7) (.tmp 13) rfl p3 (getP p L x).cs.toArray rfl rfl 35 #[.int .i64 0, .int .i64 0, .int .i64 0] bo3 size35 rfl (Wd.onea _) ?_; rw [es5]))
    go_ret
    refine ⟨rfl, ?_, fun e => (by cases e)⟩
    intro _
    exact kk
  | true =>
    rw [hth] at c1
    have hx8 := there_kind hth
    have Hth := Lib.hid hth
    clear hth
    go_enter Try.func15, Try.ntmps15
    go_wp2_with (((with_reducible refine at_load 27 (.tmp 4) ?_); refine wpList_load_row rfl 27 (.tmp 4) rfl p1 rfl 27 x.cs.toArray (0, 0) _ lb1 Try.underlying27 rfl size27 ?_))
    refine (c1).mono ?_
    rintro e W3 ⟨rfl, kw3⟩
    replace b1 := b1.on kw3
    replace b2 := b2.on kw3
    replace q := q.on kw3
    replace kk := kk.trans (kw3.mono kk.size)
    clear kw3
    clear lb1 f1
    obtain ⟨p3, f3⟩ : ∃ p, W3.heap.size = p := ⟨_, rfl⟩
    obtain ⟨W4, ea4⟩ : ∃ W, W3.alloc (.cells #[.int .i64 0, .int .i64 0, .int .i64 0] 35) = W := ⟨_, rfl⟩
    have ka4 : Below W3.heap.size W3 W4 := by rw [← ea4]; exact (Below.refl _ W3).alloc (Nat.le_refl _) _
    have b3 : Blk W4 p3 35 #[.int .i64 0, .int .i64 0, .int .i64 0] := by rw [← ea4]; exact blk_new W3 _ 35 _ f3
    have q1_3 : p1 < p3 := by rw [← f3]; exact b1.lt
    replace b1 := b1.on ka4
    have q2_3 : p2 < p3 := by rw [← f3]; exact b2.lt
    replace b2 := b2.on ka4
    replace q := q.on ka4
    have kk0 := kk
    replace kk := kk.trans (ka4.mono kk.size)
    have hp3 : w.heap.size ≤ p3 := by rw [← f3]; exact kk0.size
    clear ka4 kk0
    obtain ⟨W5, es5⟩ : ∃ W, W4.setRow p3 (getP p L x).cs.toArray = W := ⟨_, rfl⟩
    have bo3 := b3
    replace q := q.row b3 (by decide) es5
    replace b1 := row_far b1 es5 (by omega)
    replace b2 := row_far b2 es5 (by omega)
    replace b3 : Blk W5 p3 35 (getP p L x).cs.toArray := row_named b3 es5
    replace kk := kk.trans (row_below es5 hp3 kk.size)
    go_wp2_with (((with_reducible refine at_store 35 (.tmp 7) (.tmp 13) ?_); refine wpList_store_row rfl 35 (.tmp 7) (.tmp 13) rfl p3 (getP p L x).cs.toArray rfl rfl 35 #[.int .i64 0, .int .i64 0, .int .i64 0] bo3 size35 rfl (Wd.onea _) ?_; rw [es5]))
    have n1 := q.noturn b1 (by decide)
    have n3 := q.noturn b3 (by decide)
    have nm := q.noturn q.mem (by decide)
    have q0len := q.len
    have q0all := q.all
    obtain ⟨wd, ed⟩ : ∃ W, W5.drew = W := ⟨_, rfl⟩
    have hd : Below W5.heap.size W5 wd := by rw [← ed]; exact (Below.refl _ _).drew
    replace b1 := b1.on hd
    replace b2 := b2.on hd
    replace b3 := b3.on hd
    replace q := q.on hd
    replace kk := kk.trans (hd.mono kk.size)
    clear hd
    have kS : Kept (fun g => g = h ∨ blk sq.A = some g) wd wd := Kept.refl _ _
    have tS : ∀ W, Kept (fun g => g = h ∨ blk sq.A = some g) wd W → W.cell? ⟨m, 0, none⟩ = some (.pointer (some ⟨h, 0, none⟩)) := fun W hW => (q.mem.kept hW nm).cell 0
    refine wp_region_noPanic ?_
    refine wp_region_held_drew (S := (fun W => Kept (fun g => g = h ∨ blk sq.A = some g) wd W)) (by kernel_rfl) (by rw [ed]; exact kS) (fun hHeld => ?_)
    rw [ed] at hHeld ⊢
    refine wpAnyH_take (i := 0) (oi := ⟨some 17, _, _, _, _, _⟩) (v := ?_) rfl (by kernel_rfl) (by kernel_rfl) (by kernel_rfl) (fun _ _ _ h => h) (Or.inl ⟨by rfl, ?_⟩) (by assumption) ?_
    rotate_left 1
    · (intro W hSw; go_simp <;> with_reducible rfl)
    try simp only [Act.put, List.setIfInBounds_toArray, List.set_cons_zero, List.set_cons_succ]
    refine wpAnyH_take (i := 1) (oi := ⟨some 18, _, _, _, _, _⟩) (v := ?_) rfl (by kernel_rfl) (by kernel_rfl) (by kernel_rfl) (fun _ _ _ h => h) (Or.inl ⟨by rfl, ?_⟩) (by assumption) ?_
    rotate_left 1
    · (intro W hSw; go_simp <;> with_reducible rfl)
    try simp only [Act.put, List.setIfInBounds_toArray, List.set_cons_zero, List.set_cons_succ]
    refine wpAnyH_take (i := 2) (oi := ⟨some 19, _, _, _, _, _⟩) (v := ?_) rfl (by kernel_rfl) (by kernel_rfl) (by kernel_rfl) (fun _ _ _ h => h) (Or.inl ⟨by rfl, ?_⟩) (by assumption) ?_
    rotate_left 1
    · (intro W hSw; go_simp <;> with_reducible rfl)
    try simp only [Act.put, List.setIfInBounds_toArray, List.set_cons_zero, List.set_cons_succ]
    refine wpAnyH_take (i := 3) (oi := ⟨some 20, _, _, _, _, _⟩) (v := ?_) rfl (by kernel_rfl) (by kernel_rfl) (by kernel_rfl) (fun _ _ _ h => h) (Or.inl ⟨by rfl, ?_⟩) (by assumption) ?_
    rotate_left 1
    · (intro W hSw; obtain q0 := tS W hSw; go_simp <;> with_reducible rfl)
    try simp only [Act.put, List.setIfInBounds_toArray, List.set_cons_zero, List.set_cons_succ]
    refine wpAnyH_take (i := 4) (oi := ⟨some 21, _, _, _, _, _⟩) (v := ?_) rfl (by kernel_rfl) (by kernel_rfl) (by kernel_rfl) (fun _ _ _ h => h) (Or.inl ⟨by rfl, ?_⟩) (by assumption) ?_
    rotate_left 1
    · (intro W hSw; go_simp <;> with_reducible rfl)
    try simp only [Act.put, List.setIfInBounds_toArray, List.set_cons_zero, List.set_cons_succ]
    refine wpAnyH_take (i := 5) (oi := ⟨some 22, _, _, _, _, _⟩) (v := ?_) rfl (by kernel_rfl) (by kernel_rfl) (by kernel_rfl) (fun _ _ _ h => h) (Or.inl ⟨by rfl, ?_⟩) (by assumption) ?_
    rotate_left 1
    · (intro W hSw; go_simp <;> with_reducible rfl)
    try simp only [Act.put, List.setIfInBounds_toArray, List.set_cons_zero, List.set_cons_succ]
    refine wpAnyH_take (i := 6) (oi := ⟨some 23, _, _, _, _, _⟩) (v := ?_) rfl (by kernel_rfl) (by kernel_rfl) (by kernel_rfl) (fun _ _ _ h => h) (Or.inl ⟨by rfl, ?_⟩) (by assumption) ?_
    rotate_left 1
    · (intro W hSw; go_simp <;> with_reducible rfl)
    try simp only [Act.put, List.setIfInBounds_toArray, List.set_cons_zero, List.set_cons_succ]
    refine wpAnyH_take (i := 7) (oi := ⟨some 24, _, _, _, _, _⟩) (v := ?_) rfl (by kernel_rfl) (by kernel_rfl) (by kernel_rfl) (fun _ _ _ h => h) (Or.inl ⟨by rfl, ?_⟩) (by assumption) ?_
    rotate_left 1
    · (intro W hSw; obtain q0 := tS W hSw; go_simp <;> with_reducible rfl)
    try simp only [Act.put, List.setIfInBounds_toArray, List.set_cons_zero, List.set_cons_succ]
    refine wpAnyH_take (i := 8) (oi := ⟨some 25, _, _, _, _, _⟩) (v := ?_) rfl (by kernel_rfl) (by kernel_rfl) (by kernel_rfl) (fun _ _ _ h => h) (Or.inl ⟨by rfl, ?_⟩) (by assumption) ?_
    rotate_left 1
    · (intro W hSw; go_simp <;> with_reducible rfl)
    try simp only [Act.put, List.setIfInBounds_toArray, List.set_cons_zero, List.set_cons_succ]
    refine wpAnyH_take (i := 9) (oi := ⟨some 26, _, _, _, _, _⟩) (v := ?_) rfl (by kernel_rfl) (by kernel_rfl) (by kernel_rfl) (fun _ _ _ h => h) (Or.inl ⟨by rfl, ?_⟩) (by assumption) ?_
    rotate_left 1
    · (intro W hSw; go_simp <;> with_reducible rfl)
    try simp only [Act.put, List.setIfInBounds_toArray, List.set_cons_zero, List.set_cons_succ]
    refine wpAnyH_take (i := 11) (oi := ⟨some 28, _, _, _, _, _⟩) (v := .agg (List.toArray ([.int .i64 x.k, .int .i64 x.i, .int .i64 x.j]))) rfl (by kernel_rfl) (by kernel_rfl) (by kernel_rfl) (fun _ _ _ h => h) (yieldsIf_load_mid (by rfl) 27 (.tmp 4) rfl p1 (0) rfl ([.int .i64 x.k, .int .i64 x.i, .int .i64 x.j]) _ (fun W hW => range_part (b1.kept hW n1) 0 x.cs rfl) Try.underlying27 rfl size27) (by assumption) ?_
    try simp only [Act.put, List.setIfInBounds_toArray, List.set_cons_zero, List.set_cons_succ]
    refine wpAnyH_take (i := 12) (oi := ⟨some 29, _, _, _, _, _⟩) (v := .agg (List.toArray ([.int .i64 (getP p L x).n, .int .i64 (getP p L x).c, .int .i64 (getP p L x).g]))) rfl (by kernel_rfl) (by kernel_rfl) (by kernel_rfl) (fun _ _ _ h => h) (yieldsIf_load_mid (by rfl) 35 (.tmp 7) rfl p3 (0) rfl ([.int .i64 (getP p L x).n, .int .i64 (getP p L x).c, .int .i64 (getP p L x).g]) _ (fun W hW => range_part (b3.kept hW n3) 0 _ rfl) Try.underlying35 rfl size35) (by assumption) ?_
    try simp only [Act.put, List.setIfInBounds_toArray, List.set_cons_zero, List.set_cons_succ]
    refine wpAnyH_take (i := 13) (oi := ⟨some 30, _, _, _, _, _⟩) (v := ?_) rfl (by kernel_rfl) (by kernel_rfl) (by kernel_rfl) (fun _ _ _ h => h) (Or.inl ⟨by rfl, ?_⟩) (by assumption) ?_
    rotate_left 1
    · (intro W hSw; go_simp <;> with_reducible rfl)
    try simp only [Act.put, List.setIfInBounds_toArray, List.set_cons_zero, List.set_cons_succ]
    refine wpAnyH_ready (rs := [10, 14]) (by kernel_rfl) (by simp) ?_
    refine AllReadyH.cons (o := ⟨some 27, _, _, _, _, _⟩) rfl (fun K hK => ?_) (AllReadyH.cons (o := ⟨some 31, _, _, _, _, _⟩) rfl (fun K hK => ?_) AllReadyH.nil)
    · rw [if_pos (by rfl)]
      have z0 := q.held.cell 2
      go_simp
      clear z0
      refine hK.out _ _ kS (fun h1 => ?_)
      clear hHeld hK K
      try simp only [Act.put, List.setIfInBounds_toArray, List.set_cons_zero, List.set_cons_succ]
      refine wpAnyH_ready (rs := [14]) (by kernel_rfl) (by simp) ?_
      refine AllReadyH.cons (o := ⟨some 31, _, _, _, _, _⟩) rfl (fun K hK => ?_) AllReadyH.nil
      go_simp
      obtain ⟨w2, ew2⟩ : ∃ zz, zz = wd.alloc (.cells #[.int .i64 x.k, .int .i64 x.i, .int .i64 x.j, .int .i64 (getP p L x).n, .int .i64 (getP p L x).c, .int .i64 (getP p L x).g] 74) := ⟨_, rfl⟩
      have hb2 : Below wd.heap.size wd w2 := by rw [ew2]; exact (Below.refl _ _).alloc (Nat.le_refl _) _
      rw [← ew2]
      have nb2 : Blk w2 wd.heap.size 74 ({ x := x, v := getP p L x } : Ch).cs.toArray := by rw [ew2]; exact blk_new _ _ 74 _ rfl
      have b1_2 := b1.on hb2
      have b2_2 := b2.on hb2
      have b3_2 := b3.on hb2
      have q_2 := q.on hb2
      have kk_2 := kk.trans (hb2.mono kk.size)
      have S2 : (fun W => Kept (fun g => g = h ∨ blk sq.A = some g) wd W) w2 := Kept.next kS (kept_below (fun _ => False) hb2) (fun _ h => h.elim)
      refine hK.out _ _ S2 (fun h2 => ?_)
      clear h1 hK K ew2
      try simp only [Act.put, List.setIfInBounds_toArray, List.set_cons_zero, List.set_cons_succ]
      refine wpAnyH_ready (rs := [15]) (by kernel_rfl) (by simp) ?_
      refine AllReadyH.cons (o := ⟨some 32, _, _, _, _, _⟩) rfl (fun K hK => ?_) AllReadyH.nil
      rw [if_pos (by rfl)]
      refine wp_append_C (.tmp 27) (.tmp 31) rfl rfl q_2.past (by have := q_2.len; omega) (Nat.zero_le _) ⟨wd.heap.size, 0, none⟩ 1 ({ x := x, v := getP p L x } : Ch) rfl (fun j u hu => by rw [plain_add]; exact range_blk nb2 j u hu) ?_
      intro A' c' w3 po hg3 hl3
      have kn3 := kept_grown hg3
      have S3 : (fun W => Kept (fun g => g = h ∨ blk sq.A = some g) wd W) w3 := S2.next kn3 (fun g e => .inl (.inr e))
      refine hK.out _ _ S3 (fun h3 => ?_)
      clear h2 hK K
      try simp only [Act.put, List.setIfInBounds_toArray, List.set_cons_zero, List.set_cons_succ]
      refine wpAnyH_take (i := 16) (oi := ⟨some 33, _, _, _, _, _⟩) (v := ?_) rfl (by kernel_rfl) (by kernel_rfl) (by kernel_rfl) (fun _ _ _ h => h) (Or.inl ⟨by rfl, ?_⟩) (by assumption) ?_
      rotate_left 1
      · (intro W hSw; go_simp <;> with_reducible rfl)
      try simp only [Act.put, List.setIfInBounds_toArray, List.set_cons_zero, List.set_cons_succ]
      refine wpAnyH_take (i := 17) (oi := ⟨some 34, _, _, _, _, _⟩) (v := ?_) rfl (by kernel_rfl) (by kernel_rfl) (by kernel_rfl) (fun _ _ _ h => h) (Or.inl ⟨by rfl, ?_⟩) (by assumption) ?_
      rotate_left 1
      · (intro W hSw; go_simp <;> with_reducible rfl)
      try simp only [Act.put, List.setIfInBounds_toArray, List.set_cons_zero, List.set_cons_succ]
      refine wpAnyH_ready (rs := [18]) (by kernel_rfl) (by simp) ?_
      refine AllReadyH.cons (o := ⟨none, _, _, _, _, _⟩) rfl (fun K hK => ?_) AllReadyH.nil
      rw [if_pos (by rfl)]
      have hh := (q_2.held).kept kn3 (fun e => q_2.past.box q_2.held (by decide) e.symm)
      have z0 := hh.cell 2
      have z1 := hh.free 2
      go_simp
      refine hK.out _ _ (S3.next (kept_cell _ ⟨h, 2, none⟩ _) (fun g e => .inl (.inl e))) (fun h4 => ?_)
      clear h3 hK K
      try simp only [Act.put]
      refine wpAnyH_done (by kernel_rfl) ?_ _
      refine NoPanic.normal ?_
      obtain ⟨W6, e6⟩ : ∃ W, w3.setCell ⟨h, 2, none⟩ (.slice A' (sq.n + 1) c') = W := ⟨_, rfl⟩
      rw [e6]
      rw [e6] at h4
      obtain ⟨q6, k6⟩ := q_2.g.push kn3 po e6
      have b1 := (b1_2).kept k6 (q_2.noturn b1_2 (by decide))
      have b2 := (b2_2).kept k6 (q_2.noturn b2_2 (by decide))
      have kz : Kept (turned h b sq) w W6 := (kept_below _ kk_2).next (k6.more (fun g e => (show turned h b sq g from e.elim .inl (fun e => .inr (.inr e))))) (fun g e => .inl e)
      have hl' : ∀ g, blk A' = some g → blk sq.A = some g ∨ w.heap.size ≤ g := fun g e => by
        by_cases hlt : g < w2.heap.size
        · exact .inl (hl3 g e hlt)
        · exact .inr (by have := kk_2.size; omega)
      clear hl3 hg3 kn3 po k6 kk_2 b1_2 b2_2 b3_2 nb2 q_2 h4 tS hh z0 z1
      have hlen := q0len
      go_wp2_with fail
      skip
      obtain ⟨we, ee⟩ : ∃ W, W6.drew = W := ⟨_, rfl⟩
      have he : Below W6.heap.size W6 we := by rw [← ee]; exact (Below.refl _ _).drew
      replace q6 := q6.on he
      replace b1 := b1.on he
      replace b2 := b2.on he
      replace kz := kz.next (kept_below (fun _ => False) he) (fun g e => e.elim)
      have kE : Kept (fun g => g = b) we we := Kept.refl _ _
      have nb1 : p1 ≠ b := fun e => q6.map.ne b1 e
      have nb2 : p2 ≠ b := fun e => q6.map.ne b2 e
      have nbm : m ≠ b := fun e => q6.map.ne q6.mem e
      have nbh : h ≠ b := fun e => q6.map.ne q6.held e
      have tE : ∀ W, Kept (fun g => g = b) we W → W.cell? ⟨m, 0, none⟩ = some (.pointer (some ⟨h, 0, none⟩)) ∧ W.cell? ⟨h, 1, none⟩ = some (.map (some b)) := fun W hW => ⟨(q6.mem.kept hW nbm).cell 0, (q6.held.kept hW nbh).cell 1⟩
      refine wp_region_noPanic ?_
      refine wp_region_held_drew (S := (fun W => Kept (fun g => g = b) we W)) (by kernel_rfl) (by rw [ee]; exact kE) (fun hHeld => ?_)
      rw [ee] at hHeld ⊢
      refine wpAnyH_take (i := 0) (oi := ⟨some 35, _, _, _, _, _⟩) (v := ?_) rfl (by kernel_rfl) (by kernel_rfl) (by kernel_rfl) (fun _ _ _ h => h) (Or.inl ⟨by rfl, ?_⟩) (by assumption) ?_
      rotate_left 1
      · (intro W hSw; go_simp <;> with_reducible rfl)
      try simp only [Act.put, List.setIfInBounds_toArray, List.set_cons_zero, List.set_cons_succ]
      refine wpAnyH_take (i := 1) (oi := ⟨some 36, _, _, _, _, _⟩) (v := ?_) rfl (by kernel_rfl) (by kernel_rfl) (by kernel_rfl) (fun _ _ _ h => h) (Or.inl ⟨by rfl, ?_⟩) (by assumption) ?_
      rotate_left 1
      · (intro W hSw; go_simp <;> with_reducible rfl)
      try simp only [Act.put, List.setIfInBounds_toArray, List.set_cons_zero, List.set_cons_succ]
      refine wpAnyH_take (i := 2) (oi := ⟨some 37, _, _, _, _, _⟩) (v := ?_) rfl (by kernel_rfl) (by kernel_rfl) (by kernel_rfl) (fun _ _ _ h => h) (Or.inl ⟨by rfl, ?_⟩) (by assumption) ?_
      rotate_left 1
      · (intro W hSw; go_simp <;> with_reducible rfl)
      try simp only [Act.put, List.setIfInBounds_toArray, List.set_cons_zero, List.set_cons_succ]
      refine wpAnyH_take (i := 3) (oi := ⟨some 38, _, _, _, _, _⟩) (v := ?_) rfl (by kernel_rfl) (by kernel_rfl) (by kernel_rfl) (fun _ _ _ h => h) (Or.inl ⟨by rfl, ?_⟩) (by assumption) ?_
      rotate_left 1
      · (intro W hSw; obtain ⟨q0, q1⟩ := tE W hSw; go_simp <;> with_reducible rfl)
      try simp only [Act.put, List.setIfInBounds_toArray, List.set_cons_zero, List.set_cons_succ]
      refine wpAnyH_take (i := 4) (oi := ⟨some 39, _, _, _, _, _⟩) (v := ?_) rfl (by kernel_rfl) (by kernel_rfl) (by kernel_rfl) (fun _ _ _ h => h) (Or.inl ⟨by rfl, ?_⟩) (by assumption) ?_
      rotate_left 1
      · (intro W hSw; go_simp <;> with_reducible rfl)
      try simp only [Act.put, List.setIfInBounds_toArray, List.set_cons_zero, List.set_cons_succ]
      refine wpAnyH_take (i := 5) (oi := ⟨some 40, _, _, _, _, _⟩) (v := ?_) rfl (by kernel_rfl) (by kernel_rfl) (by kernel_rfl) (fun _ _ _ h => h) (Or.inl ⟨by rfl, ?_⟩) (by assumption) ?_
      rotate_left 1
      · (intro W hSw; go_simp <;> with_reducible rfl)
      try simp only [Act.put, List.setIfInBounds_toArray, List.set_cons_zero, List.set_cons_succ]
      refine wpAnyH_take (i := 6) (oi := ⟨some 41, _, _, _, _, _⟩) (v := ?_) rfl (by kernel_rfl) (by kernel_rfl) (by kernel_rfl) (fun _ _ _ h => h) (Or.inl ⟨by rfl, ?_⟩) (by assumption) ?_
      rotate_left 1
      · (intro W hSw; obtain ⟨q0, q1⟩ := tE W hSw; go_simp <;> with_reducible rfl)
      try simp only [Act.put, List.setIfInBounds_toArray, List.set_cons_zero, List.set_cons_succ]
      refine wpAnyH_take (i := 7) (oi := ⟨some 42, _, _, _, _, _⟩) (v := .agg (List.toArray (x.cs))) rfl (by kernel_rfl) (by kernel_rfl) (by kernel_rfl) (fun _ _ _ h => h) (yieldsIf_load_mid (by rfl) 27 (.tmp 4) rfl p1 (0) rfl (x.cs) _ (fun W hW => range_part (b1.kept hW nb1) 0 x.cs rfl) Try.underlying27 rfl size27) (by assumption) ?_
      try simp only [Act.put, List.setIfInBounds_toArray, List.set_cons_zero, List.set_cons_succ]
      refine wpAnyH_take (i := 8) (oi := ⟨some 43, _, _, _, _, _⟩) (v := .agg (List.toArray (x.cs))) rfl (by kernel_rfl) (by kernel_rfl) (by kernel_rfl) (fun _ _ _ h => h) (yieldsIf_load_mid (by rfl) 27 (.tmp 4) rfl p1 (0) rfl (x.cs) _ (fun W hW => range_part (b1.kept hW nb1) 0 x.cs rfl) Try.underlying27 rfl size27) (by assumption) ?_
      try simp only [Act.put, List.setIfInBounds_toArray, List.set_cons_zero, List.set_cons_succ]
      refine wpAnyH_take (i := 9) (oi := ⟨some 44, _, _, _, _, _⟩) (v := .agg (List.toArray (v.cs))) rfl (by kernel_rfl) (by kernel_rfl) (by kernel_rfl) (fun _ _ _ h => h) (yieldsIf_load_mid (by rfl) 35 (.tmp 5) rfl p2 (0) rfl (v.cs) _ (fun W hW => range_part (b2.kept hW nb2) 0 v.cs rfl) Try.underlying35 rfl size35) (by assumption) ?_
      try simp only [Act.put, List.setIfInBounds_toArray, List.set_cons_zero, List.set_cons_succ]
      refine wpAnyH_ready (rs := [10]) (by kernel_rfl) (by simp) ?_
      refine AllReadyH.cons (o := ⟨some 45, _, _, _, _, _⟩) rfl (fun K hK => ?_) AllReadyH.nil
      go_simp
      refine (fit_any x v hx8 we).mono ?_
      rintro e w1 ⟨rfl, hb1⟩
      have q6_1 := q6.on hb1
      have kz_1 := kz.next (kept_below (fun _ => False) hb1) (fun g e => e.elim)
      have S1 : (fun W => Kept (fun g => g = b) we W) w1 := Kept.next kE (kept_below (fun _ => False) hb1) (fun _ h => h.elim)
      refine hK.out _ _ S1 (fun h1 => ?_)
      clear hHeld hK K
      try simp only [Act.put, List.setIfInBounds_toArray, List.set_cons_zero, List.set_cons_succ]
      refine wpAnyH_ready (rs := [11]) (by kernel_rfl) (by simp) ?_
      refine AllReadyH.cons (o := ⟨none, _, _, _, _, _⟩) rfl (fun K hK => ?_) AllReadyH.nil
      rw [if_pos (by rfl)]
      refine wp_update (.tmp 41) (.tmp 42) (.tmp 45) rfl rfl rfl rfl q6_1.map hx (by rw [memF_some]; exact Hth.out) (by unfold maxLen; omega) ?_
      intro w2 hm2 hg2 hs2
      have S2 : (fun W => Kept (fun g => g = b) we W) w2 := S1.next (kept_grown hg2) (fun g e => .inl (by injection e with e; exact e.symm))
      refine hK.out _ _ S2 (fun h2 => ?_)
      clear h1 hK K
      try simp only [Act.put]
      refine wpAnyH_done (by kernel_rfl) ?_ _
      refine NoPanic.normal ?_
      go_wp2_with fail
      go_ret
      have q7 := q6_1.turn hm2 hg2
      refine ⟨rfl, ⟨A', c', ⟨⟨q7.mem, q7.held, q7.map.same (fun y _ => (memF_put ⟨x, v⟩ Hth.out y).symm), q7.places, by rw [past_snoc, ← getP_there Hth.out]; exact q7.past⟩, fun e he => ?_⟩, hl', kz_1.next (kept_grown hg2) (fun g e => .inl (.inr (.inl (by injection e with e; exact e.symm))))⟩⟩
      rcases List.mem_append.1 he with h0 | h0
      · exact q0all e h0
      · rw [List.mem_singleton.1 h0]
        exact Hth.out
    · go_simp
      obtain ⟨w5, ew5⟩ : ∃ zz, zz = wd.alloc (.cells #[.int .i64 x.k, .int .i64 x.i, .int .i64 x.j, .int .i64 (getP p L x).n, .int .i64 (getP p L x).c, .int .i64 (getP p L x).g] 74) := ⟨_, rfl⟩
      have hb5 : Below wd.heap.size wd w5 := by rw [ew5]; exact (Below.refl _ _).alloc (Nat.le_refl _) _
      rw [← ew5]
      have nb5 : Blk w5 wd.heap.size 74 ({ x := x, v := getP p L x } : Ch).cs.toArray := by rw [ew5]; exact blk_new _ _ 74 _ rfl
      have b1_5 := b1.on hb5
      have b2_5 := b2.on hb5
      have b3_5 := b3.on hb5
      have q_5 := q.on hb5
      have kk_5 := kk.trans (hb5.mono kk.size)
      have S5 : (fun W => Kept (fun g => g = h ∨ blk sq.A = some g) wd W) w5 := Kept.next kS (kept_below (fun _ => False) hb5) (fun _ h => h.elim)
      refine hK.out _ _ S5 (fun h5 => ?_)
      clear hHeld hK K ew5
      try simp only [Act.put, List.setIfInBounds_toArray, List.set_cons_zero, List.set_cons_succ]
      refine wpAnyH_ready (rs := [10]) (by kernel_rfl) (by simp) ?_
      refine AllReadyH.cons (o := ⟨some 27, _, _, _, _, _⟩) rfl (fun K hK => ?_) AllReadyH.nil
      rw [if_pos (by rfl)]
      have z0 := q_5.held.cell 2
      go_simp
      clear z0
      refine hK.out _ _ S5 (fun h6 => ?_)
      clear h5 hK K
      try simp only [Act.put, List.setIfInBounds_toArray, List.set_cons_zero, List.set_cons_succ]
      refine wpAnyH_ready (rs := [15]) (by kernel_rfl) (by simp) ?_
      refine AllReadyH.cons (o := ⟨some 32, _, _, _, _, _⟩) rfl (fun K hK => ?_) AllReadyH.nil
      rw [if_pos (by rfl)]
      refine wp_append_C (.tmp 27) (.tmp 31) rfl rfl q_5.past (by have := q_5.len; omega) (Nat.zero_le _) ⟨wd.heap.size, 0, none⟩ 1 ({ x := x, v := getP p L x } : Ch) rfl (fun j u hu => by rw [plain_add]; exact range_blk nb5 j u hu) ?_
      intro A' c' w7 po hg7 hl7
      have kn7 := kept_grown hg7
      have S7 : (fun W => Kept (fun g => g = h ∨ blk sq.A = some g) wd W) w7 := S5.next kn7 (fun g e => .inl (.inr e))
      refine hK.out _ _ S7 (fun h7 => ?_)
      clear h6 hK K
      try simp only [Act.put, List.setIfInBounds_toArray, List.set_cons_zero, List.set_cons_succ]
      refine wpAnyH_take (i := 16) (oi := ⟨some 33, _, _, _, _, _⟩) (v := ?_) rfl (by kernel_rfl) (by kernel_rfl) (by kernel_rfl) (fun _ _ _ h => h) (Or.inl ⟨by rfl, ?_⟩) (by assumption) ?_
      rotate_left 1
      · (intro W hSw; go_simp <;> with_reducible rfl)
      try simp only [Act.put, List.setIfInBounds_toArray, List.set_cons_zero, List.set_cons_succ]
      refine wpAnyH_take (i := 17) (oi := ⟨some 34, _, _, _, _, _⟩) (v := ?_) rfl (by kernel_rfl) (by kernel_rfl) (by kernel_rfl) (fun _ _ _ h => h) (Or.inl ⟨by rfl, ?_⟩) (by assumption) ?_
      rotate_left 1
      · (intro W hSw; go_simp <;> with_reducible rfl)
      try simp only [Act.put, List.setIfInBounds_toArray, List.set_cons_zero, List.set_cons_succ]
      refine wpAnyH_ready (rs := [18]) (by kernel_rfl) (by simp) ?_
      refine AllReadyH.cons (o := ⟨none, _, _, _, _, _⟩) rfl (fun K hK => ?_) AllReadyH.nil
      rw [if_pos (by rfl)]
      have hh := (q_5.held).kept kn7 (fun e => q_5.past.box q_5.held (by decide) e.symm)
      have z0 := hh.cell 2
      have z1 := hh.free 2
      go_simp
      refine hK.out _ _ (S7.next (kept_cell _ ⟨h, 2, none⟩ _) (fun g e => .inl (.inl e))) (fun h8 => ?_)
      clear h7 hK K
      try simp only [Act.put]
      refine wpAnyH_done (by kernel_rfl) ?_ _
      refine NoPanic.normal ?_
      obtain ⟨W6, e6⟩ : ∃ W, w7.setCell ⟨h, 2, none⟩ (.slice A' (sq.n + 1) c') = W := ⟨_, rfl⟩
      rw [e6]
      rw [e6] at h8
      obtain ⟨q6, k6⟩ := q_5.g.push kn7 po e6
      have b1 := (b1_5).kept k6 (q_5.noturn b1_5 (by decide))
      have b2 := (b2_5).kept k6 (q_5.noturn b2_5 (by decide))
      have kz : Kept (turned h b sq) w W6 := (kept_below _ kk_5).next (k6.more (fun g e => (show turned h b sq g from e.elim .inl (fun e => .inr (.inr e))))) (fun g e => .inl e)
      have hl' : ∀ g, blk A' = some g → blk sq.A = some g ∨ w.heap.size ≤ g := fun g e => by
        by_cases hlt : g < w5.heap.size
        · exact .inl (hl7 g e hlt)
        · exact .inr (by have := kk_5.size; omega)
      clear hl7 hg7 kn7 po k6 b3_5 kk_5 nb5 q_5 b1_5 b2_5 h8 tS hh z0 z1
      have hlen := q0len
      go_wp2_with fail
      skip
      obtain ⟨we, ee⟩ : ∃ W, W6.drew = W := ⟨_, rfl⟩
      have he : Below W6.heap.size W6 we := by rw [← ee]; exact (Below.refl _ _).drew
      replace q6 := q6.on he
      replace b1 := b1.on he
      replace b2 := b2.on he
      replace kz := kz.next (kept_below (fun _ => False) he) (fun g e => e.elim)
      have kE : Kept (fun g => g = b) we we := Kept.refl _ _
      have nb1 : p1 ≠ b := fun e => q6.map.ne b1 e
      have nb2 : p2 ≠ b := fun e => q6.map.ne b2 e
      have nbm : m ≠ b := fun e => q6.map.ne q6.mem e
      have nbh : h ≠ b := fun e => q6.map.ne q6.held e
      have tE : ∀ W, Kept (fun g => g = b) we W → W.cell? ⟨m, 0, none⟩ = some (.pointer (some ⟨h, 0, none⟩)) ∧ W.cell? ⟨h, 1, none⟩ = some (.map (some b)) := fun W hW => ⟨(q6.mem.kept hW nbm).cell 0, (q6.held.kept hW nbh).cell 1⟩
      refine wp_region_noPanic ?_
      refine wp_region_held_drew (S := (fun W => Kept (fun g => g = b) we W)) (by kernel_rfl) (by rw [ee]; exact kE) (fun hHeld => ?_)
      rw [ee] at hHeld ⊢
      refine wpAnyH_take (i := 0) (oi := ⟨some 35, _, _, _, _, _⟩) (v := ?_) rfl (by kernel_rfl) (by kernel_rfl) (by kernel_rfl) (fun _ _ _ h => h) (Or.inl ⟨by rfl, ?_⟩) (by assumption) ?_
      rotate_left 1
      · (intro W hSw; go_simp <;> with_reducible rfl)
      try simp only [Act.put, List.setIfInBounds_toArray, List.set_cons_zero, List.set_cons_succ]
      refine wpAnyH_take (i := 1) (oi := ⟨some 36, _, _, _, _, _⟩) (v := ?_) rfl (by kernel_rfl) (by kernel_rfl) (by kernel_rfl) (fun _ _ _ h => h) (Or.inl ⟨by rfl, ?_⟩) (by assumption) ?_
      rotate_left 1
      · (intro W hSw; go_simp <;> with_reducible rfl)
      try simp only [Act.put, List.setIfInBounds_toArray, List.set_cons_zero, List.set_cons_succ]
      refine wpAnyH_take (i := 2) (oi := ⟨some 37, _, _, _, _, _⟩) (v := ?_) rfl (by kernel_rfl) (by kernel_rfl) (by kernel_rfl) (fun _ _ _ h => h) (Or.inl ⟨by rfl, ?_⟩) (by assumption) ?_
      rotate_left 1
      · (intro W hSw; go_simp <;> with_reducible rfl)
      try simp only [Act.put, List.setIfInBounds_toArray, List.set_cons_zero, List.set_cons_succ]
      refine wpAnyH_take (i := 3) (oi := ⟨some 38, _, _, _, _, _⟩) (v := ?_) rfl (by kernel_rfl) (by kernel_rfl) (by kernel_rfl) (fun _ _ _ h => h) (Or.inl ⟨by rfl, ?_⟩) (by assumption) ?_
      rotate_left 1
      · (intro W hSw; obtain ⟨q0, q1⟩ := tE W hSw; go_simp <;> with_reducible rfl)
      try simp only [Act.put, List.setIfInBounds_toArray, List.set_cons_zero, List.set_cons_succ]
      refine wpAnyH_take (i := 4) (oi := ⟨some 39, _, _, _, _, _⟩) (v := ?_) rfl (by kernel_rfl) (by kernel_rfl) (by kernel_rfl) (fun _ _ _ h => h) (Or.inl ⟨by rfl, ?_⟩) (by assumption) ?_
      rotate_left 1
      · (intro W hSw; go_simp <;> with_reducible rfl)
      try simp only [Act.put, List.setIfInBounds_toArray, List.set_cons_zero, List.set_cons_succ]
      refine wpAnyH_take (i := 5) (oi := ⟨some 40, _, _, _, _, _⟩) (v := ?_) rfl (by kernel_rfl) (by kernel_rfl) (by kernel_rfl) (fun _ _ _ h => h) (Or.inl ⟨by rfl, ?_⟩) (by assumption) ?_
      rotate_left 1
      · (intro W hSw; go_simp <;> with_reducible rfl)
      try simp only [Act.put, List.setIfInBounds_toArray, List.set_cons_zero, List.set_cons_succ]
      refine wpAnyH_take (i := 6) (oi := ⟨some 41, _, _, _, _, _⟩) (v := ?_) rfl (by kernel_rfl) (by kernel_rfl) (by kernel_rfl) (fun _ _ _ h => h) (Or.inl ⟨by rfl, ?_⟩) (by assumption) ?_
      rotate_left 1
      · (intro W hSw; obtain ⟨q0, q1⟩ := tE W hSw; go_simp <;> with_reducible rfl)
      try simp only [Act.put, List.setIfInBounds_toArray, List.set_cons_zero, List.set_cons_succ]
      refine wpAnyH_take (i := 7) (oi := ⟨some 42, _, _, _, _, _⟩) (v := .agg (List.toArray (x.cs))) rfl (by kernel_rfl) (by kernel_rfl) (by kernel_rfl) (fun _ _ _ h => h) (yieldsIf_load_mid (by rfl) 27 (.tmp 4) rfl p1 (0) rfl (x.cs) _ (fun W hW => range_part (b1.kept hW nb1) 0 x.cs rfl) Try.underlying27 rfl size27) (by assumption) ?_
      try simp only [Act.put, List.setIfInBounds_toArray, List.set_cons_zero, List.set_cons_succ]
      refine wpAnyH_take (i := 8) (oi := ⟨some 43, _, _, _, _, _⟩) (v := .agg (List.toArray (x.cs))) rfl (by kernel_rfl) (by kernel_rfl) (by kernel_rfl) (fun _ _ _ h => h) (yieldsIf_load_mid (by rfl) 27 (.tmp 4) rfl p1 (0) rfl (x.cs) _ (fun W hW => range_part (b1.kept hW nb1) 0 x.cs rfl) Try.underlying27 rfl size27) (by assumption) ?_
      try simp only [Act.put, List.setIfInBounds_toArray, List.set_cons_zero, List.set_cons_succ]
      refine wpAnyH_take (i := 9) (oi := ⟨some 44, _, _, _, _, _⟩) (v := .agg (List.toArray (v.cs))) rfl (by kernel_rfl) (by kernel_rfl) (by kernel_rfl) (fun _ _ _ h => h) (yieldsIf_load_mid (by rfl) 35 (.tmp 5) rfl p2 (0) rfl (v.cs) _ (fun W hW => range_part (b2.kept hW nb2) 0 v.cs rfl) Try.underlying35 rfl size35) (by assumption) ?_
      try simp only [Act.put, List.setIfInBounds_toArray, List.set_cons_zero, List.set_cons_succ]
      refine wpAnyH_ready (rs := [10]) (by kernel_rfl) (by simp) ?_
      refine AllReadyH.cons (o := ⟨some 45, _, _, _, _, _⟩) rfl (fun K hK => ?_) AllReadyH.nil
      go_simp
      refine (fit_any x v hx8 we).mono ?_
      rintro e w1 ⟨rfl, hb1⟩
      have q6_1 := q6.on hb1
      have kz_1 := kz.next (kept_below (fun _ => False) hb1) (fun g e => e.elim)
      have S1 : (fun W => Kept (fun g => g = b) we W) w1 := Kept.next kE (kept_below (fun _ => False) hb1) (fun _ h => h.elim)
      refine hK.out _ _ S1 (fun h1 => ?_)
      clear hHeld hK K
      try simp only [Act.put, List.setIfInBounds_toArray, List.set_cons_zero, List.set_cons_succ]
      refine wpAnyH_ready (rs := [11]) (by kernel_rfl) (by simp) ?_
      refine AllReadyH.cons (o := ⟨none, _, _, _, _, _⟩) rfl (fun K hK => ?_) AllReadyH.nil
      rw [if_pos (by rfl)]
      refine wp_update (.tmp 41) (.tmp 42) (.tmp 45) rfl rfl rfl rfl q6_1.map hx (by rw [memF_some]; exact Hth.out) (by unfold maxLen; omega) ?_
      intro w2 hm2 hg2 hs2
      have S2 : (fun W => Kept (fun g => g = b) we W) w2 := S1.next (kept_grown hg2) (fun g e => .inl (by injection e with e; exact e.symm))
      refine hK.out _ _ S2 (fun h2 => ?_)
      clear h1 hK K
      try simp only [Act.put]
      refine wpAnyH_done (by kernel_rfl) ?_ _
      refine NoPanic.normal ?_
      go_wp2_with fail
      go_ret
      have q7 := q6_1.turn hm2 hg2
      refine ⟨rfl, ⟨A', c', ⟨⟨q7.mem, q7.held, q7.map.same (fun y _ => (memF_put ⟨x, v⟩ Hth.out y).symm), q7.places, by rw [past_snoc, ← getP_there Hth.out]; exact q7.past⟩, fun e he => ?_⟩, hl', kz_1.next (kept_grown hg2) (fun g e => .inl (.inr (.inl (by injection e with e; exact e.symm))))⟩⟩
      rcases List.mem_append.1 he with h0 | h0
      · exact q0all e h0
      · rw [List.mem_singleton.1 h0]
        exact Hth.out
end Go.Proofs.Ytlajjadpcaobiaa
