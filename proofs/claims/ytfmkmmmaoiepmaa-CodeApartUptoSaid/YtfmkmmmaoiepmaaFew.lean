/- A state of which not more is looked at. Conditions: lists have room. -/
import Derived.Test.YtfmkmmmaoiepmaaCPut
import Derived.Deep.DeepCutAuto
namespace Go.Proofs.Ytfmkmmmaoiepmaa
set_option linter.unusedSimpArgs false
set_option linter.unusedVariables false
open Go.RowKit Go.ChangeShapes Go.WideShapes

/-- A slice of at most so many. -/
def Sl.cut (s : Sl) (m : Nat) : Sl := ⟨s.A, min s.n m, s.cap⟩
theorem cut_sees {α : Type} {f : α → List Value} {k : Nat} (hf : ∀ x, (f x).length = k) (hk : 0 < k) {w : World} {s : Sl} {l : List α} (h : Sees w k s.A s.n s.cap (l.flatMap f)) (m : Nat) : Sees w k (s.cut m).A (s.cut m).n (s.cut m).cap ((l.take m).flatMap f) := by
  have hl := sees_len hf hk h
  have e : l.take m = l.take (min s.n m) := by
    rcases Nat.le_total s.n m with h | h
    · rw [Nat.min_eq_left h, List.take_of_length_le (by omega), List.take_of_length_le (by omega)]
    · rw [Nat.min_eq_right h]
  rw [e]
  exact Sees.first hf h (min s.n m) (Nat.min_le_left _ _) hk
def few1 (s : St) : St := { s with th := s.th.cut 4 }
def few2 (s : St) : St := { few1 s with bu := s.bu.cut 4 }
def few3 (s : St) : St := { few2 s with ro := s.ro.cut 6 }
def few4 (s : St) : St := { few3 s with sl := s.sl.cut 8 }
def few5 (s : St) : St := { few4 s with ce := s.ce.cut 6 }
def fewS (s : St) : St := { few5 s with fr := s.fr.cut 8 }
def Sc.few (c : Sc) : Sc := { c with th := c.th.take 4, bu := c.bu.take 4, ro := c.ro.take 6, sl := c.sl.take 8, ce := c.ce.take 6, fr := c.fr.take 8 }
theorem few_stat {w : World} {s : St} {c : Sc} {bl : List Bu} (h : Stat w s c bl) : Stat w (fewS s) c.few (bl.take 4) :=
  ⟨⟨cut_sees (f := fun t : Tc => t.x.cs) (fun t => Th.len t.x) (by decide) h.th.sees 4, fun t ht => h.th.reads t (List.mem_of_mem_take ht)⟩,
   ⟨cut_sees (f := fun b : Bu => [b.1.v]) (fun _ => rfl) (by decide) h.bu.sees 4, fun b hb => h.bu.reads b (List.mem_of_mem_take hb)⟩,
   by show c.bu.take 4 = _; rw [h.eb, List.map_take],
   ⟨cut_sees Wd.len (by decide) h.sh.ro 6, cut_sees Wd.len (by decide) h.sh.sl 8, cut_sees Cel.len (by decide) h.sh.ce 6, cut_sees int1_len (by decide) h.sh.fr 8, h.sh.ep, h.sh.ma, h.sh.co⟩⟩
/-- Room of a state's lists. -/
structure St.Ok (s : St) : Prop where
  th : s.th.n ≤ s.th.cap ∧ s.th.cap ≤ maxLen ∧ (s.th.A = none → s.th.cap = 0)
  bu : s.bu.n ≤ s.bu.cap ∧ s.bu.cap ≤ maxLen ∧ (s.bu.A = none → s.bu.cap = 0)
  ro : s.ro.n ≤ s.ro.cap ∧ s.ro.cap ≤ maxLen ∧ (s.ro.A = none → s.ro.cap = 0)
  sl : s.sl.n ≤ s.sl.cap ∧ s.sl.cap ≤ maxLen ∧ (s.sl.A = none → s.sl.cap = 0)
  ce : s.ce.n ≤ s.ce.cap ∧ s.ce.cap ≤ maxLen ∧ (s.ce.A = none → s.ce.cap = 0)
  fr : s.fr.n ≤ s.fr.cap ∧ s.fr.cap ≤ maxLen ∧ (s.fr.A = none → s.fr.cap = 0)
theorem Stat.ok {w : World} {s : St} {c : Sc} {bl : List Bu} (h : Stat w s c bl) : s.Ok :=
  ⟨⟨h.th.sees.room, h.th.sees.most, h.th.sees.none_⟩, ⟨h.bu.sees.room, h.bu.sees.most, h.bu.sees.none_⟩, ⟨Sees.room h.sh.ro, Sees.most h.sh.ro, Sees.none_ h.sh.ro⟩, ⟨Sees.room h.sh.sl, Sees.most h.sh.sl, Sees.none_ h.sh.sl⟩, ⟨Sees.room h.sh.ce, Sees.most h.sh.ce, Sees.none_ h.sh.ce⟩, ⟨Sees.room h.sh.fr, Sees.most h.sh.fr, Sees.none_ h.sh.fr⟩⟩
theorem near_cut (n m k : Nat) (hk : k = min n m) (w : World) : Calls Try.prog 21 #[.int .i64 (n : Int), .int .i64 0, .int .i64 (m : Int)] w fun e w' => e = .returned (.int .i64 (k : Int)) ∧ w = w' := by
  have t1 : decide ((n : Int) < 0) = false := decide_eq_false (by omega)
  rcases Nat.lt_or_ge m n with h | h
  · have t2 : decide ((m : Int) < (n : Int)) = true := decide_eq_true (by omega)
    have t3 : decide (m < n) = true := decide_eq_true h
    obtain rfl : k = m := by omega
    clear hk h
    go_enter Try.func21, Try.ntmps21
    go_wp2
    go_ret
    exact ⟨rfl, rfl⟩
  · have t2 : decide ((m : Int) < (n : Int)) = false := decide_eq_false (by omega)
    have t3 : decide (m < n) = false := decide_eq_false (by omega)
    obtain rfl : k = n := by omega
    clear hk h
    go_enter Try.func21, Try.ntmps21
    go_wp2
    go_ret
    exact ⟨rfl, rfl⟩
theorem under22 : Try.prog.underlying 22 = some (.slice (Try.prog.elem 22)) := by kernel_rfl
theorem sizeE22 (w : World) : (sizeOf (Try.prog.elem 22)).run Try.prog w = .ok 22 w := by kernel_rfl
theorem upto22 (A : Option Addr) (n cap k : Nat) (hk : k ≤ cap) (hA : A = none → cap = 0) (w : World) :
    (Instr.slice 22 (.slice A n cap) none (some (.int .i64 (k : Int))) none).run Try.prog w = .ok (.slice A k cap) w := by
  rw [run_slice_h w 22 _ n cap under22 .i64 _ (by omega) (by omega), sizeE22]
  simp only [Result.andThen, sliced, Int.toNat_natCast, Nat.sub_zero, Nat.zero_mul]
  rcases A with _ | ad
  · have := hA rfl
    subst this
    obtain rfl : k = 0 := by omega
    rfl
  · split <;> simp [Addr.add]
theorem under23 : Try.prog.underlying 23 = some (.slice (Try.prog.elem 23)) := by kernel_rfl
theorem sizeE23 (w : World) : (sizeOf (Try.prog.elem 23)).run Try.prog w = .ok 1 w := by kernel_rfl
theorem upto23 (A : Option Addr) (n cap k : Nat) (hk : k ≤ cap) (hA : A = none → cap = 0) (w : World) :
    (Instr.slice 23 (.slice A n cap) none (some (.int .i64 (k : Int))) none).run Try.prog w = .ok (.slice A k cap) w := by
  rw [run_slice_h w 23 _ n cap under23 .i64 _ (by omega) (by omega), sizeE23]
  simp only [Result.andThen, sliced, Int.toNat_natCast, Nat.sub_zero, Nat.zero_mul]
  rcases A with _ | ad
  · have := hA rfl
    subst this
    obtain rfl : k = 0 := by omega
    rfl
  · split <;> simp [Addr.add]
theorem under24 : Try.prog.underlying 24 = some (.slice (Try.prog.elem 24)) := by kernel_rfl
theorem sizeE24 (w : World) : (sizeOf (Try.prog.elem 24)).run Try.prog w = .ok 3 w := by kernel_rfl
theorem upto24 (A : Option Addr) (n cap k : Nat) (hk : k ≤ cap) (hA : A = none → cap = 0) (w : World) :
    (Instr.slice 24 (.slice A n cap) none (some (.int .i64 (k : Int))) none).run Try.prog w = .ok (.slice A k cap) w := by
  rw [run_slice_h w 24 _ n cap under24 .i64 _ (by omega) (by omega), sizeE24]
  simp only [Result.andThen, sliced, Int.toNat_natCast, Nat.sub_zero, Nat.zero_mul]
  rcases A with _ | ad
  · have := hA rfl
    subst this
    obtain rfl : k = 0 := by omega
    rfl
  · split <;> simp [Addr.add]
theorem under25 : Try.prog.underlying 25 = some (.slice (Try.prog.elem 25)) := by kernel_rfl
theorem sizeE25 (w : World) : (sizeOf (Try.prog.elem 25)).run Try.prog w = .ok 10 w := by kernel_rfl
theorem upto25 (A : Option Addr) (n cap k : Nat) (hk : k ≤ cap) (hA : A = none → cap = 0) (w : World) :
    (Instr.slice 25 (.slice A n cap) none (some (.int .i64 (k : Int))) none).run Try.prog w = .ok (.slice A k cap) w := by
  rw [run_slice_h w 25 _ n cap under25 .i64 _ (by omega) (by omega), sizeE25]
  simp only [Result.andThen, sliced, Int.toNat_natCast, Nat.sub_zero, Nat.zero_mul]
  rcases A with _ | ad
  · have := hA rfl
    subst this
    obtain rfl : k = 0 := by omega
    rfl
  · split <;> simp [Addr.add]
theorem under26 : Try.prog.underlying 26 = some (.slice (Try.prog.elem 26)) := by kernel_rfl
theorem sizeE26 (w : World) : (sizeOf (Try.prog.elem 26)).run Try.prog w = .ok 1 w := by kernel_rfl
theorem upto26 (A : Option Addr) (n cap k : Nat) (hk : k ≤ cap) (hA : A = none → cap = 0) (w : World) :
    (Instr.slice 26 (.slice A n cap) none (some (.int .i64 (k : Int))) none).run Try.prog w = .ok (.slice A k cap) w := by
  rw [run_slice_h w 26 _ n cap under26 .i64 _ (by omega) (by omega), sizeE26]
  simp only [Result.andThen, sliced, Int.toNat_natCast, Nat.sub_zero, Nat.zero_mul]
  rcases A with _ | ad
  · have := hA rfl
    subst this
    obtain rfl : k = 0 := by omega
    rfl
  · split <;> simp [Addr.add]
set_option maxRecDepth 100000 in
set_option maxHeartbeats 4000000 in
theorem few_any (s : St) (hok : s.Ok) (w : World) : Calls Try.prog 7 #[.agg s.cs.toArray] w fun e w' => e = .returned (.agg (fewS s).cs.toArray) ∧ Below w.heap.size w w' := by
  obtain ⟨p1, f1⟩ : ∃ p, w.heap.size = p := ⟨_, rfl⟩
  obtain ⟨W1, ea1⟩ : ∃ W, w.alloc (.cells s.cs.toArray 29) = W := ⟨_, rfl⟩
  have ka1 : Below w.heap.size w W1 := by rw [← ea1]; exact (Below.refl _ w).alloc (Nat.le_refl _) _
  have b1 : Blk W1 p1 29 s.cs.toArray := by rw [← ea1]; exact blk_new w _ 29 _ f1
  have kk : Below w.heap.size w W1 := ka1
  have hp1 : w.heap.size ≤ p1 := Nat.le_of_eq f1
  clear ka1
  obtain ⟨p2, f2⟩ : ∃ p, W1.heap.size = p := ⟨_, rfl⟩
  obtain ⟨W2, ea2⟩ : ∃ W, W1.alloc (.cells #[.slice none 0 0, .slice none 0 0, .slice none 0 0, .slice none 0 0, .slice none 0 0, .slice none 0 0, .int .i64 0, .slice none 0 0, .slice none 0 0] 29) = W := ⟨_, rfl⟩
  have ka2 : Below W1.heap.size W1 W2 := by rw [← ea2]; exact (Below.refl _ W1).alloc (Nat.le_refl _) _
  have b2 : Blk W2 p2 29 #[.slice none 0 0, .slice none 0 0, .slice none 0 0, .slice none 0 0, .slice none 0 0, .slice none 0 0, .int .i64 0, .slice none 0 0, .slice none 0 0] := by rw [← ea2]; exact blk_new W1 _ 29 _ f2
  have q1_2 : p1 < p2 := by rw [← f2]; exact b1.lt
  replace b1 := b1.on ka2
  have kk0 := kk
  replace kk := kk.trans (ka2.mono kk.size)
  have hp2 : w.heap.size ≤ p2 := by rw [← f2]; exact kk0.size
  clear ka2 kk0
  go_enter Try.func7, Try.ntmps7
  go_wp2_with fail
  go_cut [] (fun wx => Below w.heap.size w wx ∧ Blk wx p1 29 (few1 s).cs.toArray ∧ Blk wx p2 29 #[.slice none 0 0, .slice none 0 0, .slice none 0 0, .slice none 0 0, .slice none 0 0, .slice none 0 0, .int .i64 0, .slice none 0 0, .slice none 0 0])
  case first =>
    obtain ⟨wd, ed⟩ : ∃ W, W2.drew = W := ⟨_, rfl⟩
    have hd : Below W2.heap.size W2 wd := by rw [← ed]; exact (Below.refl _ _).drew
    replace b1 := b1.on hd
    replace b2 := b2.on hd
    replace kk := kk.trans (hd.mono kk.size)
    clear hd
    have kS : Kept (fun g => g = p1) wd wd := Kept.refl _ _
    obtain ⟨m, em⟩ : ∃ m, min s.th.n 4 = m := ⟨_, rfl⟩
    have EM := Lib.hid em
    have hm : m ≤ s.th.n := by omega
    obtain ⟨r1, r2, r3⟩ := hok.th
    unfold maxLen at r2
    have hcut := fun W => upto22 s.th.A s.th.n s.th.cap m (by omega) r3 W
    clear em r3
    refine wp_region_noPanic ?_
    refine wp_region_held_drew (S := (fun W => Kept (fun g => g = p1) wd W)) (by kernel_rfl) (by rw [ed]; exact kS) (fun hHeld => ?_)
    rw [ed] at hHeld ⊢
    refine wpAnyH_take (i := 0) (oi := ⟨some 3, _, _, _, _, _⟩) (v := ?_) rfl (by kernel_rfl) (by kernel_rfl) (by kernel_rfl) (fun _ _ _ h => h) (Or.inl ⟨by rfl, ?_⟩) (by assumption) ?_
    rotate_left 1
    · (intro W hSw; go_simp <;> with_reducible rfl)
    try simp only [Act.put, List.setIfInBounds_toArray, List.set_cons_zero, List.set_cons_succ]
    refine wpAnyH_take (i := 2) (oi := ⟨some 5, _, _, _, _, _⟩) (v := ?_) rfl (by kernel_rfl) (by kernel_rfl) (by kernel_rfl) (fun _ _ _ h => h) (Or.inl ⟨by rfl, ?_⟩) (by assumption) ?_
    rotate_left 1
    · (intro W hSw; go_simp <;> with_reducible rfl)
    try simp only [Act.put, List.setIfInBounds_toArray, List.set_cons_zero, List.set_cons_succ]
    refine wpAnyH_ready (rs := [1, 3]) (by kernel_rfl) (by simp) ?_
    refine AllReadyH.cons (o := ⟨some 4, _, _, _, _, _⟩) rfl (fun K hK => ?_) (AllReadyH.cons (o := ⟨some 6, _, _, _, _, _⟩) rfl (fun K hK => ?_) AllReadyH.nil)
    · rw [if_pos (by rfl)]
      have z0 : wd.cell? ⟨p1, 0, none⟩ = some (.slice s.th.A s.th.n s.th.cap) := b1.cell 0
      go_simp
      clear z0
      refine hK.out _ _ kS (fun h1 => ?_)
      clear hHeld hK K
      try simp only [Act.put, List.setIfInBounds_toArray, List.set_cons_zero, List.set_cons_succ]
      refine wpAnyH_ready (rs := [3]) (by kernel_rfl) (by simp) ?_
      refine AllReadyH.cons (o := ⟨some 6, _, _, _, _, _⟩) rfl (fun K hK => ?_) AllReadyH.nil
      rw [if_pos (by rfl)]
      have z0 : wd.cell? ⟨p1, 0, none⟩ = some (.slice s.th.A s.th.n s.th.cap) := b1.cell 0
      go_simp
      clear z0
      refine hK.out _ _ kS (fun h2 => ?_)
      clear h1 hK K
      try simp only [Act.put, List.setIfInBounds_toArray, List.set_cons_zero, List.set_cons_succ]
      refine wpAnyH_take (i := 4) (oi := ⟨some 7, _, _, _, _, _⟩) (v := ?_) rfl (by kernel_rfl) (by kernel_rfl) (by kernel_rfl) (fun _ _ _ h => h) (Or.inl ⟨by rfl, ?_⟩) (by assumption) ?_
      rotate_left 1
      · (intro W hSw; go_simp <;> with_reducible rfl)
      try simp only [Act.put, List.setIfInBounds_toArray, List.set_cons_zero, List.set_cons_succ]
      refine wpAnyH_ready (rs := [5]) (by kernel_rfl) (by simp) ?_
      refine AllReadyH.cons (o := ⟨some 8, _, _, _, _, _⟩) rfl (fun K hK => ?_) AllReadyH.nil
      go_simp
      refine (near_cut s.th.n 4 m EM.out.symm wd).mono ?_
      rintro e w3 ⟨rfl, ew3⟩
      have hb3 : Below wd.heap.size wd w3 := by rw [← ew3]; exact Below.refl _ _
      have b1_3 := b1.on hb3
      have b2_3 := b2.on hb3
      have kk_3 := kk.trans (hb3.mono kk.size)
      have S3 : (fun W => Kept (fun g => g = p1) wd W) w3 := Kept.next kS (kept_below (fun _ => False) hb3) (fun _ h => h.elim)
      refine hK.out _ _ S3 (fun h3 => ?_)
      clear h2 hK K
      try simp only [Act.put, List.setIfInBounds_toArray, List.set_cons_zero, List.set_cons_succ]
      refine wpAnyH_take (i := 6) (oi := ⟨some 9, _, _, _, _, _⟩) (v := ?_) rfl (by kernel_rfl) (by kernel_rfl) (by kernel_rfl) (fun _ _ _ h => h) (Or.inl ⟨by rfl, ?_⟩) (by assumption) ?_
      rotate_left 1
      · (intro W hSw; go_simp <;> with_reducible rfl)
      try simp only [Act.put, List.setIfInBounds_toArray, List.set_cons_zero, List.set_cons_succ]
      refine wpAnyH_take (i := 7) (oi := ⟨some 10, _, _, _, _, _⟩) (v := ?_) rfl (by kernel_rfl) (by kernel_rfl) (by kernel_rfl) (fun _ _ _ h => h) (Or.inl ⟨by rfl, ?_⟩) (by assumption) ?_
      rotate_left 1
      · (intro W hSw; go_simp <;> with_reducible rfl)
      try simp only [Act.put, List.setIfInBounds_toArray, List.set_cons_zero, List.set_cons_succ]
      refine wpAnyH_ready (rs := [8]) (by kernel_rfl) (by simp) ?_
      refine AllReadyH.cons (o := ⟨none, _, _, _, _, _⟩) rfl (fun K hK => ?_) AllReadyH.nil
      rw [if_pos (by rfl)]
      have z0 : w3.cell? ⟨p1, 0, none⟩ = some (.slice s.th.A s.th.n s.th.cap) := b1_3.cell 0
      have z1 := b1_3.free 0
      go_simp
      clear z0 z1
      refine hK.out _ _ (S3.next (kept_cell _ ⟨p1, 0, none⟩ _) (fun g e => .inl e)) (fun h4 => ?_)
      clear h3 hK K
      try simp only [Act.put]
      refine wpAnyH_done (by kernel_rfl) ?_ _
      refine NoPanic.normal ?_
      go_wp2_with fail
      go_meet
      exact ⟨kk_3.trans (set_below (i := 0) (v := .slice s.th.A m s.th.cap) rfl hp1 kk_3.size), set_named b1_3 rfl (by rw [← EM.out]; rfl), set_far b2_3 rfl (by omega)⟩
    · rw [if_pos (by rfl)]
      have z0 : wd.cell? ⟨p1, 0, none⟩ = some (.slice s.th.A s.th.n s.th.cap) := b1.cell 0
      go_simp
      clear z0
      refine hK.out _ _ kS (fun h5 => ?_)
      clear hHeld hK K
      try simp only [Act.put, List.setIfInBounds_toArray, List.set_cons_zero, List.set_cons_succ]
      refine wpAnyH_take (i := 4) (oi := ⟨some 7, _, _, _, _, _⟩) (v := ?_) rfl (by kernel_rfl) (by kernel_rfl) (by kernel_rfl) (fun _ _ _ h => h) (Or.inl ⟨by rfl, ?_⟩) (by assumption) ?_
      rotate_left 1
      · (intro W hSw; go_simp <;> with_reducible rfl)
      try simp only [Act.put, List.setIfInBounds_toArray, List.set_cons_zero, List.set_cons_succ]
      refine wpAnyH_ready (rs := [1, 5]) (by kernel_rfl) (by simp) ?_
      refine AllReadyH.cons (o := ⟨some 4, _, _, _, _, _⟩) rfl (fun K hK => ?_) (AllReadyH.cons (o := ⟨some 8, _, _, _, _, _⟩) rfl (fun K hK => ?_) AllReadyH.nil)
      · rw [if_pos (by rfl)]
        have z0 : wd.cell? ⟨p1, 0, none⟩ = some (.slice s.th.A s.th.n s.th.cap) := b1.cell 0
        go_simp
        clear z0
        refine hK.out _ _ kS (fun h6 => ?_)
        clear h5 hK K
        try simp only [Act.put, List.setIfInBounds_toArray, List.set_cons_zero, List.set_cons_succ]
        refine wpAnyH_ready (rs := [5]) (by kernel_rfl) (by simp) ?_
        refine AllReadyH.cons (o := ⟨some 8, _, _, _, _, _⟩) rfl (fun K hK => ?_) AllReadyH.nil
        go_simp
        refine (near_cut s.th.n 4 m EM.out.symm wd).mono ?_
        rintro e w7 ⟨rfl, ew7⟩
        have hb7 : Below wd.heap.size wd w7 := by rw [← ew7]; exact Below.refl _ _
        have b1_7 := b1.on hb7
        have b2_7 := b2.on hb7
        have kk_7 := kk.trans (hb7.mono kk.size)
        have S7 : (fun W => Kept (fun g => g = p1) wd W) w7 := Kept.next kS (kept_below (fun _ => False) hb7) (fun _ h => h.elim)
        refine hK.out _ _ S7 (fun h7 => ?_)
        clear h6 hK K
        try simp only [Act.put, List.setIfInBounds_toArray, List.set_cons_zero, List.set_cons_succ]
        refine wpAnyH_take (i := 6) (oi := ⟨some 9, _, _, _, _, _⟩) (v := ?_) rfl (by kernel_rfl) (by kernel_rfl) (by kernel_rfl) (fun _ _ _ h => h) (Or.inl ⟨by rfl, ?_⟩) (by assumption) ?_
        rotate_left 1
        · (intro W hSw; go_simp <;> with_reducible rfl)
        try simp only [Act.put, List.setIfInBounds_toArray, List.set_cons_zero, List.set_cons_succ]
        refine wpAnyH_take (i := 7) (oi := ⟨some 10, _, _, _, _, _⟩) (v := ?_) rfl (by kernel_rfl) (by kernel_rfl) (by kernel_rfl) (fun _ _ _ h => h) (Or.inl ⟨by rfl, ?_⟩) (by assumption) ?_
        rotate_left 1
        · (intro W hSw; go_simp <;> with_reducible rfl)
        try simp only [Act.put, List.setIfInBounds_toArray, List.set_cons_zero, List.set_cons_succ]
        refine wpAnyH_ready (rs := [8]) (by kernel_rfl) (by simp) ?_
        refine AllReadyH.cons (o := ⟨none, _, _, _, _, _⟩) rfl (fun K hK => ?_) AllReadyH.nil
        rw [if_pos (by rfl)]
        have z0 : w7.cell? ⟨p1, 0, none⟩ = some (.slice s.th.A s.th.n s.th.cap) := b1_7.cell 0
        have z1 := b1_7.free 0
        go_simp
        clear z0 z1
        refine hK.out _ _ (S7.next (kept_cell _ ⟨p1, 0, none⟩ _) (fun g e => .inl e)) (fun h8 => ?_)
        clear h7 hK K
        try simp only [Act.put]
        refine wpAnyH_done (by kernel_rfl) ?_ _
        refine NoPanic.normal ?_
        go_wp2_with fail
        go_meet
        exact ⟨kk_7.trans (set_below (i := 0) (v := .slice s.th.A m s.th.cap) rfl hp1 kk_7.size), set_named b1_7 rfl (by rw [← EM.out]; rfl), set_far b2_7 rfl (by omega)⟩
      · go_simp
        refine (near_cut s.th.n 4 m EM.out.symm wd).mono ?_
        rintro e w9 ⟨rfl, ew9⟩
        have hb9 : Below wd.heap.size wd w9 := by rw [← ew9]; exact Below.refl _ _
        have b1_9 := b1.on hb9
        have b2_9 := b2.on hb9
        have kk_9 := kk.trans (hb9.mono kk.size)
        have S9 : (fun W => Kept (fun g => g = p1) wd W) w9 := Kept.next kS (kept_below (fun _ => False) hb9) (fun _ h => h.elim)
        refine hK.out _ _ S9 (fun h9 => ?_)
        clear h5 hK K
        try simp only [Act.put, List.setIfInBounds_toArray, List.set_cons_zero, List.set_cons_succ]
        refine wpAnyH_ready (rs := [1]) (by kernel_rfl) (by simp) ?_
        refine AllReadyH.cons (o := ⟨some 4, _, _, _, _, _⟩) rfl (fun K hK => ?_) AllReadyH.nil
        rw [if_pos (by rfl)]
        have z0 : w9.cell? ⟨p1, 0, none⟩ = some (.slice s.th.A s.th.n s.th.cap) := b1_9.cell 0
        go_simp
        clear z0
        refine hK.out _ _ S9 (fun h10 => ?_)
        clear h9 hK K
        try simp only [Act.put, List.setIfInBounds_toArray, List.set_cons_zero, List.set_cons_succ]
        refine wpAnyH_take (i := 6) (oi := ⟨some 9, _, _, _, _, _⟩) (v := ?_) rfl (by kernel_rfl) (by kernel_rfl) (by kernel_rfl) (fun _ _ _ h => h) (Or.inl ⟨by rfl, ?_⟩) (by assumption) ?_
        rotate_left 1
        · (intro W hSw; go_simp <;> with_reducible rfl)
        try simp only [Act.put, List.setIfInBounds_toArray, List.set_cons_zero, List.set_cons_succ]
        refine wpAnyH_take (i := 7) (oi := ⟨some 10, _, _, _, _, _⟩) (v := ?_) rfl (by kernel_rfl) (by kernel_rfl) (by kernel_rfl) (fun _ _ _ h => h) (Or.inl ⟨by rfl, ?_⟩) (by assumption) ?_
        rotate_left 1
        · (intro W hSw; go_simp <;> with_reducible rfl)
        try simp only [Act.put, List.setIfInBounds_toArray, List.set_cons_zero, List.set_cons_succ]
        refine wpAnyH_ready (rs := [8]) (by kernel_rfl) (by simp) ?_
        refine AllReadyH.cons (o := ⟨none, _, _, _, _, _⟩) rfl (fun K hK => ?_) AllReadyH.nil
        rw [if_pos (by rfl)]
        have z0 : w9.cell? ⟨p1, 0, none⟩ = some (.slice s.th.A s.th.n s.th.cap) := b1_9.cell 0
        have z1 := b1_9.free 0
        go_simp
        clear z0 z1
        refine hK.out _ _ (S9.next (kept_cell _ ⟨p1, 0, none⟩ _) (fun g e => .inl e)) (fun h11 => ?_)
        clear h10 hK K
        try simp only [Act.put]
        refine wpAnyH_done (by kernel_rfl) ?_ _
        refine NoPanic.normal ?_
        go_wp2_with fail
        go_meet
        exact ⟨kk_9.trans (set_below (i := 0) (v := .slice s.th.A m s.th.cap) rfl hp1 kk_9.size), set_named b1_9 rfl (by rw [← EM.out]; rfl), set_far b2_9 rfl (by omega)⟩
  case rest =>
    clear kk b1 b2
    obtain ⟨kk, b1, b2⟩ := hcut
    go_wp2_with fail
    go_cut [] (fun wx => Below w.heap.size w wx ∧ Blk wx p1 29 (few2 s).cs.toArray ∧ Blk wx p2 29 #[.slice none 0 0, .slice none 0 0, .slice none 0 0, .slice none 0 0, .slice none 0 0, .slice none 0 0, .int .i64 0, .slice none 0 0, .slice none 0 0])
    case first =>
      obtain ⟨wd, ed⟩ : ∃ W, wc.drew = W := ⟨_, rfl⟩
      have hd : Below wc.heap.size wc wd := by rw [← ed]; exact (Below.refl _ _).drew
      replace b1 := b1.on hd
      replace b2 := b2.on hd
      replace kk := kk.trans (hd.mono kk.size)
      clear hd
      have kS : Kept (fun g => g = p1) wd wd := Kept.refl _ _
      obtain ⟨m, em⟩ : ∃ m, min s.bu.n 4 = m := ⟨_, rfl⟩
      have EM := Lib.hid em
      have hm : m ≤ s.bu.n := by omega
      obtain ⟨r1, r2, r3⟩ := hok.bu
      unfold maxLen at r2
      have hcut := fun W => upto23 s.bu.A s.bu.n s.bu.cap m (by omega) r3 W
      clear em r3
      refine wp_region_noPanic ?_
      refine wp_region_held_drew (S := (fun W => Kept (fun g => g = p1) wd W)) (by kernel_rfl) (by rw [ed]; exact kS) (fun hHeld => ?_)
      rw [ed] at hHeld ⊢
      refine wpAnyH_take (i := 0) (oi := ⟨some 11, _, _, _, _, _⟩) (v := ?_) rfl (by kernel_rfl) (by kernel_rfl) (by kernel_rfl) (fun _ _ _ h => h) (Or.inl ⟨by rfl, ?_⟩) (by assumption) ?_
      rotate_left 1
      · (intro W hSw; go_simp <;> with_reducible rfl)
      try simp only [Act.put, List.setIfInBounds_toArray, List.set_cons_zero, List.set_cons_succ]
      refine wpAnyH_take (i := 2) (oi := ⟨some 13, _, _, _, _, _⟩) (v := ?_) rfl (by kernel_rfl) (by kernel_rfl) (by kernel_rfl) (fun _ _ _ h => h) (Or.inl ⟨by rfl, ?_⟩) (by assumption) ?_
      rotate_left 1
      · (intro W hSw; go_simp <;> with_reducible rfl)
      try simp only [Act.put, List.setIfInBounds_toArray, List.set_cons_zero, List.set_cons_succ]
      refine wpAnyH_ready (rs := [1, 3]) (by kernel_rfl) (by simp) ?_
      refine AllReadyH.cons (o := ⟨some 12, _, _, _, _, _⟩) rfl (fun K hK => ?_) (AllReadyH.cons (o := ⟨some 14, _, _, _, _, _⟩) rfl (fun K hK => ?_) AllReadyH.nil)
      · rw [if_pos (by rfl)]
        have z0 : wd.cell? ⟨p1, 1, none⟩ = some (.slice s.bu.A s.bu.n s.bu.cap) := b1.cell 1
        go_simp
        clear z0
        refine hK.out _ _ kS (fun h1 => ?_)
        clear hHeld hK K
        try simp only [Act.put, List.setIfInBounds_toArray, List.set_cons_zero, List.set_cons_succ]
        refine wpAnyH_ready (rs := [3]) (by kernel_rfl) (by simp) ?_
        refine AllReadyH.cons (o := ⟨some 14, _, _, _, _, _⟩) rfl (fun K hK => ?_) AllReadyH.nil
        rw [if_pos (by rfl)]
        have z0 : wd.cell? ⟨p1, 1, none⟩ = some (.slice s.bu.A s.bu.n s.bu.cap) := b1.cell 1
        go_simp
        clear z0
        refine hK.out _ _ kS (fun h2 => ?_)
        clear h1 hK K
        try simp only [Act.put, List.setIfInBounds_toArray, List.set_cons_zero, List.set_cons_succ]
        refine wpAnyH_take (i := 4) (oi := ⟨some 15, _, _, _, _, _⟩) (v := ?_) rfl (by kernel_rfl) (by kernel_rfl) (by kernel_rfl) (fun _ _ _ h => h) (Or.inl ⟨by rfl, ?_⟩) (by assumption) ?_
        rotate_left 1
        · (intro W hSw; go_simp <;> with_reducible rfl)
        try simp only [Act.put, List.setIfInBounds_toArray, List.set_cons_zero, List.set_cons_succ]
        refine wpAnyH_ready (rs := [5]) (by kernel_rfl) (by simp) ?_
        refine AllReadyH.cons (o := ⟨some 16, _, _, _, _, _⟩) rfl (fun K hK => ?_) AllReadyH.nil
        go_simp
        refine (near_cut s.bu.n 4 m EM.out.symm wd).mono ?_
        rintro e w3 ⟨rfl, ew3⟩
        have hb3 : Below wd.heap.size wd w3 := by rw [← ew3]; exact Below.refl _ _
        have b1_3 := b1.on hb3
        have b2_3 := b2.on hb3
        have kk_3 := kk.trans (hb3.mono kk.size)
        have S3 : (fun W => Kept (fun g => g = p1) wd W) w3 := Kept.next kS (kept_below (fun _ => False) hb3) (fun _ h => h.elim)
        refine hK.out _ _ S3 (fun h3 => ?_)
        clear h2 hK K
        try simp only [Act.put, List.setIfInBounds_toArray, List.set_cons_zero, List.set_cons_succ]
        refine wpAnyH_take (i := 6) (oi := ⟨some 17, _, _, _, _, _⟩) (v := ?_) rfl (by kernel_rfl) (by kernel_rfl) (by kernel_rfl) (fun _ _ _ h => h) (Or.inl ⟨by rfl, ?_⟩) (by assumption) ?_
        rotate_left 1
        · (intro W hSw; go_simp <;> with_reducible rfl)
        try simp only [Act.put, List.setIfInBounds_toArray, List.set_cons_zero, List.set_cons_succ]
        refine wpAnyH_take (i := 7) (oi := ⟨some 18, _, _, _, _, _⟩) (v := ?_) rfl (by kernel_rfl) (by kernel_rfl) (by kernel_rfl) (fun _ _ _ h => h) (Or.inl ⟨by rfl, ?_⟩) (by assumption) ?_
        rotate_left 1
        · (intro W hSw; go_simp <;> with_reducible rfl)
        try simp only [Act.put, List.setIfInBounds_toArray, List.set_cons_zero, List.set_cons_succ]
        refine wpAnyH_ready (rs := [8]) (by kernel_rfl) (by simp) ?_
        refine AllReadyH.cons (o := ⟨none, _, _, _, _, _⟩) rfl (fun K hK => ?_) AllReadyH.nil
        rw [if_pos (by rfl)]
        have z0 : w3.cell? ⟨p1, 1, none⟩ = some (.slice s.bu.A s.bu.n s.bu.cap) := b1_3.cell 1
        have z1 := b1_3.free 1
        go_simp
        clear z0 z1
        refine hK.out _ _ (S3.next (kept_cell _ ⟨p1, 1, none⟩ _) (fun g e => .inl e)) (fun h4 => ?_)
        clear h3 hK K
        try simp only [Act.put]
        refine wpAnyH_done (by kernel_rfl) ?_ _
        refine NoPanic.normal ?_
        go_wp2_with fail
        go_meet
        exact ⟨kk_3.trans (set_below (i := 1) (v := .slice s.bu.A m s.bu.cap) rfl hp1 kk_3.size), set_named b1_3 rfl (by rw [← EM.out]; rfl), set_far b2_3 rfl (by omega)⟩
      · rw [if_pos (by rfl)]
        have z0 : wd.cell? ⟨p1, 1, none⟩ = some (.slice s.bu.A s.bu.n s.bu.cap) := b1.cell 1
        go_simp
        clear z0
        refine hK.out _ _ kS (fun h5 => ?_)
        clear hHeld hK K
        try simp only [Act.put, List.setIfInBounds_toArray, List.set_cons_zero, List.set_cons_succ]
        refine wpAnyH_take (i := 4) (oi := ⟨some 15, _, _, _, _, _⟩) (v := ?_) rfl (by kernel_rfl) (by kernel_rfl) (by kernel_rfl) (fun _ _ _ h => h) (Or.inl ⟨by rfl, ?_⟩) (by assumption) ?_
        rotate_left 1
        · (intro W hSw; go_simp <;> with_reducible rfl)
        try simp only [Act.put, List.setIfInBounds_toArray, List.set_cons_zero, List.set_cons_succ]
        refine wpAnyH_ready (rs := [1, 5]) (by kernel_rfl) (by simp) ?_
        refine AllReadyH.cons (o := ⟨some 12, _, _, _, _, _⟩) rfl (fun K hK => ?_) (AllReadyH.cons (o := ⟨some 16, _, _, _, _, _⟩) rfl (fun K hK => ?_) AllReadyH.nil)
        · rw [if_pos (by rfl)]
          have z0 : wd.cell? ⟨p1, 1, none⟩ = some (.slice s.bu.A s.bu.n s.bu.cap) := b1.cell 1
          go_simp
          clear z0
          refine hK.out _ _ kS (fun h6 => ?_)
          clear h5 hK K
          try simp only [Act.put, List.setIfInBounds_toArray, List.set_cons_zero, List.set_cons_succ]
          refine wpAnyH_ready (rs := [5]) (by kernel_rfl) (by simp) ?_
          refine AllReadyH.cons (o := ⟨some 16, _, _, _, _, _⟩) rfl (fun K hK => ?_) AllReadyH.nil
          go_simp
          refine (near_cut s.bu.n 4 m EM.out.symm wd).mono ?_
          rintro e w7 ⟨rfl, ew7⟩
          have hb7 : Below wd.heap.size wd w7 := by rw [← ew7]; exact Below.refl _ _
          have b1_7 := b1.on hb7
          have b2_7 := b2.on hb7
          have kk_7 := kk.trans (hb7.mono kk.size)
          have S7 : (fun W => Kept (fun g => g = p1) wd W) w7 := Kept.next kS (kept_below (fun _ => False) hb7) (fun _ h => h.elim)
          refine hK.out _ _ S7 (fun h7 => ?_)
          clear h6 hK K
          try simp only [Act.put, List.setIfInBounds_toArray, List.set_cons_zero, List.set_cons_succ]
          refine wpAnyH_take (i := 6) (oi := ⟨some 17, _, _, _, _, _⟩) (v := ?_) rfl (by kernel_rfl) (by kernel_rfl) (by kernel_rfl) (fun _ _ _ h => h) (Or.inl ⟨by rfl, ?_⟩) (by assumption) ?_
          rotate_left 1
          · (intro W hSw; go_simp <;> with_reducible rfl)
          try simp only [Act.put, List.setIfInBounds_toArray, List.set_cons_zero, List.set_cons_succ]
          refine wpAnyH_take (i := 7) (oi := ⟨some 18, _, _, _, _, _⟩) (v := ?_) rfl (by kernel_rfl) (by kernel_rfl) (by kernel_rfl) (fun _ _ _ h => h) (Or.inl ⟨by rfl, ?_⟩) (by assumption) ?_
          rotate_left 1
          · (intro W hSw; go_simp <;> with_reducible rfl)
          try simp only [Act.put, List.setIfInBounds_toArray, List.set_cons_zero, List.set_cons_succ]
          refine wpAnyH_ready (rs := [8]) (by kernel_rfl) (by simp) ?_
          refine AllReadyH.cons (o := ⟨none, _, _, _, _, _⟩) rfl (fun K hK => ?_) AllReadyH.nil
          rw [if_pos (by rfl)]
          have z0 : w7.cell? ⟨p1, 1, none⟩ = some (.slice s.bu.A s.bu.n s.bu.cap) := b1_7.cell 1
          have z1 := b1_7.free 1
          go_simp
          clear z0 z1
          refine hK.out _ _ (S7.next (kept_cell _ ⟨p1, 1, none⟩ _) (fun g e => .inl e)) (fun h8 => ?_)
          clear h7 hK K
          try simp only [Act.put]
          refine wpAnyH_done (by kernel_rfl) ?_ _
          refine NoPanic.normal ?_
          go_wp2_with fail
          go_meet
          exact ⟨kk_7.trans (set_below (i := 1) (v := .slice s.bu.A m s.bu.cap) rfl hp1 kk_7.size), set_named b1_7 rfl (by rw [← EM.out]; rfl), set_far b2_7 rfl (by omega)⟩
        · go_simp
          refine (near_cut s.bu.n 4 m EM.out.symm wd).mono ?_
          rintro e w9 ⟨rfl, ew9⟩
          have hb9 : Below wd.heap.size wd w9 := by rw [← ew9]; exact Below.refl _ _
          have b1_9 := b1.on hb9
          have b2_9 := b2.on hb9
          have kk_9 := kk.trans (hb9.mono kk.size)
          have S9 : (fun W => Kept (fun g => g = p1) wd W) w9 := Kept.next kS (kept_below (fun _ => False) hb9) (fun _ h => h.elim)
          refine hK.out _ _ S9 (fun h9 => ?_)
          clear h5 hK K
          try simp only [Act.put, List.setIfInBounds_toArray, List.set_cons_zero, List.set_cons_succ]
          refine wpAnyH_ready (rs := [1]) (by kernel_rfl) (by simp) ?_
          refine AllReadyH.cons (o := ⟨some 12, _, _, _, _, _⟩) rfl (fun K hK => ?_) AllReadyH.nil
          rw [if_pos (by rfl)]
          have z0 : w9.cell? ⟨p1, 1, none⟩ = some (.slice s.bu.A s.bu.n s.bu.cap) := b1_9.cell 1
          go_simp
          clear z0
          refine hK.out _ _ S9 (fun h10 => ?_)
          clear h9 hK K
          try simp only [Act.put, List.setIfInBounds_toArray, List.set_cons_zero, List.set_cons_succ]
          refine wpAnyH_take (i := 6) (oi := ⟨some 17, _, _, _, _, _⟩) (v := ?_) rfl (by kernel_rfl) (by kernel_rfl) (by kernel_rfl) (fun _ _ _ h => h) (Or.inl ⟨by rfl, ?_⟩) (by assumption) ?_
          rotate_left 1
          · (intro W hSw; go_simp <;> with_reducible rfl)
          try simp only [Act.put, List.setIfInBounds_toArray, List.set_cons_zero, List.set_cons_succ]
          refine wpAnyH_take (i := 7) (oi := ⟨some 18, _, _, _, _, _⟩) (v := ?_) rfl (by kernel_rfl) (by kernel_rfl) (by kernel_rfl) (fun _ _ _ h => h) (Or.inl ⟨by rfl, ?_⟩) (by assumption) ?_
          rotate_left 1
          · (intro W hSw; go_simp <;> with_reducible rfl)
          try simp only [Act.put, List.setIfInBounds_toArray, List.set_cons_zero, List.set_cons_succ]
          refine wpAnyH_ready (rs := [8]) (by kernel_rfl) (by simp) ?_
          refine AllReadyH.cons (o := ⟨none, _, _, _, _, _⟩) rfl (fun K hK => ?_) AllReadyH.nil
          rw [if_pos (by rfl)]
          have z0 : w9.cell? ⟨p1, 1, none⟩ = some (.slice s.bu.A s.bu.n s.bu.cap) := b1_9.cell 1
          have z1 := b1_9.free 1
          go_simp
          clear z0 z1
          refine hK.out _ _ (S9.next (kept_cell _ ⟨p1, 1, none⟩ _) (fun g e => .inl e)) (fun h11 => ?_)
          clear h10 hK K
          try simp only [Act.put]
          refine wpAnyH_done (by kernel_rfl) ?_ _
          refine NoPanic.normal ?_
          go_wp2_with fail
          go_meet
          exact ⟨kk_9.trans (set_below (i := 1) (v := .slice s.bu.A m s.bu.cap) rfl hp1 kk_9.size), set_named b1_9 rfl (by rw [← EM.out]; rfl), set_far b2_9 rfl (by omega)⟩
    case rest =>
      clear kk b1 b2
      obtain ⟨kk, b1, b2⟩ := hcut
      go_wp2_with fail
      go_cut [] (fun wx => Below w.heap.size w wx ∧ Blk wx p1 29 (few3 s).cs.toArray ∧ Blk wx p2 29 #[.slice none 0 0, .slice none 0 0, .slice none 0 0, .slice none 0 0, .slice none 0 0, .slice none 0 0, .int .i64 0, .slice none 0 0, .slice none 0 0])
      case first =>
        obtain ⟨wd, ed⟩ : ∃ W, wc.drew = W := ⟨_, rfl⟩
        have hd : Below wc.heap.size wc wd := by rw [← ed]; exact (Below.refl _ _).drew
        replace b1 := b1.on hd
        replace b2 := b2.on hd
        replace kk := kk.trans (hd.mono kk.size)
        clear hd
        have kS : Kept (fun g => g = p1) wd wd := Kept.refl _ _
        obtain ⟨m, em⟩ : ∃ m, min s.ro.n 6 = m := ⟨_, rfl⟩
        have EM := Lib.hid em
        have hm : m ≤ s.ro.n := by omega
        obtain ⟨r1, r2, r3⟩ := hok.ro
        unfold maxLen at r2
        have hcut := fun W => upto24 s.ro.A s.ro.n s.ro.cap m (by omega) r3 W
        clear em r3
        refine wp_region_noPanic ?_
        refine wp_region_held_drew (S := (fun W => Kept (fun g => g = p1) wd W)) (by kernel_rfl) (by rw [ed]; exact kS) (fun hHeld => ?_)
        rw [ed] at hHeld ⊢
        refine wpAnyH_take (i := 0) (oi := ⟨some 19, _, _, _, _, _⟩) (v := ?_) rfl (by kernel_rfl) (by kernel_rfl) (by kernel_rfl) (fun _ _ _ h => h) (Or.inl ⟨by rfl, ?_⟩) (by assumption) ?_
        rotate_left 1
        · (intro W hSw; go_simp <;> with_reducible rfl)
        try simp only [Act.put, List.setIfInBounds_toArray, List.set_cons_zero, List.set_cons_succ]
        refine wpAnyH_take (i := 2) (oi := ⟨some 21, _, _, _, _, _⟩) (v := ?_) rfl (by kernel_rfl) (by kernel_rfl) (by kernel_rfl) (fun _ _ _ h => h) (Or.inl ⟨by rfl, ?_⟩) (by assumption) ?_
        rotate_left 1
        · (intro W hSw; go_simp <;> with_reducible rfl)
        try simp only [Act.put, List.setIfInBounds_toArray, List.set_cons_zero, List.set_cons_succ]
        refine wpAnyH_ready (rs := [1, 3]) (by kernel_rfl) (by simp) ?_
        refine AllReadyH.cons (o := ⟨some 20, _, _, _, _, _⟩) rfl (fun K hK => ?_) (AllReadyH.cons (o := ⟨some 22, _, _, _, _, _⟩) rfl (fun K hK => ?_) AllReadyH.nil)
        · rw [if_pos (by rfl)]
          have z0 : wd.cell? ⟨p1, 2, none⟩ = some (.slice s.ro.A s.ro.n s.ro.cap) := b1.cell 2
          go_simp
          clear z0
          refine hK.out _ _ kS (fun h1 => ?_)
          clear hHeld hK K
          try simp only [Act.put, List.setIfInBounds_toArray, List.set_cons_zero, List.set_cons_succ]
          refine wpAnyH_ready (rs := [3]) (by kernel_rfl) (by simp) ?_
          refine AllReadyH.cons (o := ⟨some 22, _, _, _, _, _⟩) rfl (fun K hK => ?_) AllReadyH.nil
          rw [if_pos (by rfl)]
          have z0 : wd.cell? ⟨p1, 2, none⟩ = some (.slice s.ro.A s.ro.n s.ro.cap) := b1.cell 2
          go_simp
          clear z0
          refine hK.out _ _ kS (fun h2 => ?_)
          clear h1 hK K
          try simp only [Act.put, List.setIfInBounds_toArray, List.set_cons_zero, List.set_cons_succ]
          refine wpAnyH_take (i := 4) (oi := ⟨some 23, _, _, _, _, _⟩) (v := ?_) rfl (by kernel_rfl) (by kernel_rfl) (by kernel_rfl) (fun _ _ _ h => h) (Or.inl ⟨by rfl, ?_⟩) (by assumption) ?_
          rotate_left 1
          · (intro W hSw; go_simp <;> with_reducible rfl)
          try simp only [Act.put, List.setIfInBounds_toArray, List.set_cons_zero, List.set_cons_succ]
          refine wpAnyH_ready (rs := [5]) (by kernel_rfl) (by simp) ?_
          refine AllReadyH.cons (o := ⟨some 24, _, _, _, _, _⟩) rfl (fun K hK => ?_) AllReadyH.nil
          go_simp
          refine (near_cut s.ro.n 6 m EM.out.symm wd).mono ?_
          rintro e w3 ⟨rfl, ew3⟩
          have hb3 : Below wd.heap.size wd w3 := by rw [← ew3]; exact Below.refl _ _
          have b1_3 := b1.on hb3
          have b2_3 := b2.on hb3
          have kk_3 := kk.trans (hb3.mono kk.size)
          have S3 : (fun W => Kept (fun g => g = p1) wd W) w3 := Kept.next kS (kept_below (fun _ => False) hb3) (fun _ h => h.elim)
          refine hK.out _ _ S3 (fun h3 => ?_)
          clear h2 hK K
          try simp only [Act.put, List.setIfInBounds_toArray, List.set_cons_zero, List.set_cons_succ]
          refine wpAnyH_take (i := 6) (oi := ⟨some 25, _, _, _, _, _⟩) (v := ?_) rfl (by kernel_rfl) (by kernel_rfl) (by kernel_rfl) (fun _ _ _ h => h) (Or.inl ⟨by rfl, ?_⟩) (by assumption) ?_
          rotate_left 1
          · (intro W hSw; go_simp <;> with_reducible rfl)
          try simp only [Act.put, List.setIfInBounds_toArray, List.set_cons_zero, List.set_cons_succ]
          refine wpAnyH_take (i := 7) (oi := ⟨some 26, _, _, _, _, _⟩) (v := ?_) rfl (by kernel_rfl) (by kernel_rfl) (by kernel_rfl) (fun _ _ _ h => h) (Or.inl ⟨by rfl, ?_⟩) (by assumption) ?_
          rotate_left 1
          · (intro W hSw; go_simp <;> with_reducible rfl)
          try simp only [Act.put, List.setIfInBounds_toArray, List.set_cons_zero, List.set_cons_succ]
          refine wpAnyH_ready (rs := [8]) (by kernel_rfl) (by simp) ?_
          refine AllReadyH.cons (o := ⟨none, _, _, _, _, _⟩) rfl (fun K hK => ?_) AllReadyH.nil
          rw [if_pos (by rfl)]
          have z0 : w3.cell? ⟨p1, 2, none⟩ = some (.slice s.ro.A s.ro.n s.ro.cap) := b1_3.cell 2
          have z1 := b1_3.free 2
          go_simp
          clear z0 z1
          refine hK.out _ _ (S3.next (kept_cell _ ⟨p1, 2, none⟩ _) (fun g e => .inl e)) (fun h4 => ?_)
          clear h3 hK K
          try simp only [Act.put]
          refine wpAnyH_done (by kernel_rfl) ?_ _
          refine NoPanic.normal ?_
          go_wp2_with fail
          go_meet
          exact ⟨kk_3.trans (set_below (i := 2) (v := .slice s.ro.A m s.ro.cap) rfl hp1 kk_3.size), set_named b1_3 rfl (by rw [← EM.out]; rfl), set_far b2_3 rfl (by omega)⟩
        · rw [if_pos (by rfl)]
          have z0 : wd.cell? ⟨p1, 2, none⟩ = some (.slice s.ro.A s.ro.n s.ro.cap) := b1.cell 2
          go_simp
          clear z0
          refine hK.out _ _ kS (fun h5 => ?_)
          clear hHeld hK K
          try simp only [Act.put, List.setIfInBounds_toArray, List.set_cons_zero, List.set_cons_succ]
          refine wpAnyH_take (i := 4) (oi := ⟨some 23, _, _, _, _, _⟩) (v := ?_) rfl (by kernel_rfl) (by kernel_rfl) (by kernel_rfl) (fun _ _ _ h => h) (Or.inl ⟨by rfl, ?_⟩) (by assumption) ?_
          rotate_left 1
          · (intro W hSw; go_simp <;> with_reducible rfl)
          try simp only [Act.put, List.setIfInBounds_toArray, List.set_cons_zero, List.set_cons_succ]
          refine wpAnyH_ready (rs := [1, 5]) (by kernel_rfl) (by simp) ?_
          refine AllReadyH.cons (o := ⟨some 20, _, _, _, _, _⟩) rfl (fun K hK => ?_) (AllReadyH.cons (o := ⟨some 24, _, _, _, _, _⟩) rfl (fun K hK => ?_) AllReadyH.nil)
          · rw [if_pos (by rfl)]
            have z0 : wd.cell? ⟨p1, 2, none⟩ = some (.slice s.ro.A s.ro.n s.ro.cap) := b1.cell 2
            go_simp
            clear z0
            refine hK.out _ _ kS (fun h6 => ?_)
            clear h5 hK K
            try simp only [Act.put, List.setIfInBounds_toArray, List.set_cons_zero, List.set_cons_succ]
            refine wpAnyH_ready (rs := [5]) (by kernel_rfl) (by simp) ?_
            refine AllReadyH.cons (o := ⟨some 24, _, _, _, _, _⟩) rfl (fun K hK => ?_) AllReadyH.nil
            go_simp
            refine (near_cut s.ro.n 6 m EM.out.symm wd).mono ?_
            rintro e w7 ⟨rfl, ew7⟩
            have hb7 : Below wd.heap.size wd w7 := by rw [← ew7]; exact Below.refl _ _
            have b1_7 := b1.on hb7
            have b2_7 := b2.on hb7
            have kk_7 := kk.trans (hb7.mono kk.size)
            have S7 : (fun W => Kept (fun g => g = p1) wd W) w7 := Kept.next kS (kept_below (fun _ => False) hb7) (fun _ h => h.elim)
            refine hK.out _ _ S7 (fun h7 => ?_)
            clear h6 hK K
            try simp only [Act.put, List.setIfInBounds_toArray, List.set_cons_zero, List.set_cons_succ]
            refine wpAnyH_take (i := 6) (oi := ⟨some 25, _, _, _, _, _⟩) (v := ?_) rfl (by kernel_rfl) (by kernel_rfl) (by kernel_rfl) (fun _ _ _ h => h) (Or.inl ⟨by rfl, ?_⟩) (by assumption) ?_
            rotate_left 1
            · (intro W hSw; go_simp <;> with_reducible rfl)
            try simp only [Act.put, List.setIfInBounds_toArray, List.set_cons_zero, List.set_cons_succ]
            refine wpAnyH_take (i := 7) (oi := ⟨some 26, _, _, _, _, _⟩) (v := ?_) rfl (by kernel_rfl) (by kernel_rfl) (by kernel_rfl) (fun _ _ _ h => h) (Or.inl ⟨by rfl, ?_⟩) (by assumption) ?_
            rotate_left 1
            · (intro W hSw; go_simp <;> with_reducible rfl)
            try simp only [Act.put, List.setIfInBounds_toArray, List.set_cons_zero, List.set_cons_succ]
            refine wpAnyH_ready (rs := [8]) (by kernel_rfl) (by simp) ?_
            refine AllReadyH.cons (o := ⟨none, _, _, _, _, _⟩) rfl (fun K hK => ?_) AllReadyH.nil
            rw [if_pos (by rfl)]
            have z0 : w7.cell? ⟨p1, 2, none⟩ = some (.slice s.ro.A s.ro.n s.ro.cap) := b1_7.cell 2
            have z1 := b1_7.free 2
            go_simp
            clear z0 z1
            refine hK.out _ _ (S7.next (kept_cell _ ⟨p1, 2, none⟩ _) (fun g e => .inl e)) (fun h8 => ?_)
            clear h7 hK K
            try simp only [Act.put]
            refine wpAnyH_done (by kernel_rfl) ?_ _
            refine NoPanic.normal ?_
            go_wp2_with fail
            go_meet
            exact ⟨kk_7.trans (set_below (i := 2) (v := .slice s.ro.A m s.ro.cap) rfl hp1 kk_7.size), set_named b1_7 rfl (by rw [← EM.out]; rfl), set_far b2_7 rfl (by omega)⟩
          · go_simp
            refine (near_cut s.ro.n 6 m EM.out.symm wd).mono ?_
            rintro e w9 ⟨rfl, ew9⟩
            have hb9 : Below wd.heap.size wd w9 := by rw [← ew9]; exact Below.refl _ _
            have b1_9 := b1.on hb9
            have b2_9 := b2.on hb9
            have kk_9 := kk.trans (hb9.mono kk.size)
            have S9 : (fun W => Kept (fun g => g = p1) wd W) w9 := Kept.next kS (kept_below (fun _ => False) hb9) (fun _ h => h.elim)
            refine hK.out _ _ S9 (fun h9 => ?_)
            clear h5 hK K
            try simp only [Act.put, List.setIfInBounds_toArray, List.set_cons_zero, List.set_cons_succ]
            refine wpAnyH_ready (rs := [1]) (by kernel_rfl) (by simp) ?_
            refine AllReadyH.cons (o := ⟨some 20, _, _, _, _, _⟩) rfl (fun K hK => ?_) AllReadyH.nil
            rw [if_pos (by rfl)]
            have z0 : w9.cell? ⟨p1, 2, none⟩ = some (.slice s.ro.A s.ro.n s.ro.cap) := b1_9.cell 2
            go_simp
            clear z0
            refine hK.out _ _ S9 (fun h10 => ?_)
            clear h9 hK K
            try simp only [Act.put, List.setIfInBounds_toArray, List.set_cons_zero, List.set_cons_succ]
            refine wpAnyH_take (i := 6) (oi := ⟨some 25, _, _, _, _, _⟩) (v := ?_) rfl (by kernel_rfl) (by kernel_rfl) (by kernel_rfl) (fun _ _ _ h => h) (Or.inl ⟨by rfl, ?_⟩) (by assumption) ?_
            rotate_left 1
            · (intro W hSw; go_simp <;> with_reducible rfl)
            try simp only [Act.put, List.setIfInBounds_toArray, List.set_cons_zero, List.set_cons_succ]
            refine wpAnyH_take (i := 7) (oi := ⟨some 26, _, _, _, _, _⟩) (v := ?_) rfl (by kernel_rfl) (by kernel_rfl) (by kernel_rfl) (fun _ _ _ h => h) (Or.inl ⟨by rfl, ?_⟩) (by assumption) ?_
            rotate_left 1
            · (intro W hSw; go_simp <;> with_reducible rfl)
            try simp only [Act.put, List.setIfInBounds_toArray, List.set_cons_zero, List.set_cons_succ]
            refine wpAnyH_ready (rs := [8]) (by kernel_rfl) (by simp) ?_
            refine AllReadyH.cons (o := ⟨none, _, _, _, _, _⟩) rfl (fun K hK => ?_) AllReadyH.nil
            rw [if_pos (by rfl)]
            have z0 : w9.cell? ⟨p1, 2, none⟩ = some (.slice s.ro.A s.ro.n s.ro.cap) := b1_9.cell 2
            have z1 := b1_9.free 2
            go_simp
            clear z0 z1
            refine hK.out _ _ (S9.next (kept_cell _ ⟨p1, 2, none⟩ _) (fun g e => .inl e)) (fun h11 => ?_)
            clear h10 hK K
            try simp only [Act.put]
            refine wpAnyH_done (by kernel_rfl) ?_ _
            refine NoPanic.normal ?_
            go_wp2_with fail
            go_meet
            exact ⟨kk_9.trans (set_below (i := 2) (v := .slice s.ro.A m s.ro.cap) rfl hp1 kk_9.size), set_named b1_9 rfl (by rw [← EM.out]; rfl), set_far b2_9 rfl (by omega)⟩
      case rest =>
        clear kk b1 b2
        obtain ⟨kk, b1, b2⟩ := hcut
        go_wp2_with fail
        go_cut [] (fun wx => Below w.heap.size w wx ∧ Blk wx p1 29 (few4 s).cs.toArray ∧ Blk wx p2 29 #[.slice none 0 0, .slice none 0 0, .slice none 0 0, .slice none 0 0, .slice none 0 0, .slice none 0 0, .int .i64 0, .slice none 0 0, .slice none 0 0])
        case first =>
          obtain ⟨wd, ed⟩ : ∃ W, wc.drew = W := ⟨_, rfl⟩
          have hd : Below wc.heap.size wc wd := by rw [← ed]; exact (Below.refl _ _).drew
          replace b1 := b1.on hd
          replace b2 := b2.on hd
          replace kk := kk.trans (hd.mono kk.size)
          clear hd
          have kS : Kept (fun g => g = p1) wd wd := Kept.refl _ _
          obtain ⟨m, em⟩ : ∃ m, min s.sl.n 8 = m := ⟨_, rfl⟩
          have EM := Lib.hid em
          have hm : m ≤ s.sl.n := by omega
          obtain ⟨r1, r2, r3⟩ := hok.sl
          unfold maxLen at r2
          have hcut := fun W => upto24 s.sl.A s.sl.n s.sl.cap m (by omega) r3 W
          clear em r3
          refine wp_region_noPanic ?_
          refine wp_region_held_drew (S := (fun W => Kept (fun g => g = p1) wd W)) (by kernel_rfl) (by rw [ed]; exact kS) (fun hHeld => ?_)
          rw [ed] at hHeld ⊢
          refine wpAnyH_take (i := 0) (oi := ⟨some 27, _, _, _, _, _⟩) (v := ?_) rfl (by kernel_rfl) (by kernel_rfl) (by kernel_rfl) (fun _ _ _ h => h) (Or.inl ⟨by rfl, ?_⟩) (by assumption) ?_
          rotate_left 1
          · (intro W hSw; go_simp <;> with_reducible rfl)
          try simp only [Act.put, List.setIfInBounds_toArray, List.set_cons_zero, List.set_cons_succ]
          refine wpAnyH_take (i := 2) (oi := ⟨some 29, _, _, _, _, _⟩) (v := ?_) rfl (by kernel_rfl) (by kernel_rfl) (by kernel_rfl) (fun _ _ _ h => h) (Or.inl ⟨by rfl, ?_⟩) (by assumption) ?_
          rotate_left 1
          · (intro W hSw; go_simp <;> with_reducible rfl)
          try simp only [Act.put, List.setIfInBounds_toArray, List.set_cons_zero, List.set_cons_succ]
          refine wpAnyH_ready (rs := [1, 3]) (by kernel_rfl) (by simp) ?_
          refine AllReadyH.cons (o := ⟨some 28, _, _, _, _, _⟩) rfl (fun K hK => ?_) (AllReadyH.cons (o := ⟨some 30, _, _, _, _, _⟩) rfl (fun K hK => ?_) AllReadyH.nil)
          · rw [if_pos (by rfl)]
            have z0 : wd.cell? ⟨p1, 3, none⟩ = some (.slice s.sl.A s.sl.n s.sl.cap) := b1.cell 3
            go_simp
            clear z0
            refine hK.out _ _ kS (fun h1 => ?_)
            clear hHeld hK K
            try simp only [Act.put, List.setIfInBounds_toArray, List.set_cons_zero, List.set_cons_succ]
            refine wpAnyH_ready (rs := [3]) (by kernel_rfl) (by simp) ?_
            refine AllReadyH.cons (o := ⟨some 30, _, _, _, _, _⟩) rfl (fun K hK => ?_) AllReadyH.nil
            rw [if_pos (by rfl)]
            have z0 : wd.cell? ⟨p1, 3, none⟩ = some (.slice s.sl.A s.sl.n s.sl.cap) := b1.cell 3
            go_simp
            clear z0
            refine hK.out _ _ kS (fun h2 => ?_)
            clear h1 hK K
            try simp only [Act.put, List.setIfInBounds_toArray, List.set_cons_zero, List.set_cons_succ]
            refine wpAnyH_take (i := 4) (oi := ⟨some 31, _, _, _, _, _⟩) (v := ?_) rfl (by kernel_rfl) (by kernel_rfl) (by kernel_rfl) (fun _ _ _ h => h) (Or.inl ⟨by rfl, ?_⟩) (by assumption) ?_
            rotate_left 1
            · (intro W hSw; go_simp <;> with_reducible rfl)
            try simp only [Act.put, List.setIfInBounds_toArray, List.set_cons_zero, List.set_cons_succ]
            refine wpAnyH_ready (rs := [5]) (by kernel_rfl) (by simp) ?_
            refine AllReadyH.cons (o := ⟨some 32, _, _, _, _, _⟩) rfl (fun K hK => ?_) AllReadyH.nil
            go_simp
            refine (near_cut s.sl.n 8 m EM.out.symm wd).mono ?_
            rintro e w3 ⟨rfl, ew3⟩
            have hb3 : Below wd.heap.size wd w3 := by rw [← ew3]; exact Below.refl _ _
            have b1_3 := b1.on hb3
            have b2_3 := b2.on hb3
            have kk_3 := kk.trans (hb3.mono kk.size)
            have S3 : (fun W => Kept (fun g => g = p1) wd W) w3 := Kept.next kS (kept_below (fun _ => False) hb3) (fun _ h => h.elim)
            refine hK.out _ _ S3 (fun h3 => ?_)
            clear h2 hK K
            try simp only [Act.put, List.setIfInBounds_toArray, List.set_cons_zero, List.set_cons_succ]
            refine wpAnyH_take (i := 6) (oi := ⟨some 33, _, _, _, _, _⟩) (v := ?_) rfl (by kernel_rfl) (by kernel_rfl) (by kernel_rfl) (fun _ _ _ h => h) (Or.inl ⟨by rfl, ?_⟩) (by assumption) ?_
            rotate_left 1
            · (intro W hSw; go_simp <;> with_reducible rfl)
            try simp only [Act.put, List.setIfInBounds_toArray, List.set_cons_zero, List.set_cons_succ]
            refine wpAnyH_take (i := 7) (oi := ⟨some 34, _, _, _, _, _⟩) (v := ?_) rfl (by kernel_rfl) (by kernel_rfl) (by kernel_rfl) (fun _ _ _ h => h) (Or.inl ⟨by rfl, ?_⟩) (by assumption) ?_
            rotate_left 1
            · (intro W hSw; go_simp <;> with_reducible rfl)
            try simp only [Act.put, List.setIfInBounds_toArray, List.set_cons_zero, List.set_cons_succ]
            refine wpAnyH_ready (rs := [8]) (by kernel_rfl) (by simp) ?_
            refine AllReadyH.cons (o := ⟨none, _, _, _, _, _⟩) rfl (fun K hK => ?_) AllReadyH.nil
            rw [if_pos (by rfl)]
            have z0 : w3.cell? ⟨p1, 3, none⟩ = some (.slice s.sl.A s.sl.n s.sl.cap) := b1_3.cell 3
            have z1 := b1_3.free 3
            go_simp
            clear z0 z1
            refine hK.out _ _ (S3.next (kept_cell _ ⟨p1, 3, none⟩ _) (fun g e => .inl e)) (fun h4 => ?_)
            clear h3 hK K
            try simp only [Act.put]
            refine wpAnyH_done (by kernel_rfl) ?_ _
            refine NoPanic.normal ?_
            go_wp2_with fail
            go_meet
            exact ⟨kk_3.trans (set_below (i := 3) (v := .slice s.sl.A m s.sl.cap) rfl hp1 kk_3.size), set_named b1_3 rfl (by rw [← EM.out]; rfl), set_far b2_3 rfl (by omega)⟩
          · rw [if_pos (by rfl)]
            have z0 : wd.cell? ⟨p1, 3, none⟩ = some (.slice s.sl.A s.sl.n s.sl.cap) := b1.cell 3
            go_simp
            clear z0
            refine hK.out _ _ kS (fun h5 => ?_)
            clear hHeld hK K
            try simp only [Act.put, List.setIfInBounds_toArray, List.set_cons_zero, List.set_cons_succ]
            refine wpAnyH_take (i := 4) (oi := ⟨some 31, _, _, _, _, _⟩) (v := ?_) rfl (by kernel_rfl) (by kernel_rfl) (by kernel_rfl) (fun _ _ _ h => h) (Or.inl ⟨by rfl, ?_⟩) (by assumption) ?_
            rotate_left 1
            · (intro W hSw; go_simp <;> with_reducible rfl)
            try simp only [Act.put, List.setIfInBounds_toArray, List.set_cons_zero, List.set_cons_succ]
            refine wpAnyH_ready (rs := [1, 5]) (by kernel_rfl) (by simp) ?_
            refine AllReadyH.cons (o := ⟨some 28, _, _, _, _, _⟩) rfl (fun K hK => ?_) (AllReadyH.cons (o := ⟨some 32, _, _, _, _, _⟩) rfl (fun K hK => ?_) AllReadyH.nil)
            · rw [if_pos (by rfl)]
              have z0 : wd.cell? ⟨p1, 3, none⟩ = some (.slice s.sl.A s.sl.n s.sl.cap) := b1.cell 3
              go_simp
              clear z0
              refine hK.out _ _ kS (fun h6 => ?_)
              clear h5 hK K
              try simp only [Act.put, List.setIfInBounds_toArray, List.set_cons_zero, List.set_cons_succ]
              refine wpAnyH_ready (rs := [5]) (by kernel_rfl) (by simp) ?_
              refine AllReadyH.cons (o := ⟨some 32, _, _, _, _, _⟩) rfl (fun K hK => ?_) AllReadyH.nil
              go_simp
              refine (near_cut s.sl.n 8 m EM.out.symm wd).mono ?_
              rintro e w7 ⟨rfl, ew7⟩
              have hb7 : Below wd.heap.size wd w7 := by rw [← ew7]; exact Below.refl _ _
              have b1_7 := b1.on hb7
              have b2_7 := b2.on hb7
              have kk_7 := kk.trans (hb7.mono kk.size)
              have S7 : (fun W => Kept (fun g => g = p1) wd W) w7 := Kept.next kS (kept_below (fun _ => False) hb7) (fun _ h => h.elim)
              refine hK.out _ _ S7 (fun h7 => ?_)
              clear h6 hK K
              try simp only [Act.put, List.setIfInBounds_toArray, List.set_cons_zero, List.set_cons_succ]
              refine wpAnyH_take (i := 6) (oi := ⟨some 33, _, _, _, _, _⟩) (v := ?_) rfl (by kernel_rfl) (by kernel_rfl) (by kernel_rfl) (fun _ _ _ h => h) (Or.inl ⟨by rfl, ?_⟩) (by assumption) ?_
              rotate_left 1
              · (intro W hSw; go_simp <;> with_reducible rfl)
              try simp only [Act.put, List.setIfInBounds_toArray, List.set_cons_zero, List.set_cons_succ]
              refine wpAnyH_take (i := 7) (oi := ⟨some 34, _, _, _, _, _⟩) (v := ?_) rfl (by kernel_rfl) (by kernel_rfl) (by kernel_rfl) (fun _ _ _ h => h) (Or.inl ⟨by rfl, ?_⟩) (by assumption) ?_
              rotate_left 1
              · (intro W hSw; go_simp <;> with_reducible rfl)
              try simp only [Act.put, List.setIfInBounds_toArray, List.set_cons_zero, List.set_cons_succ]
              refine wpAnyH_ready (rs := [8]) (by kernel_rfl) (by simp) ?_
              refine AllReadyH.cons (o := ⟨none, _, _, _, _, _⟩) rfl (fun K hK => ?_) AllReadyH.nil
              rw [if_pos (by rfl)]
              have z0 : w7.cell? ⟨p1, 3, none⟩ = some (.slice s.sl.A s.sl.n s.sl.cap) := b1_7.cell 3
              have z1 := b1_7.free 3
              go_simp
              clear z0 z1
              refine hK.out _ _ (S7.next (kept_cell _ ⟨p1, 3, none⟩ _) (fun g e => .inl e)) (fun h8 => ?_)
              clear h7 hK K
              try simp only [Act.put]
              refine wpAnyH_done (by kernel_rfl) ?_ _
              refine NoPanic.normal ?_
              go_wp2_with fail
              go_meet
              exact ⟨kk_7.trans (set_below (i := 3) (v := .slice s.sl.A m s.sl.cap) rfl hp1 kk_7.size), set_named b1_7 rfl (by rw [← EM.out]; rfl), set_far b2_7 rfl (by omega)⟩
            · go_simp
              refine (near_cut s.sl.n 8 m EM.out.symm wd).mono ?_
              rintro e w9 ⟨rfl, ew9⟩
              have hb9 : Below wd.heap.size wd w9 := by rw [← ew9]; exact Below.refl _ _
              have b1_9 := b1.on hb9
              have b2_9 := b2.on hb9
              have kk_9 := kk.trans (hb9.mono kk.size)
              have S9 : (fun W => Kept (fun g => g = p1) wd W) w9 := Kept.next kS (kept_below (fun _ => False) hb9) (fun _ h => h.elim)
              refine hK.out _ _ S9 (fun h9 => ?_)
              clear h5 hK K
              try simp only [Act.put, List.setIfInBounds_toArray, List.set_cons_zero, List.set_cons_succ]
              refine wpAnyH_ready (rs := [1]) (by kernel_rfl) (by simp) ?_
              refine AllReadyH.cons (o := ⟨some 28, _, _, _, _, _⟩) rfl (fun K hK => ?_) AllReadyH.nil
              rw [if_pos (by rfl)]
              have z0 : w9.cell? ⟨p1, 3, none⟩ = some (.slice s.sl.A s.sl.n s.sl.cap) := b1_9.cell 3
              go_simp
              clear z0
              refine hK.out _ _ S9 (fun h10 => ?_)
              clear h9 hK K
              try simp only [Act.put, List.setIfInBounds_toArray, List.set_cons_zero, List.set_cons_succ]
              refine wpAnyH_take (i := 6) (oi := ⟨some 33, _, _, _, _, _⟩) (v := ?_) rfl (by kernel_rfl) (by kernel_rfl) (by kernel_rfl) (fun _ _ _ h => h) (Or.inl ⟨by rfl, ?_⟩) (by assumption) ?_
              rotate_left 1
              · (intro W hSw; go_simp <;> with_reducible rfl)
              try simp only [Act.put, List.setIfInBounds_toArray, List.set_cons_zero, List.set_cons_succ]
              refine wpAnyH_take (i := 7) (oi := ⟨some 34, _, _, _, _, _⟩) (v := ?_) rfl (by kernel_rfl) (by kernel_rfl) (by kernel_rfl) (fun _ _ _ h => h) (Or.inl ⟨by rfl, ?_⟩) (by assumption) ?_
              rotate_left 1
              · (intro W hSw; go_simp <;> with_reducible rfl)
              try simp only [Act.put, List.setIfInBounds_toArray, List.set_cons_zero, List.set_cons_succ]
              refine wpAnyH_ready (rs := [8]) (by kernel_rfl) (by simp) ?_
              refine AllReadyH.cons (o := ⟨none, _, _, _, _, _⟩) rfl (fun K hK => ?_) AllReadyH.nil
              rw [if_pos (by rfl)]
              have z0 : w9.cell? ⟨p1, 3, none⟩ = some (.slice s.sl.A s.sl.n s.sl.cap) := b1_9.cell 3
              have z1 := b1_9.free 3
              go_simp
              clear z0 z1
              refine hK.out _ _ (S9.next (kept_cell _ ⟨p1, 3, none⟩ _) (fun g e => .inl e)) (fun h11 => ?_)
              clear h10 hK K
              try simp only [Act.put]
              refine wpAnyH_done (by kernel_rfl) ?_ _
              refine NoPanic.normal ?_
              go_wp2_with fail
              go_meet
              exact ⟨kk_9.trans (set_below (i := 3) (v := .slice s.sl.A m s.sl.cap) rfl hp1 kk_9.size), set_named b1_9 rfl (by rw [← EM.out]; rfl), set_far b2_9 rfl (by omega)⟩
        case rest =>
          clear kk b1 b2
          obtain ⟨kk, b1, b2⟩ := hcut
          go_wp2_with fail
          go_cut [] (fun wx => Below w.heap.size w wx ∧ Blk wx p1 29 (few5 s).cs.toArray ∧ Blk wx p2 29 #[.slice none 0 0, .slice none 0 0, .slice none 0 0, .slice none 0 0, .slice none 0 0, .slice none 0 0, .int .i64 0, .slice none 0 0, .slice none 0 0])
          case first =>
            obtain ⟨wd, ed⟩ : ∃ W, wc.drew = W := ⟨_, rfl⟩
            have hd : Below wc.heap.size wc wd := by rw [← ed]; exact (Below.refl _ _).drew
            replace b1 := b1.on hd
            replace b2 := b2.on hd
            replace kk := kk.trans (hd.mono kk.size)
            clear hd
            have kS : Kept (fun g => g = p1) wd wd := Kept.refl _ _
            obtain ⟨m, em⟩ : ∃ m, min s.ce.n 6 = m := ⟨_, rfl⟩
            have EM := Lib.hid em
            have hm : m ≤ s.ce.n := by omega
            obtain ⟨r1, r2, r3⟩ := hok.ce
            unfold maxLen at r2
            have hcut := fun W => upto25 s.ce.A s.ce.n s.ce.cap m (by omega) r3 W
            clear em r3
            refine wp_region_noPanic ?_
            refine wp_region_held_drew (S := (fun W => Kept (fun g => g = p1) wd W)) (by kernel_rfl) (by rw [ed]; exact kS) (fun hHeld => ?_)
            rw [ed] at hHeld ⊢
            refine wpAnyH_take (i := 0) (oi := ⟨some 35, _, _, _, _, _⟩) (v := ?_) rfl (by kernel_rfl) (by kernel_rfl) (by kernel_rfl) (fun _ _ _ h => h) (Or.inl ⟨by rfl, ?_⟩) (by assumption) ?_
            rotate_left 1
            · (intro W hSw; go_simp <;> with_reducible rfl)
            try simp only [Act.put, List.setIfInBounds_toArray, List.set_cons_zero, List.set_cons_succ]
            refine wpAnyH_take (i := 2) (oi := ⟨some 37, _, _, _, _, _⟩) (v := ?_) rfl (by kernel_rfl) (by kernel_rfl) (by kernel_rfl) (fun _ _ _ h => h) (Or.inl ⟨by rfl, ?_⟩) (by assumption) ?_
            rotate_left 1
            · (intro W hSw; go_simp <;> with_reducible rfl)
            try simp only [Act.put, List.setIfInBounds_toArray, List.set_cons_zero, List.set_cons_succ]
            refine wpAnyH_ready (rs := [1, 3]) (by kernel_rfl) (by simp) ?_
            refine AllReadyH.cons (o := ⟨some 36, _, _, _, _, _⟩) rfl (fun K hK => ?_) (AllReadyH.cons (o := ⟨some 38, _, _, _, _, _⟩) rfl (fun K hK => ?_) AllReadyH.nil)
            · rw [if_pos (by rfl)]
              have z0 : wd.cell? ⟨p1, 4, none⟩ = some (.slice s.ce.A s.ce.n s.ce.cap) := b1.cell 4
              go_simp
              clear z0
              refine hK.out _ _ kS (fun h1 => ?_)
              clear hHeld hK K
              try simp only [Act.put, List.setIfInBounds_toArray, List.set_cons_zero, List.set_cons_succ]
              refine wpAnyH_ready (rs := [3]) (by kernel_rfl) (by simp) ?_
              refine AllReadyH.cons (o := ⟨some 38, _, _, _, _, _⟩) rfl (fun K hK => ?_) AllReadyH.nil
              rw [if_pos (by rfl)]
              have z0 : wd.cell? ⟨p1, 4, none⟩ = some (.slice s.ce.A s.ce.n s.ce.cap) := b1.cell 4
              go_simp
              clear z0
              refine hK.out _ _ kS (fun h2 => ?_)
              clear h1 hK K
              try simp only [Act.put, List.setIfInBounds_toArray, List.set_cons_zero, List.set_cons_succ]
              refine wpAnyH_take (i := 4) (oi := ⟨some 39, _, _, _, _, _⟩) (v := ?_) rfl (by kernel_rfl) (by kernel_rfl) (by kernel_rfl) (fun _ _ _ h => h) (Or.inl ⟨by rfl, ?_⟩) (by assumption) ?_
              rotate_left 1
              · (intro W hSw; go_simp <;> with_reducible rfl)
              try simp only [Act.put, List.setIfInBounds_toArray, List.set_cons_zero, List.set_cons_succ]
              refine wpAnyH_ready (rs := [5]) (by kernel_rfl) (by simp) ?_
              refine AllReadyH.cons (o := ⟨some 40, _, _, _, _, _⟩) rfl (fun K hK => ?_) AllReadyH.nil
              go_simp
              refine (near_cut s.ce.n 6 m EM.out.symm wd).mono ?_
              rintro e w3 ⟨rfl, ew3⟩
              have hb3 : Below wd.heap.size wd w3 := by rw [← ew3]; exact Below.refl _ _
              have b1_3 := b1.on hb3
              have b2_3 := b2.on hb3
              have kk_3 := kk.trans (hb3.mono kk.size)
              have S3 : (fun W => Kept (fun g => g = p1) wd W) w3 := Kept.next kS (kept_below (fun _ => False) hb3) (fun _ h => h.elim)
              refine hK.out _ _ S3 (fun h3 => ?_)
              clear h2 hK K
              try simp only [Act.put, List.setIfInBounds_toArray, List.set_cons_zero, List.set_cons_succ]
              refine wpAnyH_take (i := 6) (oi := ⟨some 41, _, _, _, _, _⟩) (v := ?_) rfl (by kernel_rfl) (by kernel_rfl) (by kernel_rfl) (fun _ _ _ h => h) (Or.inl ⟨by rfl, ?_⟩) (by assumption) ?_
              rotate_left 1
              · (intro W hSw; go_simp <;> with_reducible rfl)
              try simp only [Act.put, List.setIfInBounds_toArray, List.set_cons_zero, List.set_cons_succ]
              refine wpAnyH_take (i := 7) (oi := ⟨some 42, _, _, _, _, _⟩) (v := ?_) rfl (by kernel_rfl) (by kernel_rfl) (by kernel_rfl) (fun _ _ _ h => h) (Or.inl ⟨by rfl, ?_⟩) (by assumption) ?_
              rotate_left 1
              · (intro W hSw; go_simp <;> with_reducible rfl)
              try simp only [Act.put, List.setIfInBounds_toArray, List.set_cons_zero, List.set_cons_succ]
              refine wpAnyH_ready (rs := [8]) (by kernel_rfl) (by simp) ?_
              refine AllReadyH.cons (o := ⟨none, _, _, _, _, _⟩) rfl (fun K hK => ?_) AllReadyH.nil
              rw [if_pos (by rfl)]
              have z0 : w3.cell? ⟨p1, 4, none⟩ = some (.slice s.ce.A s.ce.n s.ce.cap) := b1_3.cell 4
              have z1 := b1_3.free 4
              go_simp
              clear z0 z1
              refine hK.out _ _ (S3.next (kept_cell _ ⟨p1, 4, none⟩ _) (fun g e => .inl e)) (fun h4 => ?_)
              clear h3 hK K
              try simp only [Act.put]
              refine wpAnyH_done (by kernel_rfl) ?_ _
              refine NoPanic.normal ?_
              go_wp2_with fail
              go_meet
              exact ⟨kk_3.trans (set_below (i := 4) (v := .slice s.ce.A m s.ce.cap) rfl hp1 kk_3.size), set_named b1_3 rfl (by rw [← EM.out]; rfl), set_far b2_3 rfl (by omega)⟩
            · rw [if_pos (by rfl)]
              have z0 : wd.cell? ⟨p1, 4, none⟩ = some (.slice s.ce.A s.ce.n s.ce.cap) := b1.cell 4
              go_simp
              clear z0
              refine hK.out _ _ kS (fun h5 => ?_)
              clear hHeld hK K
              try simp only [Act.put, List.setIfInBounds_toArray, List.set_cons_zero, List.set_cons_succ]
              refine wpAnyH_take (i := 4) (oi := ⟨some 39, _, _, _, _, _⟩) (v := ?_) rfl (by kernel_rfl) (by kernel_rfl) (by kernel_rfl) (fun _ _ _ h => h) (Or.inl ⟨by rfl, ?_⟩) (by assumption) ?_
              rotate_left 1
              · (intro W hSw; go_simp <;> with_reducible rfl)
              try simp only [Act.put, List.setIfInBounds_toArray, List.set_cons_zero, List.set_cons_succ]
              refine wpAnyH_ready (rs := [1, 5]) (by kernel_rfl) (by simp) ?_
              refine AllReadyH.cons (o := ⟨some 36, _, _, _, _, _⟩) rfl (fun K hK => ?_) (AllReadyH.cons (o := ⟨some 40, _, _, _, _, _⟩) rfl (fun K hK => ?_) AllReadyH.nil)
              · rw [if_pos (by rfl)]
                have z0 : wd.cell? ⟨p1, 4, none⟩ = some (.slice s.ce.A s.ce.n s.ce.cap) := b1.cell 4
                go_simp
                clear z0
                refine hK.out _ _ kS (fun h6 => ?_)
                clear h5 hK K
                try simp only [Act.put, List.setIfInBounds_toArray, List.set_cons_zero, List.set_cons_succ]
                refine wpAnyH_ready (rs := [5]) (by kernel_rfl) (by simp) ?_
                refine AllReadyH.cons (o := ⟨some 40, _, _, _, _, _⟩) rfl (fun K hK => ?_) AllReadyH.nil
                go_simp
                refine (near_cut s.ce.n 6 m EM.out.symm wd).mono ?_
                rintro e w7 ⟨rfl, ew7⟩
                have hb7 : Below wd.heap.size wd w7 := by rw [← ew7]; exact Below.refl _ _
                have b1_7 := b1.on hb7
                have b2_7 := b2.on hb7
                have kk_7 := kk.trans (hb7.mono kk.size)
                have S7 : (fun W => Kept (fun g => g = p1) wd W) w7 := Kept.next kS (kept_below (fun _ => False) hb7) (fun _ h => h.elim)
                refine hK.out _ _ S7 (fun h7 => ?_)
                clear h6 hK K
                try simp only [Act.put, List.setIfInBounds_toArray, List.set_cons_zero, List.set_cons_succ]
                refine wpAnyH_take (i := 6) (oi := ⟨some 41, _, _, _, _, _⟩) (v := ?_) rfl (by kernel_rfl) (by kernel_rfl) (by kernel_rfl) (fun _ _ _ h => h) (Or.inl ⟨by rfl, ?_⟩) (by assumption) ?_
                rotate_left 1
                · (intro W hSw; go_simp <;> with_reducible rfl)
                try simp only [Act.put, List.setIfInBounds_toArray, List.set_cons_zero, List.set_cons_succ]
                refine wpAnyH_take (i := 7) (oi := ⟨some 42, _, _, _, _, _⟩) (v := ?_) rfl (by kernel_rfl) (by kernel_rfl) (by kernel_rfl) (fun _ _ _ h => h) (Or.inl ⟨by rfl, ?_⟩) (by assumption) ?_
                rotate_left 1
                · (intro W hSw; go_simp <;> with_reducible rfl)
                try simp only [Act.put, List.setIfInBounds_toArray, List.set_cons_zero, List.set_cons_succ]
                refine wpAnyH_ready (rs := [8]) (by kernel_rfl) (by simp) ?_
                refine AllReadyH.cons (o := ⟨none, _, _, _, _, _⟩) rfl (fun K hK => ?_) AllReadyH.nil
                rw [if_pos (by rfl)]
                have z0 : w7.cell? ⟨p1, 4, none⟩ = some (.slice s.ce.A s.ce.n s.ce.cap) := b1_7.cell 4
                have z1 := b1_7.free 4
                go_simp
                clear z0 z1
                refine hK.out _ _ (S7.next (kept_cell _ ⟨p1, 4, none⟩ _) (fun g e => .inl e)) (fun h8 => ?_)
                clear h7 hK K
                try simp only [Act.put]
                refine wpAnyH_done (by kernel_rfl) ?_ _
                refine NoPanic.normal ?_
                go_wp2_with fail
                go_meet
                exact ⟨kk_7.trans (set_below (i := 4) (v := .slice s.ce.A m s.ce.cap) rfl hp1 kk_7.size), set_named b1_7 rfl (by rw [← EM.out]; rfl), set_far b2_7 rfl (by omega)⟩
              · go_simp
                refine (near_cut s.ce.n 6 m EM.out.symm wd).mono ?_
                rintro e w9 ⟨rfl, ew9⟩
                have hb9 : Below wd.heap.size wd w9 := by rw [← ew9]; exact Below.refl _ _
                have b1_9 := b1.on hb9
                have b2_9 := b2.on hb9
                have kk_9 := kk.trans (hb9.mono kk.size)
                have S9 : (fun W => Kept (fun g => g = p1) wd W) w9 := Kept.next kS (kept_below (fun _ => False) hb9) (fun _ h => h.elim)
                refine hK.out _ _ S9 (fun h9 => ?_)
                clear h5 hK K
                try simp only [Act.put, List.setIfInBounds_toArray, List.set_cons_zero, List.set_cons_succ]
                refine wpAnyH_ready (rs := [1]) (by kernel_rfl) (by simp) ?_
                refine AllReadyH.cons (o := ⟨some 36, _, _, _, _, _⟩) rfl (fun K hK => ?_) AllReadyH.nil
                rw [if_pos (by rfl)]
                have z0 : w9.cell? ⟨p1, 4, none⟩ = some (.slice s.ce.A s.ce.n s.ce.cap) := b1_9.cell 4
                go_simp
                clear z0
                refine hK.out _ _ S9 (fun h10 => ?_)
                clear h9 hK K
                try simp only [Act.put, List.setIfInBounds_toArray, List.set_cons_zero, List.set_cons_succ]
                refine wpAnyH_take (i := 6) (oi := ⟨some 41, _, _, _, _, _⟩) (v := ?_) rfl (by kernel_rfl) (by kernel_rfl) (by kernel_rfl) (fun _ _ _ h => h) (Or.inl ⟨by rfl, ?_⟩) (by assumption) ?_
                rotate_left 1
                · (intro W hSw; go_simp <;> with_reducible rfl)
                try simp only [Act.put, List.setIfInBounds_toArray, List.set_cons_zero, List.set_cons_succ]
                refine wpAnyH_take (i := 7) (oi := ⟨some 42, _, _, _, _, _⟩) (v := ?_) rfl (by kernel_rfl) (by kernel_rfl) (by kernel_rfl) (fun _ _ _ h => h) (Or.inl ⟨by rfl, ?_⟩) (by assumption) ?_
                rotate_left 1
                · (intro W hSw; go_simp <;> with_reducible rfl)
                try simp only [Act.put, List.setIfInBounds_toArray, List.set_cons_zero, List.set_cons_succ]
                refine wpAnyH_ready (rs := [8]) (by kernel_rfl) (by simp) ?_
                refine AllReadyH.cons (o := ⟨none, _, _, _, _, _⟩) rfl (fun K hK => ?_) AllReadyH.nil
                rw [if_pos (by rfl)]
                have z0 : w9.cell? ⟨p1, 4, none⟩ = some (.slice s.ce.A s.ce.n s.ce.cap) := b1_9.cell 4
                have z1 := b1_9.free 4
                go_simp
                clear z0 z1
                refine hK.out _ _ (S9.next (kept_cell _ ⟨p1, 4, none⟩ _) (fun g e => .inl e)) (fun h11 => ?_)
                clear h10 hK K
                try simp only [Act.put]
                refine wpAnyH_done (by kernel_rfl) ?_ _
                refine NoPanic.normal ?_
                go_wp2_with fail
                go_meet
                exact ⟨kk_9.trans (set_below (i := 4) (v := .slice s.ce.A m s.ce.cap) rfl hp1 kk_9.size), set_named b1_9 rfl (by rw [← EM.out]; rfl), set_far b2_9 rfl (by omega)⟩
          case rest =>
            clear kk b1 b2
            obtain ⟨kk, b1, b2⟩ := hcut
            go_wp2_with fail
            go_cut [] (fun wx => Below w.heap.size w wx ∧ Blk wx p1 29 (fewS s).cs.toArray ∧ Blk wx p2 29 #[.slice none 0 0, .slice none 0 0, .slice none 0 0, .slice none 0 0, .slice none 0 0, .slice none 0 0, .int .i64 0, .slice none 0 0, .slice none 0 0])
            case first =>
              obtain ⟨wd, ed⟩ : ∃ W, wc.drew = W := ⟨_, rfl⟩
              have hd : Below wc.heap.size wc wd := by rw [← ed]; exact (Below.refl _ _).drew
              replace b1 := b1.on hd
              replace b2 := b2.on hd
              replace kk := kk.trans (hd.mono kk.size)
              clear hd
              have kS : Kept (fun g => g = p1) wd wd := Kept.refl _ _
              obtain ⟨m, em⟩ : ∃ m, min s.fr.n 8 = m := ⟨_, rfl⟩
              have EM := Lib.hid em
              have hm : m ≤ s.fr.n := by omega
              obtain ⟨r1, r2, r3⟩ := hok.fr
              unfold maxLen at r2
              have hcut := fun W => upto26 s.fr.A s.fr.n s.fr.cap m (by omega) r3 W
              clear em r3
              refine wp_region_noPanic ?_
              refine wp_region_held_drew (S := (fun W => Kept (fun g => g = p1) wd W)) (by kernel_rfl) (by rw [ed]; exact kS) (fun hHeld => ?_)
              rw [ed] at hHeld ⊢
              refine wpAnyH_take (i := 0) (oi := ⟨some 43, _, _, _, _, _⟩) (v := ?_) rfl (by kernel_rfl) (by kernel_rfl) (by kernel_rfl) (fun _ _ _ h => h) (Or.inl ⟨by rfl, ?_⟩) (by assumption) ?_
              rotate_left 1
              · (intro W hSw; go_simp <;> with_reducible rfl)
              try simp only [Act.put, List.setIfInBounds_toArray, List.set_cons_zero, List.set_cons_succ]
              refine wpAnyH_take (i := 2) (oi := ⟨some 45, _, _, _, _, _⟩) (v := ?_) rfl (by kernel_rfl) (by kernel_rfl) (by kernel_rfl) (fun _ _ _ h => h) (Or.inl ⟨by rfl, ?_⟩) (by assumption) ?_
              rotate_left 1
              · (intro W hSw; go_simp <;> with_reducible rfl)
              try simp only [Act.put, List.setIfInBounds_toArray, List.set_cons_zero, List.set_cons_succ]
              refine wpAnyH_ready (rs := [1, 3]) (by kernel_rfl) (by simp) ?_
              refine AllReadyH.cons (o := ⟨some 44, _, _, _, _, _⟩) rfl (fun K hK => ?_) (AllReadyH.cons (o := ⟨some 46, _, _, _, _, _⟩) rfl (fun K hK => ?_) AllReadyH.nil)
              · rw [if_pos (by rfl)]
                have z0 : wd.cell? ⟨p1, 5, none⟩ = some (.slice s.fr.A s.fr.n s.fr.cap) := b1.cell 5
                go_simp
                clear z0
                refine hK.out _ _ kS (fun h1 => ?_)
                clear hHeld hK K
                try simp only [Act.put, List.setIfInBounds_toArray, List.set_cons_zero, List.set_cons_succ]
                refine wpAnyH_ready (rs := [3]) (by kernel_rfl) (by simp) ?_
                refine AllReadyH.cons (o := ⟨some 46, _, _, _, _, _⟩) rfl (fun K hK => ?_) AllReadyH.nil
                rw [if_pos (by rfl)]
                have z0 : wd.cell? ⟨p1, 5, none⟩ = some (.slice s.fr.A s.fr.n s.fr.cap) := b1.cell 5
                go_simp
                clear z0
                refine hK.out _ _ kS (fun h2 => ?_)
                clear h1 hK K
                try simp only [Act.put, List.setIfInBounds_toArray, List.set_cons_zero, List.set_cons_succ]
                refine wpAnyH_take (i := 4) (oi := ⟨some 47, _, _, _, _, _⟩) (v := ?_) rfl (by kernel_rfl) (by kernel_rfl) (by kernel_rfl) (fun _ _ _ h => h) (Or.inl ⟨by rfl, ?_⟩) (by assumption) ?_
                rotate_left 1
                · (intro W hSw; go_simp <;> with_reducible rfl)
                try simp only [Act.put, List.setIfInBounds_toArray, List.set_cons_zero, List.set_cons_succ]
                refine wpAnyH_ready (rs := [5]) (by kernel_rfl) (by simp) ?_
                refine AllReadyH.cons (o := ⟨some 48, _, _, _, _, _⟩) rfl (fun K hK => ?_) AllReadyH.nil
                go_simp
                refine (near_cut s.fr.n 8 m EM.out.symm wd).mono ?_
                rintro e w3 ⟨rfl, ew3⟩
                have hb3 : Below wd.heap.size wd w3 := by rw [← ew3]; exact Below.refl _ _
                have b1_3 := b1.on hb3
                have b2_3 := b2.on hb3
                have kk_3 := kk.trans (hb3.mono kk.size)
                have S3 : (fun W => Kept (fun g => g = p1) wd W) w3 := Kept.next kS (kept_below (fun _ => False) hb3) (fun _ h => h.elim)
                refine hK.out _ _ S3 (fun h3 => ?_)
                clear h2 hK K
                try simp only [Act.put, List.setIfInBounds_toArray, List.set_cons_zero, List.set_cons_succ]
                refine wpAnyH_take (i := 6) (oi := ⟨some 49, _, _, _, _, _⟩) (v := ?_) rfl (by kernel_rfl) (by kernel_rfl) (by kernel_rfl) (fun _ _ _ h => h) (Or.inl ⟨by rfl, ?_⟩) (by assumption) ?_
                rotate_left 1
                · (intro W hSw; go_simp <;> with_reducible rfl)
                try simp only [Act.put, List.setIfInBounds_toArray, List.set_cons_zero, List.set_cons_succ]
                refine wpAnyH_take (i := 7) (oi := ⟨some 50, _, _, _, _, _⟩) (v := ?_) rfl (by kernel_rfl) (by kernel_rfl) (by kernel_rfl) (fun _ _ _ h => h) (Or.inl ⟨by rfl, ?_⟩) (by assumption) ?_
                rotate_left 1
                · (intro W hSw; go_simp <;> with_reducible rfl)
                try simp only [Act.put, List.setIfInBounds_toArray, List.set_cons_zero, List.set_cons_succ]
                refine wpAnyH_ready (rs := [8]) (by kernel_rfl) (by simp) ?_
                refine AllReadyH.cons (o := ⟨none, _, _, _, _, _⟩) rfl (fun K hK => ?_) AllReadyH.nil
                rw [if_pos (by rfl)]
                have z0 : w3.cell? ⟨p1, 5, none⟩ = some (.slice s.fr.A s.fr.n s.fr.cap) := b1_3.cell 5
                have z1 := b1_3.free 5
                go_simp
                clear z0 z1
                refine hK.out _ _ (S3.next (kept_cell _ ⟨p1, 5, none⟩ _) (fun g e => .inl e)) (fun h4 => ?_)
                clear h3 hK K
                try simp only [Act.put]
                refine wpAnyH_done (by kernel_rfl) ?_ _
                refine NoPanic.normal ?_
                go_wp2_with fail
                go_meet
                exact ⟨kk_3.trans (set_below (i := 5) (v := .slice s.fr.A m s.fr.cap) rfl hp1 kk_3.size), set_named b1_3 rfl (by rw [← EM.out]; rfl), set_far b2_3 rfl (by omega)⟩
              · rw [if_pos (by rfl)]
                have z0 : wd.cell? ⟨p1, 5, none⟩ = some (.slice s.fr.A s.fr.n s.fr.cap) := b1.cell 5
                go_simp
                clear z0
                refine hK.out _ _ kS (fun h5 => ?_)
                clear hHeld hK K
                try simp only [Act.put, List.setIfInBounds_toArray, List.set_cons_zero, List.set_cons_succ]
                refine wpAnyH_take (i := 4) (oi := ⟨some 47, _, _, _, _, _⟩) (v := ?_) rfl (by kernel_rfl) (by kernel_rfl) (by kernel_rfl) (fun _ _ _ h => h) (Or.inl ⟨by rfl, ?_⟩) (by assumption) ?_
                rotate_left 1
                · (intro W hSw; go_simp <;> with_reducible rfl)
                try simp only [Act.put, List.setIfInBounds_toArray, List.set_cons_zero, List.set_cons_succ]
                refine wpAnyH_ready (rs := [1, 5]) (by kernel_rfl) (by simp) ?_
                refine AllReadyH.cons (o := ⟨some 44, _, _, _, _, _⟩) rfl (fun K hK => ?_) (AllReadyH.cons (o := ⟨some 48, _, _, _, _, _⟩) rfl (fun K hK => ?_) AllReadyH.nil)
                · rw [if_pos (by rfl)]
                  have z0 : wd.cell? ⟨p1, 5, none⟩ = some (.slice s.fr.A s.fr.n s.fr.cap) := b1.cell 5
                  go_simp
                  clear z0
                  refine hK.out _ _ kS (fun h6 => ?_)
                  clear h5 hK K
                  try simp only [Act.put, List.setIfInBounds_toArray, List.set_cons_zero, List.set_cons_succ]
                  refine wpAnyH_ready (rs := [5]) (by kernel_rfl) (by simp) ?_
                  refine AllReadyH.cons (o := ⟨some 48, _, _, _, _, _⟩) rfl (fun K hK => ?_) AllReadyH.nil
                  go_simp
                  refine (near_cut s.fr.n 8 m EM.out.symm wd).mono ?_
                  rintro e w7 ⟨rfl, ew7⟩
                  have hb7 : Below wd.heap.size wd w7 := by rw [← ew7]; exact Below.refl _ _
                  have b1_7 := b1.on hb7
                  have b2_7 := b2.on hb7
                  have kk_7 := kk.trans (hb7.mono kk.size)
                  have S7 : (fun W => Kept (fun g => g = p1) wd W) w7 := Kept.next kS (kept_below (fun _ => False) hb7) (fun _ h => h.elim)
                  refine hK.out _ _ S7 (fun h7 => ?_)
                  clear h6 hK K
                  try simp only [Act.put, List.setIfInBounds_toArray, List.set_cons_zero, List.set_cons_succ]
                  refine wpAnyH_take (i := 6) (oi := ⟨some 49, _, _, _, _, _⟩) (v := ?_) rfl (by kernel_rfl) (by kernel_rfl) (by kernel_rfl) (fun _ _ _ h => h) (Or.inl ⟨by rfl, ?_⟩) (by assumption) ?_
                  rotate_left 1
                  · (intro W hSw; go_simp <;> with_reducible rfl)
                  try simp only [Act.put, List.setIfInBounds_toArray, List.set_cons_zero, List.set_cons_succ]
                  refine wpAnyH_take (i := 7) (oi := ⟨some 50, _, _, _, _, _⟩) (v := ?_) rfl (by kernel_rfl) (by kernel_rfl) (by kernel_rfl) (fun _ _ _ h => h) (Or.inl ⟨by rfl, ?_⟩) (by assumption) ?_
                  rotate_left 1
                  · (intro W hSw; go_simp <;> with_reducible rfl)
                  try simp only [Act.put, List.setIfInBounds_toArray, List.set_cons_zero, List.set_cons_succ]
                  refine wpAnyH_ready (rs := [8]) (by kernel_rfl) (by simp) ?_
                  refine AllReadyH.cons (o := ⟨none, _, _, _, _, _⟩) rfl (fun K hK => ?_) AllReadyH.nil
                  rw [if_pos (by rfl)]
                  have z0 : w7.cell? ⟨p1, 5, none⟩ = some (.slice s.fr.A s.fr.n s.fr.cap) := b1_7.cell 5
                  have z1 := b1_7.free 5
                  go_simp
                  clear z0 z1
                  refine hK.out _ _ (S7.next (kept_cell _ ⟨p1, 5, none⟩ _) (fun g e => .inl e)) (fun h8 => ?_)
                  clear h7 hK K
                  try simp only [Act.put]
                  refine wpAnyH_done (by kernel_rfl) ?_ _
                  refine NoPanic.normal ?_
                  go_wp2_with fail
                  go_meet
                  exact ⟨kk_7.trans (set_below (i := 5) (v := .slice s.fr.A m s.fr.cap) rfl hp1 kk_7.size), set_named b1_7 rfl (by rw [← EM.out]; rfl), set_far b2_7 rfl (by omega)⟩
                · go_simp
                  refine (near_cut s.fr.n 8 m EM.out.symm wd).mono ?_
                  rintro e w9 ⟨rfl, ew9⟩
                  have hb9 : Below wd.heap.size wd w9 := by rw [← ew9]; exact Below.refl _ _
                  have b1_9 := b1.on hb9
                  have b2_9 := b2.on hb9
                  have kk_9 := kk.trans (hb9.mono kk.size)
                  have S9 : (fun W => Kept (fun g => g = p1) wd W) w9 := Kept.next kS (kept_below (fun _ => False) hb9) (fun _ h => h.elim)
                  refine hK.out _ _ S9 (fun h9 => ?_)
                  clear h5 hK K
                  try simp only [Act.put, List.setIfInBounds_toArray, List.set_cons_zero, List.set_cons_succ]
                  refine wpAnyH_ready (rs := [1]) (by kernel_rfl) (by simp) ?_
                  refine AllReadyH.cons (o := ⟨some 44, _, _, _, _, _⟩) rfl (fun K hK => ?_) AllReadyH.nil
                  rw [if_pos (by rfl)]
                  have z0 : w9.cell? ⟨p1, 5, none⟩ = some (.slice s.fr.A s.fr.n s.fr.cap) := b1_9.cell 5
                  go_simp
                  clear z0
                  refine hK.out _ _ S9 (fun h10 => ?_)
                  clear h9 hK K
                  try simp only [Act.put, List.setIfInBounds_toArray, List.set_cons_zero, List.set_cons_succ]
                  refine wpAnyH_take (i := 6) (oi := ⟨some 49, _, _, _, _, _⟩) (v := ?_) rfl (by kernel_rfl) (by kernel_rfl) (by kernel_rfl) (fun _ _ _ h => h) (Or.inl ⟨by rfl, ?_⟩) (by assumption) ?_
                  rotate_left 1
                  · (intro W hSw; go_simp <;> with_reducible rfl)
                  try simp only [Act.put, List.setIfInBounds_toArray, List.set_cons_zero, List.set_cons_succ]
                  refine wpAnyH_take (i := 7) (oi := ⟨some 50, _, _, _, _, _⟩) (v := ?_) rfl (by kernel_rfl) (by kernel_rfl) (by kernel_rfl) (fun _ _ _ h => h) (Or.inl ⟨by rfl, ?_⟩) (by assumption) ?_
                  rotate_left 1
                  · (intro W hSw; go_simp <;> with_reducible rfl)
                  try simp only [Act.put, List.setIfInBounds_toArray, List.set_cons_zero, List.set_cons_succ]
                  refine wpAnyH_ready (rs := [8]) (by kernel_rfl) (by simp) ?_
                  refine AllReadyH.cons (o := ⟨none, _, _, _, _, _⟩) rfl (fun K hK => ?_) AllReadyH.nil
                  rw [if_pos (by rfl)]
                  have z0 : w9.cell? ⟨p1, 5, none⟩ = some (.slice s.fr.A s.fr.n s.fr.cap) := b1_9.cell 5
                  have z1 := b1_9.free 5
                  go_simp
                  clear z0 z1
                  refine hK.out _ _ (S9.next (kept_cell _ ⟨p1, 5, none⟩ _) (fun g e => .inl e)) (fun h11 => ?_)
                  clear h10 hK K
                  try simp only [Act.put]
                  refine wpAnyH_done (by kernel_rfl) ?_ _
                  refine NoPanic.normal ?_
                  go_wp2_with fail
                  go_meet
                  exact ⟨kk_9.trans (set_below (i := 5) (v := .slice s.fr.A m s.fr.cap) rfl hp1 kk_9.size), set_named b1_9 rfl (by rw [← EM.out]; rfl), set_far b2_9 rfl (by omega)⟩
            case rest =>
              clear kk b1 b2
              obtain ⟨kk, b1, b2⟩ := hcut
              have bo2 := b2
              obtain ⟨W9, es9⟩ : ∃ W, wc.setRow p2 (fewS s).cs.toArray = W := ⟨_, rfl⟩
              have b9 := row_named (cs' := (fewS s).cs.toArray) b2 es9
              have k9 := kk.trans (row_below es9 hp2 kk.size)
              go_wp2_with (first | ((with_reducible refine at_load 29 (.tmp 1) ?_); refine wpList_load_row rfl 29 (.tmp 1) rfl p1 rfl 29 (fewS s).cs.toArray (0, 0) _ b1 Try.underlying29 rfl (sizeS _) ?_) | ((with_reducible refine at_store 29 (.tmp 2) (.tmp 51) ?_); refine wpList_store_row rfl 29 (.tmp 2) (.tmp 51) rfl p2 (fewS s).cs.toArray rfl rfl 29 #[.slice none 0 0, .slice none 0 0, .slice none 0 0, .slice none 0 0, .slice none 0 0, .slice none 0 0, .int .i64 0, .slice none 0 0, .slice none 0 0] bo2 (sizeS _) rfl (St.onea _) ?_; rw [es9]))
              refine bodyPost_ret (results_cell_row (cs := (fewS s).cs.toArray) rfl _ _ p2 29 (0, 0) _ rfl b9 Try.underlying29 rfl (sizeS _)) rfl ?_
              first | exact ⟨rfl, k9⟩ | (rw [f1] at k9; exact ⟨rfl, k9⟩)
end Go.Proofs.Ytfmkmmmaoiepmaa
