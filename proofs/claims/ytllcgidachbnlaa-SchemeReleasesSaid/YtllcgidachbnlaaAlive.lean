/- The statements' small trial comes out true. Conditions: none. -/
import Derived.Test.YtllcgidachbnlaaSeeT
import Derived.Deep.DeepCutAuto
namespace Go.Proofs.Ytllcgidachbnlaa
open Go.RowKit Go.ChangeShapes Go.WideShapes Go.Great

/-- The trial's program and config. -/
def P0 (A : Option Addr) : Pg := ⟨0, 0, 1, ⟨A, 2, 2⟩⟩
def C0 : Cf := ⟨1, 0, 1, 1, 0⟩
def T0 (q : Nat) : Th := { noT with bg := ⟨some ⟨q, 0, none⟩, 1, 1⟩ }
theorem P0_ok (A : Option Addr) : (P0 A).Ok := ⟨Nat.le_refl _, by show 2 ≤ maxLen; unfold maxLen; omega⟩
theorem P0_slo (A : Option Addr) : sloZ (P0 A) = 2 := by show cl 2 4 * cl 1 2 = 2; decide
theorem P0_thr (A : Option Addr) : thrZ (P0 A) = 2 := by show cl 2 4 = 2; decide
theorem seesI_zero {w w' : World} {A : Option Addr} {n c : Nat} (h : SeesI w A n c []) : SeesI w' A n c [] :=
  ⟨Sees.len h, Sees.room h, Sees.most h, Sees.none_ h, fun _ _ h0 => absurd h0 (by have := h.len; simp at this; omega)⟩
/-- How the trial's thread stands: its box, and its lists. -/
structure Sta (q : Nat) (w : World) (x : Th) (z : List Int) : Prop where
  box : Blk w q 35 x.cs.toArray
  se : w.ownsRow 0 2 1 (.slice x.se.A x.se.n x.se.cap) x.se.n (ints z)
  bg : w.ownsRow 0 48 3 (.slice x.bg.A x.bg.n x.bg.cap) x.bg.n (flatB [⟨1, 1, 0⟩])
  sn : SeesI w x.sn.A x.sn.n x.sn.cap []
section
variable {q : Nat} {w w' : World} {x y : Th} {z : List Int}
theorem Sta.on (h : Sta q w x z) (hb : Below w.heap.size w w') : Sta q w' x z := ⟨h.box.on hb, ownB_below h.se hb, ownB_below h.bg hb, h.sn.on hb⟩
theorem Sta.reads (h : Sta q w x z) : Reads w x z [⟨1, 1, 0⟩] [] := ⟨own_seesI h.se, own_seesB h.bg, h.sn⟩
theorem Sta.row {B : Nat} {cs : Array Value} (h : Blk w q 35 cs) (o1 : w.ownsRow B 2 1 (.slice y.se.A y.se.n y.se.cap) y.se.n (ints z)) (o2 : w.ownsRow B 48 3 (.slice y.bg.A y.bg.n y.bg.cap) y.bg.n (flatB [⟨1, 1, 0⟩])) (o3 : SeesI w y.sn.A y.sn.n y.sn.cap []) : Sta q (w.setRow q y.cs.toArray) y z :=
  ⟨row_named h rfl, row_own (own_low o1) h (by decide) rfl, row_own (own_low o2) h (by decide) rfl, seesI_zero o3⟩
end
theorem sn_zero {w : World} {A : Option Addr} {n c : Nat} (h : SeesI w A n c []) : n = 0 := by
  have := h.len
  simpa using this.symm
theorem reads0 (A : Option Addr) (w : World) : Calls Try.prog 18 #[.agg (P0 A).cs.toArray, .agg (miK 2).cs.toArray] w fun e w' => e = .returned (.tuple #[.agg #[.int .i64 5, .int .i64 0, .int .i64 0], .bool true]) ∧ Below w.heap.size w w' := by
  have e1 : slotP (miK 2).i ((P0 A).co.n : Int) (P0 A).s = ⟨5, 0, 0⟩ := by show slotP 0 2 1 = _; decide
  have e2 : slotB (miK 2).i ((P0 A).co.n : Int) (P0 A).s = true := by show slotB 0 2 1 = _; decide
  have := reads_any (P0 A) (miK 2) (P0_ok A) rfl w
  rw [e1, e2] at this
  exact this
theorem wide_small {n : Int} (h1 : -10 ≤ n) (h2 : n ≤ 10) : Wide n := ⟨by omega, by omega⟩
/-- What the trial knows of its thread. -/
structure Mid (x : Th) (k i : Int) (m : Nat) : Prop where
  k : x.k = k
  i : x.i = i
  n : x.n = 0
  se : x.se.n = m
  bg : x.bg.n = 1
  sn : x.sn.n = 0
theorem see1 {w : World} {q : Nat} (A : Option Addr) (h : Reads w ((T0 q).wm (miK 2)) [] [⟨1, 1, 0⟩] []) : Calls Try.prog 19 #[.agg (P0 A).cs.toArray, .agg C0.cs.toArray, .int .i64 0, .agg ((T0 q).wm (miK 2)).cs.toArray, .int .i64 5] w fun e w' =>
    ∃ y : Th, e = .returned (.agg y.cs.toArray) ∧ Mid y 2 1 1 ∧ w'.ownsRow w.heap.size 2 1 (.slice y.se.A y.se.n y.se.cap) y.se.n (ints [5]) ∧ w'.ownsRow w.heap.size 48 3 (.slice y.bg.A y.bg.n y.bg.cap) y.bg.n (flatB [⟨1, 1, 0⟩]) ∧ SeesI w' y.sn.A y.sn.n y.sn.cap [] ∧ Below w.heap.size w w' := by
  refine (see_any (P0 A) C0 0 5 (fun A' c' => ⟨2, 1, 0, ⟨A', 0 + 1, c'⟩⟩) (P0_ok A) h (Nat.zero_le _) (by show 1 ≤ 1000; omega) (Nat.le_refl _) rfl (show Wide 0 from wide_small (by decide) (by decide)) (by rw [P0_slo]; decide)
    (fun A' c' => by rw [P0_slo]; unfold nextM; exact if_neg (show ¬ ((2 : Int) - 1 ≤ 0) by decide)) (fun _ _ => rfl)).mono ?_
  rintro e w' ⟨A1, c1, A2, c2, A3, c3, A', c', rfl, o1, o2, o3, hb⟩
  exact ⟨_, rfl, ⟨rfl, rfl, rfl, rfl, rfl, rfl⟩, o1, o2, o3, hb⟩
theorem see2 {w : World} {x : Th} (A : Option Addr) (h : Reads w x [5] [⟨1, 1, 0⟩] []) (H : Mid x 2 1 1) : Calls Try.prog 19 #[.agg (P0 A).cs.toArray, .agg C0.cs.toArray, .int .i64 0, .agg x.cs.toArray, .int .i64 0] w fun e w' =>
    ∃ y : Th, e = .returned (.agg y.cs.toArray) ∧ Mid y 3 0 2 ∧ w'.ownsRow w.heap.size 2 1 (.slice y.se.A y.se.n y.se.cap) y.se.n (ints [5, 0]) ∧ w'.ownsRow w.heap.size 48 3 (.slice y.bg.A y.bg.n y.bg.cap) y.bg.n (flatB [⟨1, 1, 0⟩]) ∧ SeesI w' y.sn.A y.sn.n y.sn.cap [] ∧ Below w.heap.size w w' := by
  refine (see_any (P0 A) C0 0 0 (fun A' c' => ⟨3, 0, 0, ⟨A', x.se.n + 1, c'⟩⟩) (P0_ok A) h (by rw [H.se]; omega) (by rw [H.bg]; omega) (Nat.le_of_eq H.sn) H.k (by rw [H.i]; exact wide_small (by decide) (by decide)) (by rw [P0_slo]; decide)
    (fun A' c' => by rw [P0_slo]; unfold nextM; exact if_pos (by show (2 : Int) - 1 ≤ x.i; rw [H.i]; decide)) (fun _ _ => rfl)).mono ?_
  rintro e w' ⟨A1, c1, A2, c2, A3, c3, A', c', rfl, o1, o2, o3, hb⟩
  exact ⟨_, rfl, ⟨rfl, rfl, rfl, by show x.se.n + 1 = 2; rw [H.se], H.bg, H.sn⟩, o1, o2, o3, hb⟩
theorem rel0 {w : World} {x : Th} (h : Reads w x [5, 0] [⟨1, 1, 0⟩] []) (H : Mid x 3 0 2) : Calls Try.prog 14 #[.agg C0.cs.toArray, .agg x.cs.toArray] w fun e w' => ∃ B1 d1 y, e = .returned (.tuple #[.slice B1 1 d1, .agg (Th.cs y).toArray]) ∧ y.bg.n = 0 ∧ Below w.heap.size w w' := by
  have e1 : goneL C0 x [5, 0] [⟨1, 1, 0⟩] = [⟨1, 1, 0⟩] := by unfold goneL; rw [if_pos (show C0.c = 1 from rfl)]; decide
  have e2 : restL C0 x [5, 0] [⟨1, 1, 0⟩] = [] := by unfold restL; rw [if_pos (show C0.c = 1 from rfl)]; decide
  have := release_any C0 h (by rw [H.se]; omega) (by rw [H.bg]; omega) (by rw [H.sn]; omega) (fun b hb => by rw [List.mem_singleton] at hb; subst hb; exact wide_small (by decide) (by decide)) (by rw [H.n]; exact wide_small (by decide) (by decide))
  rw [e1, e2] at this
  refine this.mono ?_
  rintro e w' ⟨B1, d1, B2, d2, B3, d3, rfl, _, _, hb⟩
  exact ⟨B1, d1, _, rfl, rfl, hb⟩
theorem fac0 (A : Option Addr) (w : World) : Calls Try.prog 20 #[.agg (P0 A).cs.toArray, .agg C0.cs.toArray] w fun e w' => e = .returned (.int .i64 4) ∧ Below w.heap.size w w' := by
  have := factor_any (P0 A) C0 (P0_ok A) rfl w
  rw [P0_slo] at this
  exact this
theorem bou0 (A : Option Addr) (w : World) : Calls Try.prog 21 #[.agg (P0 A).cs.toArray, .agg C0.cs.toArray] w fun e w' => e = .returned (.int .i64 16) ∧ Below w.heap.size w w' := by
  have := bound_any (P0 A) C0 (P0_ok A) rfl ⟨by decide, by decide⟩ w
  rw [P0_slo, P0_thr] at this
  exact this
theorem begK0 (A : Option Addr) {q : Nat} : begK (P0 A) C0 (T0 q) = 2 := by
  unfold begK begG
  rw [if_pos (show C0.c = 1 from rfl), if_pos (show C0.t ≤ ((T0 q).bg.n : Int) from Int.le_refl 1), P0_slo, if_neg (by decide)]
set_option maxRecDepth 100000 in
set_option maxHeartbeats 4000000 in
theorem alive_any (w : World) : Calls Try.prog 5 #[] w fun e w' => e = .returned (.bool true) ∧ Below w.heap.size w w' := by
  obtain ⟨p1, f1⟩ : ∃ p, w.heap.size = p := ⟨_, rfl⟩
  obtain ⟨W1, ea1⟩ : ∃ W, w.alloc (.cells #[.int .i64 0, .int .i64 0, .int .i64 0, .int .i64 0, .int .i64 0] 26) = W := ⟨_, rfl⟩
  have ka1 : Below w.heap.size w W1 := by rw [← ea1]; exact (Below.refl _ w).alloc (Nat.le_refl _) _
  have b1 : Blk W1 p1 26 #[.int .i64 0, .int .i64 0, .int .i64 0, .int .i64 0, .int .i64 0] := by rw [← ea1]; exact blk_new w _ 26 _ f1
  have kk : Below w.heap.size w W1 := ka1
  have hp1 : w.heap.size ≤ p1 := Nat.le_of_eq f1
  clear ka1
  obtain ⟨W2, es2⟩ : ∃ W, W1.setRow p1 C0.cs.toArray = W := ⟨_, rfl⟩
  have bo1 := b1
  replace b1 : Blk W2 p1 26 C0.cs.toArray := row_named b1 es2
  replace kk := kk.trans (row_below es2 hp1 kk.size)
  obtain ⟨p2, f2⟩ : ∃ p, W2.heap.size = p := ⟨_, rfl⟩
  obtain ⟨W3, ea3⟩ : ∃ W, W2.alloc (.cells #[.int .i64 1, .int .i64 1, .int .i64 0] 48) = W := ⟨_, rfl⟩
  have ka3 : Below W2.heap.size W2 W3 := by rw [← ea3]; exact (Below.refl _ W2).alloc (Nat.le_refl _) _
  have b2 : Blk W3 p2 48 #[.int .i64 1, .int .i64 1, .int .i64 0] := by rw [← ea3]; exact blk_new W2 _ 48 _ f2
  have q1_2 : p1 < p2 := by rw [← f2]; exact b1.lt
  replace b1 := b1.on ka3
  have kk0 := kk
  replace kk := kk.trans (ka3.mono kk.size)
  have hp2 : w.heap.size ≤ p2 := by rw [← f2]; exact kk0.size
  clear ka3 kk0
  obtain ⟨p3, f3⟩ : ∃ p, W3.heap.size = p := ⟨_, rfl⟩
  obtain ⟨W4, ea4⟩ : ∃ W, W3.alloc (.cells #[.int .i64 0, .int .i64 0, .int .i64 0, .int .i64 0, .int .i64 0, .int .i64 0, .int .i64 0, .int .i64 0, .int .i64 0, .int .i64 0, .int .i64 0, .int .i64 0, .int .i64 0, .int .i64 0, .int .i64 0, .int .i64 0, .int .i64 0, .int .i64 0, .slice none 0 0, .slice none 0 0, .slice none 0 0, .int .i64 0] 35) = W := ⟨_, rfl⟩
  have ka4 : Below W3.heap.size W3 W4 := by rw [← ea4]; exact (Below.refl _ W3).alloc (Nat.le_refl _) _
  have b3 : Blk W4 p3 35 #[.int .i64 0, .int .i64 0, .int .i64 0, .int .i64 0, .int .i64 0, .int .i64 0, .int .i64 0, .int .i64 0, .int .i64 0, .int .i64 0, .int .i64 0, .int .i64 0, .int .i64 0, .int .i64 0, .int .i64 0, .int .i64 0, .int .i64 0, .int .i64 0, .slice none 0 0, .slice none 0 0, .slice none 0 0, .int .i64 0] := by rw [← ea4]; exact blk_new W3 _ 35 _ f3
  have q1_3 : p1 < p3 := by rw [← f3]; exact b1.lt
  replace b1 := b1.on ka4
  have q2_3 : p2 < p3 := by rw [← f3]; exact b2.lt
  replace b2 := b2.on ka4
  have kk0 := kk
  replace kk := kk.trans (ka4.mono kk.size)
  have hp3 : w.heap.size ≤ p3 := by rw [← f3]; exact kk0.size
  clear ka4 kk0
  obtain ⟨W5, es5⟩ : ∃ W, W4.setRow p3 (T0 p2).cs.toArray = W := ⟨_, rfl⟩
  have bo3 := b3
  replace b1 := row_far b1 es5 (by omega)
  replace b2 := row_far b2 es5 (by omega)
  replace b3 : Blk W5 p3 35 (T0 p2).cs.toArray := row_named b3 es5
  replace kk := kk.trans (row_below es5 hp3 kk.size)
  go_enter Try.func5, Try.ntmps5
  go_wp2_with (first | ((with_reducible refine at_store 26 (.tmp 1) (.tmp 7) ?_); refine wpList_store_row rfl 26 (.tmp 1) (.tmp 7) rfl p1 C0.cs.toArray rfl rfl 26 #[.int .i64 0, .int .i64 0, .int .i64 0, .int .i64 0, .int .i64 0] bo1 size26 rfl (Cf.onea _) ?_; rw [es2]) | ((with_reducible refine at_store 35 (.tmp 2) (.tmp 10) ?_); refine wpList_store_row rfl 35 (.tmp 2) (.tmp 10) rfl p3 (T0 p2).cs.toArray rfl rfl 35 #[.int .i64 0, .int .i64 0, .int .i64 0, .int .i64 0, .int .i64 0, .int .i64 0, .int .i64 0, .int .i64 0, .int .i64 0, .int .i64 0, .int .i64 0, .int .i64 0, .int .i64 0, .int .i64 0, .int .i64 0, .int .i64 0, .int .i64 0, .int .i64 0, .slice none 0 0, .slice none 0 0, .slice none 0 0, .int .i64 0] bo3 (sizeT _) rfl (Th.onea _) ?_; rw [es5]))
  have o2 : W5.ownsRow 0 48 3 (.slice (some ⟨p2, 0, none⟩) 1 1) 1 (flatB [⟨1, 1, 0⟩]) := ⟨rfl, .inr ⟨p2, 1, _, rfl, Nat.zero_le _, b2, Nat.le_refl _, by unfold maxLen; omega, rfl, rfl⟩⟩
  have st : Sta p3 W5 (T0 p2) [] := ⟨b3, World.ownsRow_nil _ _ _ _, o2, ⟨rfl, Nat.le_refl _, Nat.zero_le _, fun _ => rfl, fun ad e => (by cases e)⟩⟩
  have h13 : p1 ≠ p3 := by omega
  have h31 : p3 ≠ p1 := by omega
  clear o2 b2 b3 bo1 bo3 es2 es5 ea1 ea3 ea4 q1_2 q1_3 q2_3 hp1 hp2 f2 f3
  simp only [Act.put]
  go_cut [] (fun wx => Below w.heap.size w wx ∧ Blk wx p1 26 C0.cs.toArray ∧ Sta p3 wx ((T0 p2).wm (miK 2)) [])
  case first =>
    obtain ⟨wd, ed⟩ : ∃ W, W5.drew = W := ⟨_, rfl⟩
    have hd : Below W5.heap.size W5 wd := by rw [← ed]; exact (Below.refl _ _).drew
    replace b1 := b1.on hd
    replace st := st.on hd
    replace kk := kk.trans (hd.mono kk.size)
    clear hd
    have kS : Kept (fun g => g = p3) wd wd := Kept.refl _ _
    have hx : (T0 p2).Ok := st.reads.ok
    refine wp_region_noPanic ?_
    refine wp_region_held_drew (S := (fun W => Kept (fun g => g = p3) wd W)) (by kernel_rfl) (by rw [ed]; exact kS) (fun hHeld => ?_)
    rw [ed] at hHeld ⊢
    refine wpAnyH_take (i := 1) (oi := ⟨some 12, _, _, _, _, _⟩) (v := .agg (List.toArray (C0.cs))) rfl (by kernel_rfl) (by kernel_rfl) (by kernel_rfl) (fun _ _ _ h => h) (yieldsIf_load_mid (by rfl) 26 (.tmp 1) rfl p1 (0) rfl (C0.cs) _ (fun W hW => range_part (b1.kept hW h13) 0 C0.cs rfl) Try.underlying26 rfl size26) (by assumption) ?_
    try simp only [Act.put, List.setIfInBounds_toArray, List.set_cons_zero, List.set_cons_succ]
    refine wpAnyH_ready (rs := [0, 2]) (by kernel_rfl) (by simp) ?_
    refine AllReadyH.cons (o := ⟨some 11, _, _, _, _, _⟩) rfl (fun K hK => ?_) (AllReadyH.cons (o := ⟨some 13, _, _, _, _, _⟩) rfl (fun K hK => ?_) AllReadyH.nil)
    · go_simp
      refine (two_any wd).mono ?_
      rintro e w1 ⟨A1, rfl, hb1⟩
      skip
      have b1_1 := b1.on hb1
      have st_1 := st.on hb1
      have kk_1 := kk.trans (hb1.mono kk.size)
      have S1 : (fun W => Kept (fun g => g = p3) wd W) w1 := Kept.next kS (kept_below (fun _ => False) hb1) (fun _ h => h.elim)
      refine hK.out _ _ S1 (fun h1 => ?_)
      clear hHeld hK K
      try simp only [Act.put, List.setIfInBounds_toArray, List.set_cons_zero, List.set_cons_succ]
      refine wpAnyH_ready (rs := [2]) (by kernel_rfl) (by simp) ?_
      refine AllReadyH.cons (o := ⟨some 13, _, _, _, _, _⟩) rfl (fun K hK => ?_) AllReadyH.nil
      rw [if_pos (by rfl)]
      refine wp_load_row 35 (.tmp 2) rfl p3 rfl 35 (T0 p2).cs.toArray (0, 0) _ st_1.box Try.underlying35 rfl (sizeT _) ?_
      refine hK.out _ _ S1 (fun h2 => ?_)
      clear h1 hK K
      try simp only [Act.put, List.setIfInBounds_toArray, List.set_cons_zero, List.set_cons_succ]
      refine wpAnyH_ready (rs := [3]) (by kernel_rfl) (by simp) ?_
      refine AllReadyH.cons (o := ⟨some 14, _, _, _, _, _⟩) rfl (fun K hK => ?_) AllReadyH.nil
      go_simp
      refine (begin_any (P0 A1) C0 (T0 p2) (P0_ok _) hx w1).mono ?_
      rintro e w3 ⟨rfl, hb3⟩
      have b1_3 := b1_1.on hb3
      have st_3 := st_1.on hb3
      have kk_3 := kk_1.trans (hb3.mono kk_1.size)
      have S3 : (fun W => Kept (fun g => g = p3) wd W) w3 := Kept.next S1 (kept_below (fun _ => False) hb3) (fun _ h => h.elim)
      refine hK.out _ _ S3 (fun h3 => ?_)
      clear h2 hK K
      try simp only [Act.put, List.setIfInBounds_toArray, List.set_cons_zero, List.set_cons_succ]
      refine wpAnyH_take (i := 4) (oi := ⟨some 15, _, _, _, _, _⟩) (v := ?_) rfl (by kernel_rfl) (by kernel_rfl) (by kernel_rfl) (fun _ _ _ h => h) (Or.inl ⟨by rfl, ?_⟩) (by assumption) ?_
      rotate_left 1
      · (intro W hSw; go_simp <;> with_reducible rfl)
      try simp only [Act.put, List.setIfInBounds_toArray, List.set_cons_zero, List.set_cons_succ]
      refine wpAnyH_ready (rs := [5]) (by kernel_rfl) (by simp) ?_
      refine AllReadyH.cons (o := ⟨none, _, _, _, _, _⟩) rfl (fun K hK => ?_) AllReadyH.nil
      rw [if_pos (by rfl)]
      rw [begK0 A1]
      refine wp_store_mid 32 (.tmp 15) (.tmp 14) rfl p3 15 (miK 2).cs.toArray rfl rfl (there_blk st_3.box 15 _ (Nat.le_of_ble_eq_true rfl)) size32 (Mi.onea _) ?_
      refine hK.out _ _ (Kept.next S3 (kept_cells p3 _ _ _) (fun g h => .inl h)) (fun h4 => ?_)
      clear h3 hK K
      try simp only [Act.put]
      refine wpAnyH_done (by kernel_rfl) ?_ _
      refine NoPanic.normal ?_
      go_wp2_with fail
      go_meet
      have stz : Sta p3 (w3.setCells p3 15 (miK 2).cs.toArray.toList) ((T0 p2).wm (miK 2)) [] := ⟨mid_named st_3.box rfl rfl, World.ownsRow_nil _ _ _ _, mid_own st_3.bg st_3.box (by decide) rfl, seesI_zero st_3.sn⟩
      exact ⟨kk_3.trans (mid_below rfl hp3 kk_3.size), mid_far b1_3 rfl h13, stz⟩
    · rw [if_pos (by rfl)]
      refine wp_load_row 35 (.tmp 2) rfl p3 rfl 35 (T0 p2).cs.toArray (0, 0) _ st.box Try.underlying35 rfl (sizeT _) ?_
      refine hK.out _ _ kS (fun h5 => ?_)
      clear hHeld hK K
      try simp only [Act.put, List.setIfInBounds_toArray, List.set_cons_zero, List.set_cons_succ]
      refine wpAnyH_ready (rs := [0]) (by kernel_rfl) (by simp) ?_
      refine AllReadyH.cons (o := ⟨some 11, _, _, _, _, _⟩) rfl (fun K hK => ?_) AllReadyH.nil
      go_simp
      refine (two_any wd).mono ?_
      rintro e w6 ⟨A6, rfl, hb6⟩
      skip
      have b1_6 := b1.on hb6
      have st_6 := st.on hb6
      have kk_6 := kk.trans (hb6.mono kk.size)
      have S6 : (fun W => Kept (fun g => g = p3) wd W) w6 := Kept.next kS (kept_below (fun _ => False) hb6) (fun _ h => h.elim)
      refine hK.out _ _ S6 (fun h6 => ?_)
      clear h5 hK K
      try simp only [Act.put, List.setIfInBounds_toArray, List.set_cons_zero, List.set_cons_succ]
      refine wpAnyH_ready (rs := [3]) (by kernel_rfl) (by simp) ?_
      refine AllReadyH.cons (o := ⟨some 14, _, _, _, _, _⟩) rfl (fun K hK => ?_) AllReadyH.nil
      go_simp
      refine (begin_any (P0 A6) C0 (T0 p2) (P0_ok _) hx w6).mono ?_
      rintro e w7 ⟨rfl, hb7⟩
      have b1_7 := b1_6.on hb7
      have st_7 := st_6.on hb7
      have kk_7 := kk_6.trans (hb7.mono kk_6.size)
      have S7 : (fun W => Kept (fun g => g = p3) wd W) w7 := Kept.next S6 (kept_below (fun _ => False) hb7) (fun _ h => h.elim)
      refine hK.out _ _ S7 (fun h7 => ?_)
      clear h6 hK K
      try simp only [Act.put, List.setIfInBounds_toArray, List.set_cons_zero, List.set_cons_succ]
      refine wpAnyH_take (i := 4) (oi := ⟨some 15, _, _, _, _, _⟩) (v := ?_) rfl (by kernel_rfl) (by kernel_rfl) (by kernel_rfl) (fun _ _ _ h => h) (Or.inl ⟨by rfl, ?_⟩) (by assumption) ?_
      rotate_left 1
      · (intro W hSw; go_simp <;> with_reducible rfl)
      try simp only [Act.put, List.setIfInBounds_toArray, List.set_cons_zero, List.set_cons_succ]
      refine wpAnyH_ready (rs := [5]) (by kernel_rfl) (by simp) ?_
      refine AllReadyH.cons (o := ⟨none, _, _, _, _, _⟩) rfl (fun K hK => ?_) AllReadyH.nil
      rw [if_pos (by rfl)]
      rw [begK0 A6]
      refine wp_store_mid 32 (.tmp 15) (.tmp 14) rfl p3 15 (miK 2).cs.toArray rfl rfl (there_blk st_7.box 15 _ (Nat.le_of_ble_eq_true rfl)) size32 (Mi.onea _) ?_
      refine hK.out _ _ (Kept.next S7 (kept_cells p3 _ _ _) (fun g h => .inl h)) (fun h8 => ?_)
      clear h7 hK K
      try simp only [Act.put]
      refine wpAnyH_done (by kernel_rfl) ?_ _
      refine NoPanic.normal ?_
      go_wp2_with fail
      go_meet
      have stz : Sta p3 (w7.setCells p3 15 (miK 2).cs.toArray.toList) ((T0 p2).wm (miK 2)) [] := ⟨mid_named st_7.box rfl rfl, World.ownsRow_nil _ _ _ _, mid_own st_7.bg st_7.box (by decide) rfl, seesI_zero st_7.sn⟩
      exact ⟨kk_7.trans (mid_below rfl hp3 kk_7.size), mid_far b1_7 rfl h13, stz⟩
  case rest =>
    clear kk b1 st
    obtain ⟨kk, b1, st⟩ := hcut
    go_wp2_with fail
    go_cut [3, 4] (fun s3 s4 wx => ∃ P, s3 = .pointer (some ⟨P, 0, none⟩) ∧ s4 = .bool true ∧ Below w.heap.size w wx ∧ Blk wx p1 26 C0.cs.toArray ∧ Sta p3 wx ((T0 p2).wm (miK 2)) [] ∧ Blk wx P 52 #[.int .i64 5, .int .i64 0, .int .i64 0])
    case first =>
      obtain ⟨wd, ed⟩ : ∃ W, wc.drew = W := ⟨_, rfl⟩
      have hd : Below wc.heap.size wc wd := by rw [← ed]; exact (Below.refl _ _).drew
      replace b1 := b1.on hd
      replace st := st.on hd
      replace kk := kk.trans (hd.mono kk.size)
      clear hd
      have kS : Below wd.heap.size wd wd := Below.refl _ _
      refine wp_region_noPanic ?_
      refine wp_region_held_drew (S := (fun W => Below wd.heap.size wd W)) (by kernel_rfl) (by rw [ed]; exact kS) (fun hHeld => ?_)
      rw [ed] at hHeld ⊢
      refine wpAnyH_take (i := 1) (oi := ⟨some 18, _, _, _, _, _⟩) (v := ?_) rfl (by kernel_rfl) (by kernel_rfl) (by kernel_rfl) (fun _ _ _ h => h) (Or.inl ⟨by rfl, ?_⟩) (by assumption) ?_
      rotate_left 1
      · (intro W hSw; go_simp <;> with_reducible rfl)
      try simp only [Act.put, List.setIfInBounds_toArray, List.set_cons_zero, List.set_cons_succ]
      refine wpAnyH_take (i := 2) (oi := ⟨some 19, _, _, _, _, _⟩) (v := .agg (List.toArray ((miK 2).cs))) rfl (by kernel_rfl) (by kernel_rfl) (by kernel_rfl) (fun _ _ _ h => h) (yieldsIf_load_mid (by rfl) 32 (.tmp 18) rfl p3 (15) rfl ((miK 2).cs) _ (fun W hW => range_part (st.box.on hW) 15 (miK 2).cs rfl) Try.underlying32 rfl size32) (by assumption) ?_
      try simp only [Act.put, List.setIfInBounds_toArray, List.set_cons_zero, List.set_cons_succ]
      refine wpAnyH_ready (rs := [0, 7]) (by kernel_rfl) (by simp) ?_
      refine AllReadyH.cons (o := ⟨some 17, _, _, _, _, _⟩) rfl (fun K hK => ?_) (AllReadyH.cons (o := ⟨some 3, _, _, _, _, _⟩) rfl (fun K hK => ?_) AllReadyH.nil)
      · go_simp
        refine (two_any wd).mono ?_
        rintro e w1 ⟨A1, rfl, hb1⟩
        skip
        have S1 : (fun W => Below wd.heap.size wd W) w1 := Below.trans kS (hb1.mono (Below.size kS))
        refine hK.out _ _ S1 (fun h1 => ?_)
        clear hHeld hK K
        try simp only [Act.put, List.setIfInBounds_toArray, List.set_cons_zero, List.set_cons_succ]
        refine wpAnyH_ready (rs := [3, 7]) (by kernel_rfl) (by simp) ?_
        refine AllReadyH.cons (o := ⟨some 20, _, _, _, _, _⟩) rfl (fun K hK => ?_) (AllReadyH.cons (o := ⟨some 3, _, _, _, _, _⟩) rfl (fun K hK => ?_) AllReadyH.nil)
        · go_simp
          refine (reads0 A1 w1).mono ?_
          rintro e w2 ⟨rfl, hb2⟩
          have S2 : (fun W => Below wd.heap.size wd W) w2 := Below.trans S1 (hb2.mono (Below.size S1))
          refine hK.out _ _ S2 (fun h2 => ?_)
          clear h1 hK K
          try simp only [Act.put, List.setIfInBounds_toArray, List.set_cons_zero, List.set_cons_succ]
          refine wpAnyH_take (i := 4) (oi := ⟨some 16, _, _, _, _, _⟩) (v := ?_) rfl (by kernel_rfl) (by kernel_rfl) (by kernel_rfl) (fun _ _ _ h => h) (Or.inl ⟨by rfl, ?_⟩) (by assumption) ?_
          rotate_left 1
          · (intro W hSw; go_simp <;> with_reducible rfl)
          try simp only [Act.put, List.setIfInBounds_toArray, List.set_cons_zero, List.set_cons_succ]
          refine wpAnyH_take (i := 5) (oi := ⟨some 21, _, _, _, _, _⟩) (v := ?_) rfl (by kernel_rfl) (by kernel_rfl) (by kernel_rfl) (fun _ _ _ h => h) (Or.inl ⟨by rfl, ?_⟩) (by assumption) ?_
          rotate_left 1
          · (intro W hSw; go_simp <;> with_reducible rfl)
          try simp only [Act.put, List.setIfInBounds_toArray, List.set_cons_zero, List.set_cons_succ]
          refine wpAnyH_take (i := 6) (oi := ⟨some 22, _, _, _, _, _⟩) (v := ?_) rfl (by kernel_rfl) (by kernel_rfl) (by kernel_rfl) (fun _ _ _ h => h) (Or.inl ⟨by rfl, ?_⟩) (by assumption) ?_
          rotate_left 1
          · (intro W hSw; go_simp <;> with_reducible rfl)
          try simp only [Act.put, List.setIfInBounds_toArray, List.set_cons_zero, List.set_cons_succ]
          refine wpAnyH_ready (rs := [7]) (by kernel_rfl) (by simp) ?_
          refine AllReadyH.cons (o := ⟨some 3, _, _, _, _, _⟩) rfl (fun K hK => ?_) AllReadyH.nil
          go_simp
          obtain ⟨w3, ew3⟩ : ∃ zz, zz = w2.alloc (.cells #[.int .i64 0, .int .i64 0, .int .i64 0] 52) := ⟨_, rfl⟩
          have hb3 : Below w2.heap.size w2 w3 := by rw [ew3]; exact (Below.refl _ _).alloc (Nat.le_refl _) _
          rw [← ew3]
          have pl3 : Blk w3 w2.heap.size 52 #[.int .i64 0, .int .i64 0, .int .i64 0] := by rw [ew3]; exact heap_alloc_new _ _
          have hP3 : wd.heap.size ≤ w2.heap.size := Below.size S2
          have S3 : (fun W => Below wd.heap.size wd W) w3 := Below.trans S2 (hb3.mono (Below.size S2))
          refine hK.out _ _ S3 (fun h3 => ?_)
          clear h2 hK K ew3
          try simp only [Act.put, List.setIfInBounds_toArray, List.set_cons_zero, List.set_cons_succ]
          refine wpAnyH_ready (rs := [8]) (by kernel_rfl) (by simp) ?_
          refine AllReadyH.cons (o := ⟨none, _, _, _, _, _⟩) rfl (fun K hK => ?_) AllReadyH.nil
          rw [if_pos (by rfl)]
          refine wp_store_row 52 (.tmp 3) (.tmp 21) rfl (w2.heap.size) #[.int .i64 5, .int .i64 0, .int .i64 0] rfl rfl 52 #[.int .i64 0, .int .i64 0, .int .i64 0] pl3 size52 rfl (by simp [Value.oneCell']) ?_
          refine hK.out _ _ (Below.trans S3 (row_below rfl hP3 (Below.size S3))) (fun h4 => ?_)
          clear h3 hK K
          have S4 : Below wd.heap.size wd (w3.setRow (w2.heap.size) #[.int .i64 5, .int .i64 0, .int .i64 0]) := Below.trans S3 (row_below rfl hP3 (Below.size S3))
          have pl4 : Blk (w3.setRow (w2.heap.size) #[.int .i64 5, .int .i64 0, .int .i64 0]) (w2.heap.size) 52 #[.int .i64 5, .int .i64 0, .int .i64 0] := row_named pl3 rfl
          try simp only [Act.put]
          refine wpAnyH_take (i := 9) (oi := ⟨some 4, _, _, _, _, _⟩) (v := ?_) rfl (by kernel_rfl) (by kernel_rfl) (by kernel_rfl) (fun _ _ _ h => h) (Or.inl ⟨by rfl, ?_⟩) (by assumption) ?_
          rotate_left 1
          · (intro W hSw; go_simp <;> with_reducible rfl)
          try simp only [Act.put, List.setIfInBounds_toArray, List.set_cons_zero, List.set_cons_succ]
          refine wpAnyH_done (by kernel_rfl) ?_ _
          refine NoPanic.normal ?_
          go_wp2_with fail
          go_meet
          exact ⟨_, rfl, rfl, kk.trans (S4.mono kk.size), b1.on S4, st.on S4, pl4⟩
        · go_simp
          obtain ⟨w5, ew5⟩ : ∃ zz, zz = w1.alloc (.cells #[.int .i64 0, .int .i64 0, .int .i64 0] 52) := ⟨_, rfl⟩
          have hb5 : Below w1.heap.size w1 w5 := by rw [ew5]; exact (Below.refl _ _).alloc (Nat.le_refl _) _
          rw [← ew5]
          have pl5 : Blk w5 w1.heap.size 52 #[.int .i64 0, .int .i64 0, .int .i64 0] := by rw [ew5]; exact heap_alloc_new _ _
          have hP5 : wd.heap.size ≤ w1.heap.size := Below.size S1
          have S5 : (fun W => Below wd.heap.size wd W) w5 := Below.trans S1 (hb5.mono (Below.size S1))
          refine hK.out _ _ S5 (fun h5 => ?_)
          clear h1 hK K ew5
          try simp only [Act.put, List.setIfInBounds_toArray, List.set_cons_zero, List.set_cons_succ]
          refine wpAnyH_ready (rs := [3]) (by kernel_rfl) (by simp) ?_
          refine AllReadyH.cons (o := ⟨some 20, _, _, _, _, _⟩) rfl (fun K hK => ?_) AllReadyH.nil
          go_simp
          refine (reads0 A1 w5).mono ?_
          rintro e w6 ⟨rfl, hb6⟩
          have pl_6 := pl5.on hb6
          have S6 : (fun W => Below wd.heap.size wd W) w6 := Below.trans S5 (hb6.mono (Below.size S5))
          refine hK.out _ _ S6 (fun h6 => ?_)
          clear h5 hK K
          try simp only [Act.put, List.setIfInBounds_toArray, List.set_cons_zero, List.set_cons_succ]
          refine wpAnyH_take (i := 4) (oi := ⟨some 16, _, _, _, _, _⟩) (v := ?_) rfl (by kernel_rfl) (by kernel_rfl) (by kernel_rfl) (fun _ _ _ h => h) (Or.inl ⟨by rfl, ?_⟩) (by assumption) ?_
          rotate_left 1
          · (intro W hSw; go_simp <;> with_reducible rfl)
          try simp only [Act.put, List.setIfInBounds_toArray, List.set_cons_zero, List.set_cons_succ]
          refine wpAnyH_take (i := 5) (oi := ⟨some 21, _, _, _, _, _⟩) (v := ?_) rfl (by kernel_rfl) (by kernel_rfl) (by kernel_rfl) (fun _ _ _ h => h) (Or.inl ⟨by rfl, ?_⟩) (by assumption) ?_
          rotate_left 1
          · (intro W hSw; go_simp <;> with_reducible rfl)
          try simp only [Act.put, List.setIfInBounds_toArray, List.set_cons_zero, List.set_cons_succ]
          refine wpAnyH_take (i := 6) (oi := ⟨some 22, _, _, _, _, _⟩) (v := ?_) rfl (by kernel_rfl) (by kernel_rfl) (by kernel_rfl) (fun _ _ _ h => h) (Or.inl ⟨by rfl, ?_⟩) (by assumption) ?_
          rotate_left 1
          · (intro W hSw; go_simp <;> with_reducible rfl)
          try simp only [Act.put, List.setIfInBounds_toArray, List.set_cons_zero, List.set_cons_succ]
          refine wpAnyH_ready (rs := [8]) (by kernel_rfl) (by simp) ?_
          refine AllReadyH.cons (o := ⟨none, _, _, _, _, _⟩) rfl (fun K hK => ?_) AllReadyH.nil
          rw [if_pos (by rfl)]
          refine wp_store_row 52 (.tmp 3) (.tmp 21) rfl (w1.heap.size) #[.int .i64 5, .int .i64 0, .int .i64 0] rfl rfl 52 #[.int .i64 0, .int .i64 0, .int .i64 0] pl_6 size52 rfl (by simp [Value.oneCell']) ?_
          refine hK.out _ _ (Below.trans S6 (row_below rfl hP5 (Below.size S6))) (fun h7 => ?_)
          clear h6 hK K
          have S7 : Below wd.heap.size wd (w6.setRow (w1.heap.size) #[.int .i64 5, .int .i64 0, .int .i64 0]) := Below.trans S6 (row_below rfl hP5 (Below.size S6))
          have pl7 : Blk (w6.setRow (w1.heap.size) #[.int .i64 5, .int .i64 0, .int .i64 0]) (w1.heap.size) 52 #[.int .i64 5, .int .i64 0, .int .i64 0] := row_named pl_6 rfl
          try simp only [Act.put]
          refine wpAnyH_take (i := 9) (oi := ⟨some 4, _, _, _, _, _⟩) (v := ?_) rfl (by kernel_rfl) (by kernel_rfl) (by kernel_rfl) (fun _ _ _ h => h) (Or.inl ⟨by rfl, ?_⟩) (by assumption) ?_
          rotate_left 1
          · (intro W hSw; go_simp <;> with_reducible rfl)
          try simp only [Act.put, List.setIfInBounds_toArray, List.set_cons_zero, List.set_cons_succ]
          refine wpAnyH_done (by kernel_rfl) ?_ _
          refine NoPanic.normal ?_
          go_wp2_with fail
          go_meet
          exact ⟨_, rfl, rfl, kk.trans (S7.mono kk.size), b1.on S7, st.on S7, pl7⟩
      · go_simp
        obtain ⟨w8, ew8⟩ : ∃ zz, zz = wd.alloc (.cells #[.int .i64 0, .int .i64 0, .int .i64 0] 52) := ⟨_, rfl⟩
        have hb8 : Below wd.heap.size wd w8 := by rw [ew8]; exact (Below.refl _ _).alloc (Nat.le_refl _) _
        rw [← ew8]
        have pl8 : Blk w8 wd.heap.size 52 #[.int .i64 0, .int .i64 0, .int .i64 0] := by rw [ew8]; exact heap_alloc_new _ _
        have hP8 : wd.heap.size ≤ wd.heap.size := Below.size kS
        have S8 : (fun W => Below wd.heap.size wd W) w8 := Below.trans kS (hb8.mono (Below.size kS))
        refine hK.out _ _ S8 (fun h8 => ?_)
        clear hHeld hK K ew8
        try simp only [Act.put, List.setIfInBounds_toArray, List.set_cons_zero, List.set_cons_succ]
        refine wpAnyH_ready (rs := [0]) (by kernel_rfl) (by simp) ?_
        refine AllReadyH.cons (o := ⟨some 17, _, _, _, _, _⟩) rfl (fun K hK => ?_) AllReadyH.nil
        go_simp
        refine (two_any w8).mono ?_
        rintro e w9 ⟨A9, rfl, hb9⟩
        skip
        have pl_9 := pl8.on hb9
        have S9 : (fun W => Below wd.heap.size wd W) w9 := Below.trans S8 (hb9.mono (Below.size S8))
        refine hK.out _ _ S9 (fun h9 => ?_)
        clear h8 hK K
        try simp only [Act.put, List.setIfInBounds_toArray, List.set_cons_zero, List.set_cons_succ]
        refine wpAnyH_ready (rs := [3]) (by kernel_rfl) (by simp) ?_
        refine AllReadyH.cons (o := ⟨some 20, _, _, _, _, _⟩) rfl (fun K hK => ?_) AllReadyH.nil
        go_simp
        refine (reads0 A9 w9).mono ?_
        rintro e w10 ⟨rfl, hb10⟩
        have pl_10 := pl_9.on hb10
        have S10 : (fun W => Below wd.heap.size wd W) w10 := Below.trans S9 (hb10.mono (Below.size S9))
        refine hK.out _ _ S10 (fun h10 => ?_)
        clear h9 hK K
        try simp only [Act.put, List.setIfInBounds_toArray, List.set_cons_zero, List.set_cons_succ]
        refine wpAnyH_take (i := 4) (oi := ⟨some 16, _, _, _, _, _⟩) (v := ?_) rfl (by kernel_rfl) (by kernel_rfl) (by kernel_rfl) (fun _ _ _ h => h) (Or.inl ⟨by rfl, ?_⟩) (by assumption) ?_
        rotate_left 1
        · (intro W hSw; go_simp <;> with_reducible rfl)
        try simp only [Act.put, List.setIfInBounds_toArray, List.set_cons_zero, List.set_cons_succ]
        refine wpAnyH_take (i := 5) (oi := ⟨some 21, _, _, _, _, _⟩) (v := ?_) rfl (by kernel_rfl) (by kernel_rfl) (by kernel_rfl) (fun _ _ _ h => h) (Or.inl ⟨by rfl, ?_⟩) (by assumption) ?_
        rotate_left 1
        · (intro W hSw; go_simp <;> with_reducible rfl)
        try simp only [Act.put, List.setIfInBounds_toArray, List.set_cons_zero, List.set_cons_succ]
        refine wpAnyH_take (i := 6) (oi := ⟨some 22, _, _, _, _, _⟩) (v := ?_) rfl (by kernel_rfl) (by kernel_rfl) (by kernel_rfl) (fun _ _ _ h => h) (Or.inl ⟨by rfl, ?_⟩) (by assumption) ?_
        rotate_left 1
        · (intro W hSw; go_simp <;> with_reducible rfl)
        try simp only [Act.put, List.setIfInBounds_toArray, List.set_cons_zero, List.set_cons_succ]
        refine wpAnyH_ready (rs := [8]) (by kernel_rfl) (by simp) ?_
        refine AllReadyH.cons (o := ⟨none, _, _, _, _, _⟩) rfl (fun K hK => ?_) AllReadyH.nil
        rw [if_pos (by rfl)]
        refine wp_store_row 52 (.tmp 3) (.tmp 21) rfl (wd.heap.size) #[.int .i64 5, .int .i64 0, .int .i64 0] rfl rfl 52 #[.int .i64 0, .int .i64 0, .int .i64 0] pl_10 size52 rfl (by simp [Value.oneCell']) ?_
        refine hK.out _ _ (Below.trans S10 (row_below rfl hP8 (Below.size S10))) (fun h11 => ?_)
        clear h10 hK K
        have S11 : Below wd.heap.size wd (w10.setRow (wd.heap.size) #[.int .i64 5, .int .i64 0, .int .i64 0]) := Below.trans S10 (row_below rfl hP8 (Below.size S10))
        have pl11 : Blk (w10.setRow (wd.heap.size) #[.int .i64 5, .int .i64 0, .int .i64 0]) (wd.heap.size) 52 #[.int .i64 5, .int .i64 0, .int .i64 0] := row_named pl_10 rfl
        try simp only [Act.put]
        refine wpAnyH_take (i := 9) (oi := ⟨some 4, _, _, _, _, _⟩) (v := ?_) rfl (by kernel_rfl) (by kernel_rfl) (by kernel_rfl) (fun _ _ _ h => h) (Or.inl ⟨by rfl, ?_⟩) (by assumption) ?_
        rotate_left 1
        · (intro W hSw; go_simp <;> with_reducible rfl)
        try simp only [Act.put, List.setIfInBounds_toArray, List.set_cons_zero, List.set_cons_succ]
        refine wpAnyH_done (by kernel_rfl) ?_ _
        refine NoPanic.normal ?_
        go_wp2_with fail
        go_meet
        exact ⟨_, rfl, rfl, kk.trans (S11.mono kk.size), b1.on S11, st.on S11, pl11⟩
    case rest =>
      clear kk b1 st
      obtain ⟨P, rfl, rfl, kk, b1, st, bP⟩ := hcut
      go_wp2_with fail
      have hP3 : P ≠ p3 := bP.ne st.box (by decide)
      go_cut [] (fun wx => Below w.heap.size w wx ∧ Blk wx p1 26 C0.cs.toArray ∧ Blk wx P 52 #[.int .i64 5, .int .i64 0, .int .i64 0] ∧ ∃ y : Th, Sta p3 wx y [5] ∧ Mid y 2 1 1)
      case first =>
        obtain ⟨wd, ed⟩ : ∃ W, wc.drew = W := ⟨_, rfl⟩
        have hd : Below wc.heap.size wc wd := by rw [← ed]; exact (Below.refl _ _).drew
        replace b1 := b1.on hd
        replace st := st.on hd
        replace bP := bP.on hd
        replace kk := kk.trans (hd.mono kk.size)
        clear hd
        have kS : Kept (fun g => g = p3) wd wd := Kept.refl _ _
        refine wp_region_noPanic ?_
        refine wp_region_held_drew (S := (fun W => Kept (fun g => g = p3) wd W)) (by kernel_rfl) (by rw [ed]; exact kS) (fun hHeld => ?_)
        rw [ed] at hHeld ⊢
        refine wpAnyH_take (i := 1) (oi := ⟨some 24, _, _, _, _, _⟩) (v := .agg (List.toArray (C0.cs))) rfl (by kernel_rfl) (by kernel_rfl) (by kernel_rfl) (fun _ _ _ h => h) (yieldsIf_load_mid (by rfl) 26 (.tmp 1) rfl p1 (0) rfl (C0.cs) _ (fun W hW => range_part (b1.kept hW h13) 0 C0.cs rfl) Try.underlying26 rfl size26) (by assumption) ?_
        try simp only [Act.put, List.setIfInBounds_toArray, List.set_cons_zero, List.set_cons_succ]
        refine wpAnyH_ready (rs := [0, 2]) (by kernel_rfl) (by simp) ?_
        refine AllReadyH.cons (o := ⟨some 23, _, _, _, _, _⟩) rfl (fun K hK => ?_) (AllReadyH.cons (o := ⟨some 25, _, _, _, _, _⟩) rfl (fun K hK => ?_) AllReadyH.nil)
        · go_simp
          refine (two_any wd).mono ?_
          rintro e w1 ⟨A1, rfl, hb1⟩
          skip
          have b1_1 := b1.on hb1
          have bP_1 := bP.on hb1
          have st_1 := st.on hb1
          have kk_1 := kk.trans (hb1.mono kk.size)
          have S1 : (fun W => Kept (fun g => g = p3) wd W) w1 := Kept.next kS (kept_below (fun _ => False) hb1) (fun _ h => h.elim)
          refine hK.out _ _ S1 (fun h1 => ?_)
          clear hHeld hK K
          try simp only [Act.put, List.setIfInBounds_toArray, List.set_cons_zero, List.set_cons_succ]
          refine wpAnyH_ready (rs := [2]) (by kernel_rfl) (by simp) ?_
          refine AllReadyH.cons (o := ⟨some 25, _, _, _, _, _⟩) rfl (fun K hK => ?_) AllReadyH.nil
          rw [if_pos (by rfl)]
          refine wp_load_row 35 (.tmp 2) rfl p3 rfl 35 ((T0 p2).wm (miK 2)).cs.toArray (0, 0) _ st_1.box Try.underlying35 rfl (sizeT _) ?_
          refine hK.out _ _ S1 (fun h2 => ?_)
          clear h1 hK K
          try simp only [Act.put, List.setIfInBounds_toArray, List.set_cons_zero, List.set_cons_succ]
          refine wpAnyH_ready (rs := [3]) (by kernel_rfl) (by simp) ?_
          refine AllReadyH.cons (o := ⟨some 26, _, _, _, _, _⟩) rfl (fun K hK => ?_) AllReadyH.nil
          go_simp
          refine (see1 A1 st_1.reads).mono ?_
          rintro e w3 ⟨y3, rfl, hy3, oa3, ob3, oc3, hb3⟩
          have b1_3 := b1_1.on hb3
          have bP_3 := bP_1.on hb3
          have st_3 := st_1.on hb3
          have kk_3 := kk_1.trans (hb3.mono kk_1.size)
          have S3 : (fun W => Kept (fun g => g = p3) wd W) w3 := Kept.next S1 (kept_below (fun _ => False) hb3) (fun _ h => h.elim)
          refine hK.out _ _ S3 (fun h3 => ?_)
          clear h2 hK K
          try simp only [Act.put, List.setIfInBounds_toArray, List.set_cons_zero, List.set_cons_succ]
          refine wpAnyH_ready (rs := [4]) (by kernel_rfl) (by simp) ?_
          refine AllReadyH.cons (o := ⟨none, _, _, _, _, _⟩) rfl (fun K hK => ?_) AllReadyH.nil
          rw [if_pos (by rfl)]
          refine wp_store_row 35 (.tmp 2) (.tmp 26) rfl p3 y3.cs.toArray rfl rfl 35 ((T0 p2).wm (miK 2)).cs.toArray st_3.box (sizeT _) rfl (Th.onea _) ?_
          refine hK.out _ _ (Kept.next S3 (kept_row _ p3 _) (fun g h => .inl h)) (fun h4 => ?_)
          clear h3 hK K
          try simp only [Act.put]
          refine wpAnyH_done (by kernel_rfl) ?_ _
          refine NoPanic.normal ?_
          go_wp2_with fail
          go_meet
          exact ⟨kk_3.trans (row_below rfl hp3 kk_3.size), row_far b1_3 rfl h13, row_far bP_3 rfl hP3, y3, Sta.row st_3.box oa3 ob3 oc3, hy3⟩
        · rw [if_pos (by rfl)]
          refine wp_load_row 35 (.tmp 2) rfl p3 rfl 35 ((T0 p2).wm (miK 2)).cs.toArray (0, 0) _ st.box Try.underlying35 rfl (sizeT _) ?_
          refine hK.out _ _ kS (fun h5 => ?_)
          clear hHeld hK K
          try simp only [Act.put, List.setIfInBounds_toArray, List.set_cons_zero, List.set_cons_succ]
          refine wpAnyH_ready (rs := [0]) (by kernel_rfl) (by simp) ?_
          refine AllReadyH.cons (o := ⟨some 23, _, _, _, _, _⟩) rfl (fun K hK => ?_) AllReadyH.nil
          go_simp
          refine (two_any wd).mono ?_
          rintro e w6 ⟨A6, rfl, hb6⟩
          skip
          have b1_6 := b1.on hb6
          have bP_6 := bP.on hb6
          have st_6 := st.on hb6
          have kk_6 := kk.trans (hb6.mono kk.size)
          have S6 : (fun W => Kept (fun g => g = p3) wd W) w6 := Kept.next kS (kept_below (fun _ => False) hb6) (fun _ h => h.elim)
          refine hK.out _ _ S6 (fun h6 => ?_)
          clear h5 hK K
          try simp only [Act.put, List.setIfInBounds_toArray, List.set_cons_zero, List.set_cons_succ]
          refine wpAnyH_ready (rs := [3]) (by kernel_rfl) (by simp) ?_
          refine AllReadyH.cons (o := ⟨some 26, _, _, _, _, _⟩) rfl (fun K hK => ?_) AllReadyH.nil
          go_simp
          refine (see1 A6 st_6.reads).mono ?_
          rintro e w7 ⟨y7, rfl, hy7, oa7, ob7, oc7, hb7⟩
          have b1_7 := b1_6.on hb7
          have bP_7 := bP_6.on hb7
          have st_7 := st_6.on hb7
          have kk_7 := kk_6.trans (hb7.mono kk_6.size)
          have S7 : (fun W => Kept (fun g => g = p3) wd W) w7 := Kept.next S6 (kept_below (fun _ => False) hb7) (fun _ h => h.elim)
          refine hK.out _ _ S7 (fun h7 => ?_)
          clear h6 hK K
          try simp only [Act.put, List.setIfInBounds_toArray, List.set_cons_zero, List.set_cons_succ]
          refine wpAnyH_ready (rs := [4]) (by kernel_rfl) (by simp) ?_
          refine AllReadyH.cons (o := ⟨none, _, _, _, _, _⟩) rfl (fun K hK => ?_) AllReadyH.nil
          rw [if_pos (by rfl)]
          refine wp_store_row 35 (.tmp 2) (.tmp 26) rfl p3 y7.cs.toArray rfl rfl 35 ((T0 p2).wm (miK 2)).cs.toArray st_7.box (sizeT _) rfl (Th.onea _) ?_
          refine hK.out _ _ (Kept.next S7 (kept_row _ p3 _) (fun g h => .inl h)) (fun h8 => ?_)
          clear h7 hK K
          try simp only [Act.put]
          refine wpAnyH_done (by kernel_rfl) ?_ _
          refine NoPanic.normal ?_
          go_wp2_with fail
          go_meet
          exact ⟨kk_7.trans (row_below rfl hp3 kk_7.size), row_far b1_7 rfl h13, row_far bP_7 rfl hP3, y7, Sta.row st_7.box oa7 ob7 oc7, hy7⟩
      case rest =>
        clear kk b1 st bP
        obtain ⟨kk, b1, bP, y, st, hy⟩ := hcut
        go_wp2_with fail
        have hP3 : P ≠ p3 := bP.ne st.box (by decide)
        go_cut [] (fun wx => Below w.heap.size w wx ∧ Blk wx p1 26 C0.cs.toArray ∧ Blk wx P 52 #[.int .i64 5, .int .i64 0, .int .i64 0] ∧ ∃ y : Th, Sta p3 wx y [5, 0] ∧ Mid y 3 0 2)
        case first =>
          obtain ⟨wd, ed⟩ : ∃ W, wc.drew = W := ⟨_, rfl⟩
          have hd : Below wc.heap.size wc wd := by rw [← ed]; exact (Below.refl _ _).drew
          replace b1 := b1.on hd
          replace st := st.on hd
          replace bP := bP.on hd
          replace kk := kk.trans (hd.mono kk.size)
          clear hd
          have kS : Kept (fun g => g = p3) wd wd := Kept.refl _ _
          refine wp_region_noPanic ?_
          refine wp_region_held_drew (S := (fun W => Kept (fun g => g = p3) wd W)) (by kernel_rfl) (by rw [ed]; exact kS) (fun hHeld => ?_)
          rw [ed] at hHeld ⊢
          refine wpAnyH_take (i := 1) (oi := ⟨some 28, _, _, _, _, _⟩) (v := .agg (List.toArray (C0.cs))) rfl (by kernel_rfl) (by kernel_rfl) (by kernel_rfl) (fun _ _ _ h => h) (yieldsIf_load_mid (by rfl) 26 (.tmp 1) rfl p1 (0) rfl (C0.cs) _ (fun W hW => range_part (b1.kept hW h13) 0 C0.cs rfl) Try.underlying26 rfl size26) (by assumption) ?_
          try simp only [Act.put, List.setIfInBounds_toArray, List.set_cons_zero, List.set_cons_succ]
          refine wpAnyH_ready (rs := [0, 2]) (by kernel_rfl) (by simp) ?_
          refine AllReadyH.cons (o := ⟨some 27, _, _, _, _, _⟩) rfl (fun K hK => ?_) (AllReadyH.cons (o := ⟨some 29, _, _, _, _, _⟩) rfl (fun K hK => ?_) AllReadyH.nil)
          · go_simp
            refine (two_any wd).mono ?_
            rintro e w1 ⟨A1, rfl, hb1⟩
            skip
            have b1_1 := b1.on hb1
            have bP_1 := bP.on hb1
            have st_1 := st.on hb1
            have kk_1 := kk.trans (hb1.mono kk.size)
            have S1 : (fun W => Kept (fun g => g = p3) wd W) w1 := Kept.next kS (kept_below (fun _ => False) hb1) (fun _ h => h.elim)
            refine hK.out _ _ S1 (fun h1 => ?_)
            clear hHeld hK K
            try simp only [Act.put, List.setIfInBounds_toArray, List.set_cons_zero, List.set_cons_succ]
            refine wpAnyH_ready (rs := [2]) (by kernel_rfl) (by simp) ?_
            refine AllReadyH.cons (o := ⟨some 29, _, _, _, _, _⟩) rfl (fun K hK => ?_) AllReadyH.nil
            rw [if_pos (by rfl)]
            refine wp_load_row 35 (.tmp 2) rfl p3 rfl 35 y.cs.toArray (0, 0) _ st_1.box Try.underlying35 rfl (sizeT _) ?_
            refine hK.out _ _ S1 (fun h2 => ?_)
            clear h1 hK K
            try simp only [Act.put, List.setIfInBounds_toArray, List.set_cons_zero, List.set_cons_succ]
            refine wpAnyH_ready (rs := [3]) (by kernel_rfl) (by simp) ?_
            refine AllReadyH.cons (o := ⟨some 30, _, _, _, _, _⟩) rfl (fun K hK => ?_) AllReadyH.nil
            go_simp
            refine (see2 A1 st_1.reads hy).mono ?_
            rintro e w3 ⟨y3, rfl, hy3, oa3, ob3, oc3, hb3⟩
            have b1_3 := b1_1.on hb3
            have bP_3 := bP_1.on hb3
            have st_3 := st_1.on hb3
            have kk_3 := kk_1.trans (hb3.mono kk_1.size)
            have S3 : (fun W => Kept (fun g => g = p3) wd W) w3 := Kept.next S1 (kept_below (fun _ => False) hb3) (fun _ h => h.elim)
            refine hK.out _ _ S3 (fun h3 => ?_)
            clear h2 hK K
            try simp only [Act.put, List.setIfInBounds_toArray, List.set_cons_zero, List.set_cons_succ]
            refine wpAnyH_ready (rs := [4]) (by kernel_rfl) (by simp) ?_
            refine AllReadyH.cons (o := ⟨none, _, _, _, _, _⟩) rfl (fun K hK => ?_) AllReadyH.nil
            rw [if_pos (by rfl)]
            refine wp_store_row 35 (.tmp 2) (.tmp 30) rfl p3 y3.cs.toArray rfl rfl 35 y.cs.toArray st_3.box (sizeT _) rfl (Th.onea _) ?_
            refine hK.out _ _ (Kept.next S3 (kept_row _ p3 _) (fun g h => .inl h)) (fun h4 => ?_)
            clear h3 hK K
            try simp only [Act.put]
            refine wpAnyH_done (by kernel_rfl) ?_ _
            refine NoPanic.normal ?_
            go_wp2_with fail
            go_meet
            exact ⟨kk_3.trans (row_below rfl hp3 kk_3.size), row_far b1_3 rfl h13, row_far bP_3 rfl hP3, y3, Sta.row st_3.box oa3 ob3 oc3, hy3⟩
          · rw [if_pos (by rfl)]
            refine wp_load_row 35 (.tmp 2) rfl p3 rfl 35 y.cs.toArray (0, 0) _ st.box Try.underlying35 rfl (sizeT _) ?_
            refine hK.out _ _ kS (fun h5 => ?_)
            clear hHeld hK K
            try simp only [Act.put, List.setIfInBounds_toArray, List.set_cons_zero, List.set_cons_succ]
            refine wpAnyH_ready (rs := [0]) (by kernel_rfl) (by simp) ?_
            refine AllReadyH.cons (o := ⟨some 27, _, _, _, _, _⟩) rfl (fun K hK => ?_) AllReadyH.nil
            go_simp
            refine (two_any wd).mono ?_
            rintro e w6 ⟨A6, rfl, hb6⟩
            skip
            have b1_6 := b1.on hb6
            have bP_6 := bP.on hb6
            have st_6 := st.on hb6
            have kk_6 := kk.trans (hb6.mono kk.size)
            have S6 : (fun W => Kept (fun g => g = p3) wd W) w6 := Kept.next kS (kept_below (fun _ => False) hb6) (fun _ h => h.elim)
            refine hK.out _ _ S6 (fun h6 => ?_)
            clear h5 hK K
            try simp only [Act.put, List.setIfInBounds_toArray, List.set_cons_zero, List.set_cons_succ]
            refine wpAnyH_ready (rs := [3]) (by kernel_rfl) (by simp) ?_
            refine AllReadyH.cons (o := ⟨some 30, _, _, _, _, _⟩) rfl (fun K hK => ?_) AllReadyH.nil
            go_simp
            refine (see2 A6 st_6.reads hy).mono ?_
            rintro e w7 ⟨y7, rfl, hy7, oa7, ob7, oc7, hb7⟩
            have b1_7 := b1_6.on hb7
            have bP_7 := bP_6.on hb7
            have st_7 := st_6.on hb7
            have kk_7 := kk_6.trans (hb7.mono kk_6.size)
            have S7 : (fun W => Kept (fun g => g = p3) wd W) w7 := Kept.next S6 (kept_below (fun _ => False) hb7) (fun _ h => h.elim)
            refine hK.out _ _ S7 (fun h7 => ?_)
            clear h6 hK K
            try simp only [Act.put, List.setIfInBounds_toArray, List.set_cons_zero, List.set_cons_succ]
            refine wpAnyH_ready (rs := [4]) (by kernel_rfl) (by simp) ?_
            refine AllReadyH.cons (o := ⟨none, _, _, _, _, _⟩) rfl (fun K hK => ?_) AllReadyH.nil
            rw [if_pos (by rfl)]
            refine wp_store_row 35 (.tmp 2) (.tmp 30) rfl p3 y7.cs.toArray rfl rfl 35 y.cs.toArray st_7.box (sizeT _) rfl (Th.onea _) ?_
            refine hK.out _ _ (Kept.next S7 (kept_row _ p3 _) (fun g h => .inl h)) (fun h8 => ?_)
            clear h7 hK K
            try simp only [Act.put]
            refine wpAnyH_done (by kernel_rfl) ?_ _
            refine NoPanic.normal ?_
            go_wp2_with fail
            go_meet
            exact ⟨kk_7.trans (row_below rfl hp3 kk_7.size), row_far b1_7 rfl h13, row_far bP_7 rfl hP3, y7, Sta.row st_7.box oa7 ob7 oc7, hy7⟩
        case rest =>
          clear kk b1 st bP hy
          obtain ⟨kk, b1, bP, v, st, hv⟩ := hcut
          have d1 := rel0 st.reads hv
          go_wp2_with (first | ((with_reducible refine at_load 26 (.tmp 1) ?_); refine wpList_load_row rfl 26 (.tmp 1) rfl p1 rfl 26 C0.cs.toArray (0, 0) _ b1 Try.underlying26 rfl size26 ?_) | ((with_reducible refine at_load 35 (.tmp 2) ?_); refine wpList_load_row rfl 35 (.tmp 2) rfl p3 rfl 35 v.cs.toArray (0, 0) _ st.box Try.underlying35 rfl (sizeT _) ?_))
          refine d1.mono ?_
          rintro e wr ⟨B1, m1, y, rfl, hy0, k1⟩
          replace b1 := b1.on k1
          replace bP := bP.on k1
          replace kk := kk.trans (k1.mono kk.size)
          clear k1 d1 st hv h13 h31
          obtain ⟨p6, f6⟩ : ∃ p, wr.heap.size = p := ⟨_, rfl⟩
          obtain ⟨Wa, ea⟩ : ∃ W, wr.alloc (.cells #[.int .i64 0, .int .i64 0, .int .i64 0, .int .i64 0, .int .i64 0, .int .i64 0, .int .i64 0, .int .i64 0, .int .i64 0, .int .i64 0, .int .i64 0, .int .i64 0, .int .i64 0, .int .i64 0, .int .i64 0, .int .i64 0, .int .i64 0, .int .i64 0, .slice none 0 0, .slice none 0 0, .slice none 0 0, .int .i64 0] 35) = W := ⟨_, rfl⟩
          have ka : Below wr.heap.size wr Wa := by rw [← ea]; exact (Below.refl _ wr).alloc (Nat.le_refl _) _
          have b6 : Blk Wa p6 35 #[.int .i64 0, .int .i64 0, .int .i64 0, .int .i64 0, .int .i64 0, .int .i64 0, .int .i64 0, .int .i64 0, .int .i64 0, .int .i64 0, .int .i64 0, .int .i64 0, .int .i64 0, .int .i64 0, .int .i64 0, .int .i64 0, .int .i64 0, .int .i64 0, .slice none 0 0, .slice none 0 0, .slice none 0 0, .int .i64 0] := by rw [← ea]; exact blk_new wr _ 35 _ f6
          have hp6 : w.heap.size ≤ p6 := by rw [← f6]; exact kk.size
          have n1 : p1 ≠ p6 := by rw [← f6]; exact Nat.ne_of_lt b1.lt
          have n2 : P ≠ p6 := by rw [← f6]; exact Nat.ne_of_lt bP.lt
          replace b1 := b1.on ka
          replace bP := bP.on ka
          replace kk := kk.trans (ka.mono kk.size)
          clear ka
          obtain ⟨Wb, eb⟩ : ∃ W, Wa.setRow p6 y.cs.toArray = W := ⟨_, rfl⟩
          have b6o := b6
          replace b1 := row_far b1 eb n1
          replace bP := row_far bP eb n2
          replace b6 := row_named b6 eb
          replace kk := kk.trans (row_below eb hp6 kk.size)
          go_wp2_with (((with_reducible refine at_store 35 (.tmp 6) (.tmp 36) ?_); refine wpList_store_row rfl 35 (.tmp 6) (.tmp 36) rfl p6 y.cs.toArray rfl rfl 35 #[.int .i64 0, .int .i64 0, .int .i64 0, .int .i64 0, .int .i64 0, .int .i64 0, .int .i64 0, .int .i64 0, .int .i64 0, .int .i64 0, .int .i64 0, .int .i64 0, .int .i64 0, .int .i64 0, .int .i64 0, .int .i64 0, .int .i64 0, .int .i64 0, .slice none 0 0, .slice none 0 0, .slice none 0 0, .int .i64 0] b6o (sizeT _) rfl (Th.onea _) ?_; rw [eb]))
          skip
          clear eb ea b6o n1 n2 f6
          have heq : ∀ W, (binOp BinOp.eql 52 (.agg #[.int .i64 5, .int .i64 0, .int .i64 0]) (.agg #[.int .i64 5, .int .i64 0, .int .i64 0])).run Try.prog W = .ok (.bool true) W := fun W => eq52 ⟨5, 0, 0⟩ ⟨5, 0, 0⟩ W
          have d2 := fun A W => fac0 A W
          have d3 := fun A W => bou0 A W
          obtain ⟨wd, ed⟩ : ∃ W, Wb.drew = W := ⟨_, rfl⟩
          have hd : Below Wb.heap.size Wb wd := by rw [← ed]; exact (Below.refl _ _).drew
          replace b1 := b1.on hd
          replace bP := bP.on hd
          replace b6 := b6.on hd
          replace kk := kk.trans (hd.mono kk.size)
          clear hd
          have kS : Below wd.heap.size wd wd := Below.refl _ _
          have tS : ∀ W, Below wd.heap.size wd W → W.cell? ⟨p6, 19, none⟩ = some (.slice y.bg.A 0 y.bg.cap) := fun W hW => by have h0 := (b6.on hW).cell 19; rw [← hy0]; exact h0
          refine wp_region_noPanic ?_
          refine wp_region_held_drew (S := (fun W => Below wd.heap.size wd W)) (by kernel_rfl) (by rw [ed]; exact kS) (fun hHeld => ?_)
          rw [ed] at hHeld ⊢
          refine wpAnyH_take (i := 0) (oi := ⟨some 37, _, _, _, _, _⟩) (v := .agg (List.toArray ([.int .i64 5, .int .i64 0, .int .i64 0]))) rfl (by kernel_rfl) (by kernel_rfl) (by kernel_rfl) (fun _ _ _ h => h) (yieldsIf_load_mid (by rfl) 52 (.tmp 3) rfl P (0) rfl ([.int .i64 5, .int .i64 0, .int .i64 0]) _ (fun W hW => range_part (bP.on hW) 0 [.int .i64 5, .int .i64 0, .int .i64 0] rfl) Try.underlying52 rfl size52) (by assumption) ?_
          try simp only [Act.put, List.setIfInBounds_toArray, List.set_cons_zero, List.set_cons_succ]
          refine wpAnyH_take (i := 1) (oi := ⟨some 38, _, _, _, _, _⟩) (v := ?_) rfl (by kernel_rfl) (by kernel_rfl) (by kernel_rfl) (fun _ _ _ h => h) (Or.inl ⟨by rfl, ?_⟩) (by assumption) ?_
          rotate_left 1
          · (intro W hSw; go_simp <;> with_reducible rfl)
          try simp only [Act.put, List.setIfInBounds_toArray, List.set_cons_zero, List.set_cons_succ]
          refine wpAnyH_take (i := 2) (oi := ⟨some 39, _, _, _, _, _⟩) (v := ?_) rfl (by kernel_rfl) (by kernel_rfl) (by kernel_rfl) (fun _ _ _ h => h) (Or.inl ⟨by rfl, ?_⟩) (by assumption) ?_
          rotate_left 1
          · (intro W hSw; go_simp <;> with_reducible rfl)
          try simp only [Act.put, List.setIfInBounds_toArray, List.set_cons_zero, List.set_cons_succ]
          refine wpAnyH_take (i := 3) (oi := ⟨some 40, _, _, _, _, _⟩) (v := ?_) rfl (by kernel_rfl) (by kernel_rfl) (by kernel_rfl) (fun _ _ _ h => h) (Or.inl ⟨by rfl, ?_⟩) (by assumption) ?_
          rotate_left 1
          · (intro W hSw; go_simp <;> with_reducible rfl)
          try simp only [Act.put, List.setIfInBounds_toArray, List.set_cons_zero, List.set_cons_succ]
          refine wpAnyH_take (i := 4) (oi := ⟨some 41, _, _, _, _, _⟩) (v := ?_) rfl (by kernel_rfl) (by kernel_rfl) (by kernel_rfl) (fun _ _ _ h => h) (Or.inl ⟨by rfl, ?_⟩) (by assumption) ?_
          rotate_left 1
          · (intro W hSw; go_simp <;> with_reducible rfl)
          try simp only [Act.put, List.setIfInBounds_toArray, List.set_cons_zero, List.set_cons_succ]
          refine wpAnyH_take (i := 5) (oi := ⟨some 42, _, _, _, _, _⟩) (v := ?_) rfl (by kernel_rfl) (by kernel_rfl) (by kernel_rfl) (fun _ _ _ h => h) (Or.inl ⟨by rfl, ?_⟩) (by assumption) ?_
          rotate_left 1
          · (intro W hSw; go_simp <;> with_reducible rfl)
          try simp only [Act.put, List.setIfInBounds_toArray, List.set_cons_zero, List.set_cons_succ]
          refine wpAnyH_take (i := 6) (oi := ⟨some 43, _, _, _, _, _⟩) (v := ?_) rfl (by kernel_rfl) (by kernel_rfl) (by kernel_rfl) (fun _ _ _ h => h) (Or.inl ⟨by rfl, ?_⟩) (by assumption) ?_
          rotate_left 1
          · (intro W hSw; go_simp <;> with_reducible rfl)
          try simp only [Act.put, List.setIfInBounds_toArray, List.set_cons_zero, List.set_cons_succ]
          refine wpAnyH_take (i := 7) (oi := ⟨some 44, _, _, _, _, _⟩) (v := ?_) rfl (by kernel_rfl) (by kernel_rfl) (by kernel_rfl) (fun _ _ _ h => h) (Or.inl ⟨by rfl, ?_⟩) (by assumption) ?_
          rotate_left 1
          · (intro W hSw; go_simp <;> with_reducible rfl)
          try simp only [Act.put, List.setIfInBounds_toArray, List.set_cons_zero, List.set_cons_succ]
          refine wpAnyH_take (i := 8) (oi := ⟨some 45, _, _, _, _, _⟩) (v := ?_) rfl (by kernel_rfl) (by kernel_rfl) (by kernel_rfl) (fun _ _ _ h => h) (Or.inl ⟨by rfl, ?_⟩) (by assumption) ?_
          rotate_left 1
          · (intro W hSw; go_simp <;> with_reducible rfl)
          try simp only [Act.put, List.setIfInBounds_toArray, List.set_cons_zero, List.set_cons_succ]
          refine wpAnyH_take (i := 9) (oi := ⟨some 46, _, _, _, _, _⟩) (v := ?_) rfl (by kernel_rfl) (by kernel_rfl) (by kernel_rfl) (fun _ _ _ h => h) (Or.inl ⟨by rfl, ?_⟩) (by assumption) ?_
          rotate_left 1
          · (intro W hSw; go_simp <;> with_reducible rfl)
          try simp only [Act.put, List.setIfInBounds_toArray, List.set_cons_zero, List.set_cons_succ]
          refine wpAnyH_take (i := 10) (oi := ⟨some 47, _, _, _, _, _⟩) (v := ?_) rfl (by kernel_rfl) (by kernel_rfl) (by kernel_rfl) (fun _ _ _ h => h) (Or.inl ⟨by rfl, ?_⟩) (by assumption) ?_
          rotate_left 1
          · (intro W hSw; go_simp <;> with_reducible rfl)
          try simp only [Act.put, List.setIfInBounds_toArray, List.set_cons_zero, List.set_cons_succ]
          refine wpAnyH_take (i := 11) (oi := ⟨some 48, _, _, _, _, _⟩) (v := ?_) rfl (by kernel_rfl) (by kernel_rfl) (by kernel_rfl) (fun _ _ _ h => h) (Or.inl ⟨by rfl, ?_⟩) (by assumption) ?_
          rotate_left 1
          · (intro W hSw; go_simp <;> with_reducible rfl)
          try simp only [Act.put, List.setIfInBounds_toArray, List.set_cons_zero, List.set_cons_succ]
          refine wpAnyH_take (i := 12) (oi := ⟨some 49, _, _, _, _, _⟩) (v := ?_) rfl (by kernel_rfl) (by kernel_rfl) (by kernel_rfl) (fun _ _ _ h => h) (Or.inl ⟨by rfl, ?_⟩) (by assumption) ?_
          rotate_left 1
          · (intro W hSw; go_simp <;> with_reducible rfl)
          try simp only [Act.put, List.setIfInBounds_toArray, List.set_cons_zero, List.set_cons_succ]
          refine wpAnyH_take (i := 13) (oi := ⟨some 50, _, _, _, _, _⟩) (v := ?_) rfl (by kernel_rfl) (by kernel_rfl) (by kernel_rfl) (fun _ _ _ h => h) (Or.inl ⟨by rfl, ?_⟩) (by assumption) ?_
          rotate_left 1
          · (intro W hSw; obtain f19 := tS W hSw; go_simp <;> with_reducible rfl)
          try simp only [Act.put, List.setIfInBounds_toArray, List.set_cons_zero, List.set_cons_succ]
          refine wpAnyH_take (i := 14) (oi := ⟨some 51, _, _, _, _, _⟩) (v := ?_) rfl (by kernel_rfl) (by kernel_rfl) (by kernel_rfl) (fun _ _ _ h => h) (Or.inl ⟨by rfl, ?_⟩) (by assumption) ?_
          rotate_left 1
          · (intro W hSw; go_simp <;> with_reducible rfl)
          try simp only [Act.put, List.setIfInBounds_toArray, List.set_cons_zero, List.set_cons_succ]
          refine wpAnyH_take (i := 15) (oi := ⟨some 52, _, _, _, _, _⟩) (v := ?_) rfl (by kernel_rfl) (by kernel_rfl) (by kernel_rfl) (fun _ _ _ h => h) (Or.inl ⟨by rfl, ?_⟩) (by assumption) ?_
          rotate_left 1
          · (intro W hSw; go_simp <;> with_reducible rfl)
          try simp only [Act.put, List.setIfInBounds_toArray, List.set_cons_zero, List.set_cons_succ]
          refine wpAnyH_take (i := 16) (oi := ⟨some 53, _, _, _, _, _⟩) (v := ?_) rfl (by kernel_rfl) (by kernel_rfl) (by kernel_rfl) (fun _ _ _ h => h) (Or.inl ⟨by rfl, ?_⟩) (by assumption) ?_
          rotate_left 1
          · (intro W hSw; go_simp <;> with_reducible rfl)
          try simp only [Act.put, List.setIfInBounds_toArray, List.set_cons_zero, List.set_cons_succ]
          refine wpAnyH_take (i := 17) (oi := ⟨some 54, _, _, _, _, _⟩) (v := ?_) rfl (by kernel_rfl) (by kernel_rfl) (by kernel_rfl) (fun _ _ _ h => h) (Or.inl ⟨by rfl, ?_⟩) (by assumption) ?_
          rotate_left 1
          · (intro W hSw; go_simp <;> with_reducible rfl)
          try simp only [Act.put, List.setIfInBounds_toArray, List.set_cons_zero, List.set_cons_succ]
          refine wpAnyH_take (i := 19) (oi := ⟨some 56, _, _, _, _, _⟩) (v := .agg (List.toArray (C0.cs))) rfl (by kernel_rfl) (by kernel_rfl) (by kernel_rfl) (fun _ _ _ h => h) (yieldsIf_load_mid (by rfl) 26 (.tmp 1) rfl p1 (0) rfl (C0.cs) _ (fun W hW => range_part (b1.on hW) 0 C0.cs rfl) Try.underlying26 rfl size26) (by assumption) ?_
          try simp only [Act.put, List.setIfInBounds_toArray, List.set_cons_zero, List.set_cons_succ]
          refine wpAnyH_ready (rs := [18]) (by kernel_rfl) (by simp) ?_
          refine AllReadyH.cons (o := ⟨some 55, _, _, _, _, _⟩) rfl (fun K hK => ?_) AllReadyH.nil
          go_simp
          refine (two_any wd).mono ?_
          rintro e w1 ⟨A1, rfl, hb1⟩
          skip
          have S1 : (fun W => Below wd.heap.size wd W) w1 := Below.trans kS (hb1.mono (Below.size kS))
          refine hK.out _ _ S1 (fun h1 => ?_)
          clear hHeld hK K
          try simp only [Act.put, List.setIfInBounds_toArray, List.set_cons_zero, List.set_cons_succ]
          refine wpAnyH_ready (rs := [20]) (by kernel_rfl) (by simp) ?_
          refine AllReadyH.cons (o := ⟨some 57, _, _, _, _, _⟩) rfl (fun K hK => ?_) AllReadyH.nil
          go_simp
          refine (fac0 A1 w1).mono ?_
          rintro e w2 ⟨rfl, hb2⟩
          have S2 : (fun W => Below wd.heap.size wd W) w2 := Below.trans S1 (hb2.mono (Below.size S1))
          refine hK.out _ _ S2 (fun h2 => ?_)
          clear h1 hK K
          try simp only [Act.put, List.setIfInBounds_toArray, List.set_cons_zero, List.set_cons_succ]
          refine wpAnyH_take (i := 21) (oi := ⟨some 58, _, _, _, _, _⟩) (v := ?_) rfl (by kernel_rfl) (by kernel_rfl) (by kernel_rfl) (fun _ _ _ h => h) (Or.inl ⟨by rfl, ?_⟩) (by assumption) ?_
          rotate_left 1
          · (intro W hSw; go_simp <;> with_reducible rfl)
          try simp only [Act.put, List.setIfInBounds_toArray, List.set_cons_zero, List.set_cons_succ]
          refine wpAnyH_take (i := 22) (oi := ⟨some 59, _, _, _, _, _⟩) (v := ?_) rfl (by kernel_rfl) (by kernel_rfl) (by kernel_rfl) (fun _ _ _ h => h) (Or.inl ⟨by rfl, ?_⟩) (by assumption) ?_
          rotate_left 1
          · (intro W hSw; go_simp <;> with_reducible rfl)
          try simp only [Act.put, List.setIfInBounds_toArray, List.set_cons_zero, List.set_cons_succ]
          refine wpAnyH_take (i := 23) (oi := ⟨some 60, _, _, _, _, _⟩) (v := ?_) rfl (by kernel_rfl) (by kernel_rfl) (by kernel_rfl) (fun _ _ _ h => h) (Or.inl ⟨by rfl, ?_⟩) (by assumption) ?_
          rotate_left 1
          · (intro W hSw; go_simp <;> with_reducible rfl)
          try simp only [Act.put, List.setIfInBounds_toArray, List.set_cons_zero, List.set_cons_succ]
          refine wpAnyH_take (i := 25) (oi := ⟨some 62, _, _, _, _, _⟩) (v := .agg (List.toArray (C0.cs))) rfl (by kernel_rfl) (by kernel_rfl) (by kernel_rfl) (fun _ _ _ h => h) (yieldsIf_load_mid (by rfl) 26 (.tmp 1) rfl p1 (0) rfl (C0.cs) _ (fun W hW => range_part (b1.on hW) 0 C0.cs rfl) Try.underlying26 rfl size26) (by assumption) ?_
          try simp only [Act.put, List.setIfInBounds_toArray, List.set_cons_zero, List.set_cons_succ]
          refine wpAnyH_ready (rs := [24]) (by kernel_rfl) (by simp) ?_
          refine AllReadyH.cons (o := ⟨some 61, _, _, _, _, _⟩) rfl (fun K hK => ?_) AllReadyH.nil
          go_simp
          refine (two_any w2).mono ?_
          rintro e w3 ⟨A3, rfl, hb3⟩
          skip
          have S3 : (fun W => Below wd.heap.size wd W) w3 := Below.trans S2 (hb3.mono (Below.size S2))
          refine hK.out _ _ S3 (fun h3 => ?_)
          clear h2 hK K
          try simp only [Act.put, List.setIfInBounds_toArray, List.set_cons_zero, List.set_cons_succ]
          refine wpAnyH_ready (rs := [26]) (by kernel_rfl) (by simp) ?_
          refine AllReadyH.cons (o := ⟨some 63, _, _, _, _, _⟩) rfl (fun K hK => ?_) AllReadyH.nil
          go_simp
          refine (bou0 A3 w3).mono ?_
          rintro e w4 ⟨rfl, hb4⟩
          have S4 : (fun W => Below wd.heap.size wd W) w4 := Below.trans S3 (hb4.mono (Below.size S3))
          refine hK.out _ _ S4 (fun h4 => ?_)
          clear h3 hK K
          try simp only [Act.put, List.setIfInBounds_toArray, List.set_cons_zero, List.set_cons_succ]
          refine wpAnyH_take (i := 27) (oi := ⟨some 64, _, _, _, _, _⟩) (v := ?_) rfl (by kernel_rfl) (by kernel_rfl) (by kernel_rfl) (fun _ _ _ h => h) (Or.inl ⟨by rfl, ?_⟩) (by assumption) ?_
          rotate_left 1
          · (intro W hSw; go_simp <;> with_reducible rfl)
          try simp only [Act.put, List.setIfInBounds_toArray, List.set_cons_zero, List.set_cons_succ]
          refine wpAnyH_take (i := 28) (oi := ⟨some 65, _, _, _, _, _⟩) (v := ?_) rfl (by kernel_rfl) (by kernel_rfl) (by kernel_rfl) (fun _ _ _ h => h) (Or.inl ⟨by rfl, ?_⟩) (by assumption) ?_
          rotate_left 1
          · (intro W hSw; go_simp <;> with_reducible rfl)
          try simp only [Act.put, List.setIfInBounds_toArray, List.set_cons_zero, List.set_cons_succ]
          refine wpAnyH_take (i := 29) (oi := ⟨some 0, _, _, _, _, _⟩) (v := ?_) rfl (by kernel_rfl) (by kernel_rfl) (by kernel_rfl) (fun _ _ _ h => h) (Or.inl ⟨by rfl, ?_⟩) (by assumption) ?_
          rotate_left 1
          · (intro W hSw; go_simp <;> with_reducible rfl)
          try simp only [Act.put, List.setIfInBounds_toArray, List.set_cons_zero]
          refine wpAnyH_done (by kernel_rfl) ?_ _
          refine NoPanic.normal ?_
          go_wp2_with fail
          have kz := kk.trans (Below.mono S4 kk.size)
          go_ret
          first | exact ⟨rfl, kz⟩ | (rw [f1] at kz; exact ⟨rfl, kz⟩)
end Go.Proofs.Ytllcgidachbnlaa
