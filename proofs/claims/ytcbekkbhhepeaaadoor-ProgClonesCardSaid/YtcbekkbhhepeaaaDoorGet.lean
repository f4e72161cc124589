/- The contract of prog's Get: the program whose octets they are, or where, and what, is wrong first. Conditions: the variable 'rows' lies as it is laid. -/
import Derived.Test.YtcbekkbhhepeaaaDoorCatch
namespace Go.Proofs.YtcbekkbhhepeaaaDoor
open Go.RowKit
set_option linter.unusedSimpArgs false

def GetsP (xs : List Int) (w : World) (p : Except (Int × Nat) Pr) (e : Ending) (w' : World) : Prop :=
  match p with
  | .ok p => ∃ A n cap, e = .returned (.tuple #[.agg #[.int .i64 p.r, .int .i64 p.c, .int .i64 p.s, .slice A n cap], .int .i64 (xs.length : Int), .int .i64 0]) ∧ Mat w' (From w' w.heap.size) A n cap p.m ∧ Below w.heap.size w w'
  | .error err => e = .returned (.tuple #[.agg #[.int .i64 0, .int .i64 0, .int .i64 0, .slice none 0 0], .int .i64 (err.2 : Int), .int .i64 err.1]) ∧ Below w.heap.size w w'

theorem at_blk {w : World} {g : Nat} {x z : Value} {a : Nat} (h : Blk w g 73 #[x, .int .i64 (a : Int), z]) : Calls Tryd.prog 30 #[.pointer (some ⟨g, 0, none⟩)] w fun e w' => e = .returned (.int .i64 (a : Int)) ∧ w = w' := by
  have c1 : w.cell? ⟨g, 1, none⟩ = some (.int .i64 (a : Int)) := h.cell 1
  go_enter Tryd.func30, Tryd.ntmps30
  go_wp2
  go_ret
  exact ⟨rfl, rfl⟩
/-- 'b[:k]', of any k. -/
theorem cut_any (A : Option Addr) (n cap k : Nat) (hc : k ≤ cap) (w : World) :
    (Instr.slice 29 (.slice A n cap) none (some (.int .i64 (k : Int))) none).run Tryd.prog w = .ok (.slice A k cap) w := by
  rw [run_slice_h w 29 A n cap under22 .i64 _ (by omega) (by omega), size22]
  simp only [Result.andThen, sliced, Int.toNat_natCast, Nat.sub_zero, Nat.zero_mul]
  rcases A with _ | ad
  · by_cases h : cap = 0 <;> simp [h]
  · by_cases h : cap = 0
    · simp [h]
    · simp [h, Addr.add]

set_option maxRecDepth 100000 in
set_option maxHeartbeats 2000000 in
theorem get_any {w : World} {A : Option Addr} {n cap : Nat} {ys : List Int} (h : Oct w w.heap.size A n cap ys) (hL : Laid w) :
    Calls Tryd.prog 14 #[.slice A n cap] w (GetsP (ys.take 778) w (getP (ys.take 778))) := by
  have hm : ∀ (fn : Fn) (first cap : Array Value) (w : World), (Instr.makeFunc fn first cap).run Tryd.prog w = .ok (.func fn first cap) w := fun _ _ _ _ => rfl
  obtain ⟨W0, eW0⟩ : ∃ W0, W0 = ((w.alloc (.cells #[.int .i64 0, .int .i64 0, .int .i64 0, .slice none 0 0] 24)).alloc (.cells #[.int .i64 0] 3)).alloc (.cells #[.int .i64 0] 27) := ⟨_, rfl⟩
  have b0 : Below w.heap.size w W0 := by rw [eW0]; exact (((Below.refl _ w).alloc (Nat.le_refl _) _).alloc (by simp) _).alloc (by simp; omega) _
  have s0 : W0.heap.size = w.heap.size + 3 := by rw [eW0]; simp
  have q1 : Blk W0 w.heap.size 24 (prg 0 0 0 none 0 0) := by
    rw [eW0]
    exact Blk.below (Blk.below (heap_alloc_new w _) ((Below.refl _ _).alloc (Nat.le_refl _) _) (by simp)) ((Below.refl _ _).alloc (Nat.le_refl _) _) (by simp; omega)
  have q2 : Blk W0 (w.heap.size + 1) 3 #[.int .i64 0] := by
    rw [eW0]
    exact Blk.below (heap_alloc2_new w _ _) ((Below.refl _ _).alloc (Nat.le_refl _) _) (by simp)
  have q3 : Blk W0 (w.heap.size + 2) 27 #[.int .i64 0] := by
    rw [eW0]
    have := heap_alloc_new ((w.alloc (.cells #[.int .i64 0, .int .i64 0, .int .i64 0, .slice none 0 0] 24)).alloc (.cells #[.int .i64 0] 3)) (.cells #[.int .i64 0] 27)
    simpa [Blk] using this
  obtain ⟨k, hk⟩ : ∃ k, min n 778 = k := ⟨_, rfl⟩
  have hkn : k ≤ n := by omega
  have hk7 : k ≤ 778 := by omega
  have hfr := h.front hkn
  have hxs : ys.take k = ys.take 778 := by
    have := h.len
    rcases Nat.le_total n 778 with h1 | h1
    · obtain rfl : n = k := by omega
      rw [List.take_of_length_le (by omega), List.take_of_length_le (by omega)]
    · obtain rfl : k = 778 := by omega
      rfl
  rw [hxs] at hfr
  have hmin : min (n : Int) 778 = (k : Int) := by omega
  have hsl := cut_any A n cap k (by have := h.room; omega)
  obtain ⟨xs, hx⟩ : ∃ xs, ys.take 778 = xs := ⟨_, rfl⟩
  rw [hx] at hfr ⊢
  have hNw := new_any xs A k cap W0 ((hfr.below b0).more b0.size) (by omega)
  have HS0 := Lib.hid s0
  clear s0 hx hxs hk hfr h
  go_enter_defers Tryd.func14, Tryd.ntmps14
  go_wp2_with fail
  rw [← eW0]
  clear eW0
  go_wp2_with fail
  refine hNw.mono ?_
  rintro e w1 ⟨g, rfl, hr1, hb1, hg1⟩
  have hs3 := HS0.out
  have k1 : Blk w1 w.heap.size 24 (prg 0 0 0 none 0 0) := q1.below hb1 q1.lt
  have k2 : Blk w1 (w.heap.size + 1) 3 #[.int .i64 0] := q2.below hb1 q2.lt
  have k3 : Blk w1 (w.heap.size + 2) 27 #[.int .i64 0] := q3.below hb1 q3.lt
  obtain ⟨W2, eW2⟩ : ∃ W, W = w1.alloc (.cells #[.pointer (some ⟨g, 0, none⟩)] 57) := ⟨_, rfl⟩
  have b2 : Below w1.heap.size w1 W2 := by rw [eW2]; exact (Below.refl _ _).alloc (Nat.le_refl _) _
  have s2 : W2.heap.size = w1.heap.size + 1 := by rw [eW2]; simp
  have c5 : Blk W2 w1.heap.size 57 #[.pointer (some ⟨g, 0, none⟩)] := by rw [eW2]; exact heap_alloc_new w1 _
  have hr2 := hr1.below b2 hr1.lt
  have k1' := k1.below b2 k1.lt
  have k2' := k2.below b2 k2.lt
  have k3' := k3.below b2 k3.lt
  have hbw : Below w.heap.size w W2 := (b0.trans (hb1.mono b0.size)).trans (b2.mono (Nat.le_trans b0.size hb1.size))
  have hlg := hr1.lt
  have hg1' : w.heap.size + 3 ≤ g := by omega
  have hbig := hL.big
  have hP := prog_any hr2 (by omega) (hL.on hbw)
  have z5 : W2.cell? ⟨w1.heap.size, 0, none⟩ = some (.pointer (some ⟨g, 0, none⟩)) := c5.cell 0
  have HG := Lib.hid (And.intro hlg (And.intro hg1' s2))
  clear q1 q2 q3 k1 k2 k3 b0 hb1 b2 hr1 hr2 hNw hs3 hsl hmin hg1 hlg hg1' hbig s2
  go_wp2_with fail
  rw [← eW2]
  clear eW2
  go_wp2_with fail
  cases hgp : getP xs with
  | error err =>
    rw [hgp] at hP
    refine hP.mono ?_
    rintro e w3 ⟨rfl, hg3⟩
    obtain ⟨h1, h2, h3⟩ := HG.out
    have K1 : Blk w3 w.heap.size 24 (prg 0 0 0 none 0 0) := (hg3.block _ k1'.lt (by simp; omega)).trans k1'
    have K2 : Blk w3 (w.heap.size + 1) 3 #[.int .i64 0] := (hg3.block _ k2'.lt (by simp; omega)).trans k2'
    have K3 : Blk w3 (w.heap.size + 2) 27 #[.int .i64 0] := (hg3.block _ k3'.lt (by simp; omega)).trans k3'
    have hb3 : Below w.heap.size w w3 := hbw.grown hg3 hbw.size (fun k hk => by injection hk with hk; omega)
    refine leaves_cons (f := 28) (args := #[.pointer (some ⟨w.heap.size, 0, none⟩), .pointer (some ⟨w.heap.size + 1, 0, none⟩), .pointer (some ⟨w.heap.size + 2, 0, none⟩)]) (by simp) (by simp [go_sem]) ?_
    refine (catch_fault w.heap.size (w.heap.size + 1) (w.heap.size + 2) err.2 err.1 [] w3 _ _ _ _ _ _ K1 K2 K3 (by omega) (by omega) (by omega)).mono ?_
    rintro e u' w4 ⟨rfl, rfl, L1, L2, L3, hB⟩
    have hb4 := hb3.trans (hB w.heap.size (by omega) (by omega) (by omega))
    have d0 : w4.cell? ⟨w.heap.size, 0, none⟩ = some (.int .i64 0) := L1.cell 0
    have d1 : w4.cell? ⟨w.heap.size, 1, none⟩ = some (.int .i64 0) := L1.cell 1
    have d2 : w4.cell? ⟨w.heap.size, 2, none⟩ = some (.int .i64 0) := L1.cell 2
    have d3 : w4.cell? ⟨w.heap.size, 3, none⟩ = some (.slice none 0 0) := L1.cell 3
    have d4 : w4.cell? ⟨w.heap.size + 1, 0, none⟩ = some (.int .i64 err.2) := L2.cell 0
    have d5 : w4.cell? ⟨w.heap.size + 2, 0, none⟩ = some (.int .i64 err.1) := L3.cell 0
    have HB := Lib.hid hb4
    clear hb4 hb3 hB L1 L2 L3 K1 K2 K3 hg3 hP h1 h2 h3 z5 k1' k2' k3' c5 hbw hL hm
    simp [Leaves, settle, results, Tryd.results14, go_sem, d0, d1, d2, d3, d4, d5]
    exact ⟨rfl, HB.out⟩
  | ok p =>
    rw [hgp] at hP
    refine hP.mono ?_
    rintro e w3 ⟨A3, n3, cap3, rfl, hM3, hr3, hg3⟩
    obtain ⟨h1, h2, h3⟩ := HG.out
    have K1 : Blk w3 w.heap.size 24 (prg 0 0 0 none 0 0) := (hg3.block _ k1'.lt (by simp; omega)).trans k1'
    have K2 : Blk w3 (w.heap.size + 1) 3 #[.int .i64 0] := (hg3.block _ k2'.lt (by simp; omega)).trans k2'
    have K3 : Blk w3 (w.heap.size + 2) 27 #[.int .i64 0] := (hg3.block _ k3'.lt (by simp; omega)).trans k3'
    have K5 : Blk w3 w1.heap.size 57 #[.pointer (some ⟨g, 0, none⟩)] := (hg3.block _ c5.lt (by simp; omega)).trans c5
    have hb3 : Below w.heap.size w w3 := hbw.grown hg3 hbw.size (fun k hk => by injection hk with hk; omega)
    have M1 : Blk (w3.setRow w.heap.size (prg p.r p.c p.s A3 n3 cap3)) w.heap.size 24 (prg p.r p.c p.s A3 n3 cap3) := setRow_heap _ _ _ _ _ _ K1
    have M2 : Blk (w3.setRow w.heap.size (prg p.r p.c p.s A3 n3 cap3)) (w.heap.size + 1) 3 #[.int .i64 0] := (setRow_other w3 w.heap.size (w.heap.size + 1) _ (by omega)).trans K2
    have M3 : Blk (w3.setRow w.heap.size (prg p.r p.c p.s A3 n3 cap3)) (w.heap.size + 2) 27 #[.int .i64 0] := (setRow_other w3 w.heap.size (w.heap.size + 2) _ (by omega)).trans K3
    have M5 : Blk (w3.setRow w.heap.size (prg p.r p.c p.s A3 n3 cap3)) w1.heap.size 57 #[.pointer (some ⟨g, 0, none⟩)] := (setRow_other w3 w.heap.size w1.heap.size _ (by omega)).trans K5
    have MB : Below w.heap.size w (w3.setRow w.heap.size (prg p.r p.c p.s A3 n3 cap3)) := below_setRow hb3 (Nat.le_refl _) _
    obtain ⟨A6, c6, hb6, _⟩ := hr3.ex
    have M6 : Blk (w3.setRow w.heap.size (prg p.r p.c p.s A3 n3 cap3)) g 73 #[.slice A6 xs.length c6, .int .i64 (xs.length : Int), .bool true] := (setRow_other w3 w.heap.size g _ (by omega)).trans hb6
    have MM : Mat (w3.setRow w.heap.size (prg p.r p.c p.s A3 n3 cap3)) (From w3 W2.heap.size) A3 n3 cap3 p.m := hM3.keep fun q hq => cell_blk q (setRow_other w3 w.heap.size q.block _ (by have := hq.1; omega))
    have MS : (w3.setRow w.heap.size (prg p.r p.c p.s A3 n3 cap3)).heap.size = w3.heap.size := by simp [World.setRow]
    have hws : w1.heap.size ≤ w3.heap.size := by have := hg3.size; omega
    go_wp2_with (refine wpList_store_row rfl 24 (.tmp 2) (.tmp 15) rfl w.heap.size (prg p.r p.c p.s A3 n3 cap3) rfl rfl 24 (prg 0 0 0 none 0 0) K1 info24 rfl (prg_one p.r p.c p.s A3 n3 cap3) ?_)
    generalize w3.setRow w.heap.size (prg p.r p.c p.s A3 n3 cap3) = w4 at *
    clear hP hm hr3 hM3 K1 K2 K3 K5 k1' k2' k3' c5 z5 hb6 hb3 hbw
    try simp only [Act.put, List.setIfInBounds_toArray, List.set_cons_zero, List.set_cons_succ]
    have z0 : w4.cell? ⟨w.heap.size, 0, none⟩ = some (.int .i64 p.r) := M1.cell 0
    have z1 : w4.cell? ⟨w.heap.size, 1, none⟩ = some (.int .i64 p.c) := M1.cell 1
    have z2 : w4.cell? ⟨w.heap.size, 2, none⟩ = some (.int .i64 p.s) := M1.cell 2
    have z3 : w4.cell? ⟨w.heap.size, 3, none⟩ = some (.slice A3 n3 cap3) := M1.cell 3
    have z4 : w4.cell? ⟨w1.heap.size, 0, none⟩ = some (.pointer (some ⟨g, 0, none⟩)) := M5.cell 0
    refine wp_region_noPanic ?_
    refine wp_region_held_drew (S := fun W => W.cell? ⟨w.heap.size, 0, none⟩ = some (.int .i64 p.r) ∧ W.cell? ⟨w.heap.size, 1, none⟩ = some (.int .i64 p.c) ∧ W.cell? ⟨w.heap.size, 2, none⟩ = some (.int .i64 p.s) ∧ W.cell? ⟨w.heap.size, 3, none⟩ = some (.slice A3 n3 cap3) ∧ W.cell? ⟨w1.heap.size, 0, none⟩ = some (.pointer (some ⟨g, 0, none⟩))) (by kernel_rfl) ⟨z0, z1, z2, z3, z4⟩ (fun hHeld => ?_)
    refine wpAnyH_take (i := 0) (oi := ⟨some 16, _, _, _, _, _⟩) (v := ?_) rfl (by kernel_rfl) (by kernel_rfl) (by kernel_rfl) (fun _ _ _ h => h) (Or.inl ⟨by rfl, ?_⟩) (by assumption) ?_
    rotate_left 1
    · (intro W hSw; go_simp <;> with_reducible rfl)
    try simp only [Act.put, List.setIfInBounds_toArray, List.set_cons_zero, List.set_cons_succ]
    refine wpAnyH_take (i := 1) (oi := ⟨some 17, _, _, _, _, _⟩) (v := ?_) rfl (by kernel_rfl) (by kernel_rfl) (by kernel_rfl) (fun _ _ _ h => h) (Or.inl ⟨by rfl, ?_⟩) (by assumption) ?_
    rotate_left 1
    · (intro W hSw; go_simp <;> with_reducible rfl)
    try simp only [Act.put, List.setIfInBounds_toArray, List.set_cons_zero, List.set_cons_succ]
    refine wpAnyH_take (i := 2) (oi := ⟨some 18, _, _, _, _, _⟩) (v := ?_) rfl (by kernel_rfl) (by kernel_rfl) (by kernel_rfl) (fun _ _ _ h => h) (Or.inl ⟨by rfl, ?_⟩) (by assumption) ?_
    rotate_left 1
    · (intro W hSw; go_simp <;> with_reducible rfl)
    try simp only [Act.put, List.setIfInBounds_toArray, List.set_cons_zero, List.set_cons_succ]
    have N1 : Blk w4.drew w.heap.size 24 (prg p.r p.c p.s A3 n3 cap3) := M1
    have N2 : Blk w4.drew (w.heap.size + 1) 3 #[.int .i64 0] := M2
    have N3 : Blk w4.drew (w.heap.size + 2) 27 #[.int .i64 0] := M3
    have N5 : Blk w4.drew w1.heap.size 57 #[.pointer (some ⟨g, 0, none⟩)] := M5
    have N6 : Blk w4.drew g 73 #[.slice A6 xs.length c6, .int .i64 (xs.length : Int), .bool true] := M6
    have NB : Below w.heap.size w w4.drew := MB.drew
    have NM : Mat w4.drew (From w3 W2.heap.size) A3 n3 cap3 p.m := MM.keep fun _ _ => rfl
    have NS : w4.drew.heap.size = w3.heap.size := MS
    generalize w4.drew = v0 at *
    clear M1 M2 M3 M5 M6 MB MM MS z0 z1 z2 z3 z4
    refine wpAnyH_ready (rs := [3]) (by kernel_rfl) (by simp) ?_
    refine AllReadyH.cons rfl (fun K hK => ?_) AllReadyH.nil
    go_simp
    refine (at_blk N6).mono ?_
    rintro e w' ⟨rfl, rfl⟩
    refine hK.out _ _ ⟨N1.cell 0, N1.cell 1, N1.cell 2, N1.cell 3, N5.cell 0⟩ (fun hHeld => ?_)
    clear hK K
    try simp only [Act.put, List.setIfInBounds_toArray, List.set_cons_zero, List.set_cons_succ]
    have O1 : Blk (v0.setRow w.heap.size (prg p.r p.c p.s A3 n3 cap3)) w.heap.size 24 (prg p.r p.c p.s A3 n3 cap3) := setRow_heap _ _ _ _ _ _ N1
    have O2 : Blk (v0.setRow w.heap.size (prg p.r p.c p.s A3 n3 cap3)) (w.heap.size + 1) 3 #[.int .i64 0] := (setRow_other v0 w.heap.size (w.heap.size + 1) _ (by omega)).trans N2
    have O3 : Blk (v0.setRow w.heap.size (prg p.r p.c p.s A3 n3 cap3)) (w.heap.size + 2) 27 #[.int .i64 0] := (setRow_other v0 w.heap.size (w.heap.size + 2) _ (by omega)).trans N3
    have O5 : Blk (v0.setRow w.heap.size (prg p.r p.c p.s A3 n3 cap3)) w1.heap.size 57 #[.pointer (some ⟨g, 0, none⟩)] := (setRow_other v0 w.heap.size w1.heap.size _ (by omega)).trans N5
    have OB : Below w.heap.size w (v0.setRow w.heap.size (prg p.r p.c p.s A3 n3 cap3)) := below_setRow NB (Nat.le_refl _) _
    have OM : Mat (v0.setRow w.heap.size (prg p.r p.c p.s A3 n3 cap3)) (From w3 W2.heap.size) A3 n3 cap3 p.m := NM.keep fun q hq => cell_blk q (setRow_other v0 w.heap.size q.block _ (by have := hq.1; omega))
    have OS : (v0.setRow w.heap.size (prg p.r p.c p.s A3 n3 cap3)).heap.size = w3.heap.size := by simpa [World.setRow] using NS
    refine wpAnyH_ready (rs := [4]) (by kernel_rfl) (by simp) ?_
    refine AllReadyH.cons rfl (fun K hK => ?_) AllReadyH.nil
    rw [if_pos (by rfl)]
    refine wp_store_row 24 (.tmp 2) (.tmp 16) rfl w.heap.size (prg p.r p.c p.s A3 n3 cap3) rfl rfl 24 (prg p.r p.c p.s A3 n3 cap3) N1 info24 rfl (prg_one p.r p.c p.s A3 n3 cap3) ?_
    refine hK.out _ _ ⟨O1.cell 0, O1.cell 1, O1.cell 2, O1.cell 3, O5.cell 0⟩ (fun hHeld => ?_)
    clear hK K N1 N2 N3 N5 N6 NB NM NS
    generalize v0.setRow w.heap.size (prg p.r p.c p.s A3 n3 cap3) = v1 at *
    try simp only [Act.put, List.setIfInBounds_toArray, List.set_cons_zero, List.set_cons_succ]
    have q0 : v1.cell? ⟨w.heap.size + 1, 0, none⟩ = some (.int .i64 0) := O2.cell 0
    have qf := O2.free 0
    have U1 : Blk (v1.setCell ⟨w.heap.size + 1, 0, none⟩ (.int .i64 (xs.length : Int))) w.heap.size 24 (prg p.r p.c p.s A3 n3 cap3) := (heap_set v1 _ 0 w.heap.size _ (by omega)).trans O1
    have U2 : Blk (v1.setCell ⟨w.heap.size + 1, 0, none⟩ (.int .i64 (xs.length : Int))) (w.heap.size + 1) 3 #[.int .i64 (xs.length : Int)] := O2.set_ 0 _
    have U3 : Blk (v1.setCell ⟨w.heap.size + 1, 0, none⟩ (.int .i64 (xs.length : Int))) (w.heap.size + 2) 27 #[.int .i64 0] := (heap_set v1 _ 0 (w.heap.size + 2) _ (by omega)).trans O3
    have U5 : Blk (v1.setCell ⟨w.heap.size + 1, 0, none⟩ (.int .i64 (xs.length : Int))) w1.heap.size 57 #[.pointer (some ⟨g, 0, none⟩)] := (heap_set v1 _ 0 w1.heap.size _ (by omega)).trans O5
    have UB : Below w.heap.size w (v1.setCell ⟨w.heap.size + 1, 0, none⟩ (.int .i64 (xs.length : Int))) := OB.setCell (by show w.heap.size ≤ w.heap.size + 1; omega) _
    have UM : Mat (v1.setCell ⟨w.heap.size + 1, 0, none⟩ (.int .i64 (xs.length : Int))) (From w3 W2.heap.size) A3 n3 cap3 p.m := OM.keep fun q hq => cell_blk q (heap_set v1 _ 0 q.block _ (by have := hq.1; omega))
    have US : (v1.setCell ⟨w.heap.size + 1, 0, none⟩ (.int .i64 (xs.length : Int))).heap.size = w3.heap.size := by simpa [World.setCell] using OS
    refine wpAnyH_ready (rs := [5]) (by kernel_rfl) (by simp) ?_
    refine AllReadyH.cons rfl (fun K hK => ?_) AllReadyH.nil
    go_simp
    refine hK.out _ _ ⟨U1.cell 0, U1.cell 1, U1.cell 2, U1.cell 3, U5.cell 0⟩ (fun hHeld => ?_)
    clear hK K O1 O2 O3 O5 OB OM OS q0 qf
    generalize v1.setCell ⟨w.heap.size + 1, 0, none⟩ (.int .i64 (xs.length : Int)) = v2 at *
    try simp only [Act.put, List.setIfInBounds_toArray, List.set_cons_zero, List.set_cons_succ]
    have r0 : v2.cell? ⟨w.heap.size + 2, 0, none⟩ = some (.int .i64 0) := U3.cell 0
    have rf := U3.free 0
    have X1 : Blk (v2.setCell ⟨w.heap.size + 2, 0, none⟩ (.int .i64 0)) w.heap.size 24 (prg p.r p.c p.s A3 n3 cap3) := (heap_set v2 _ 0 w.heap.size _ (by omega)).trans U1
    have X2 : Blk (v2.setCell ⟨w.heap.size + 2, 0, none⟩ (.int .i64 0)) (w.heap.size + 1) 3 #[.int .i64 (xs.length : Int)] := (heap_set v2 _ 0 (w.heap.size + 1) _ (by omega)).trans U2
    have X3 : Blk (v2.setCell ⟨w.heap.size + 2, 0, none⟩ (.int .i64 0)) (w.heap.size + 2) 27 #[.int .i64 0] := U3.set_ 0 _
    have X5 : Blk (v2.setCell ⟨w.heap.size + 2, 0, none⟩ (.int .i64 0)) w1.heap.size 57 #[.pointer (some ⟨g, 0, none⟩)] := (heap_set v2 _ 0 w1.heap.size _ (by omega)).trans U5
    have XB : Below w.heap.size w (v2.setCell ⟨w.heap.size + 2, 0, none⟩ (.int .i64 0)) := UB.setCell (by show w.heap.size ≤ w.heap.size + 2; omega) _
    have XM : Mat (v2.setCell ⟨w.heap.size + 2, 0, none⟩ (.int .i64 0)) (From w3 W2.heap.size) A3 n3 cap3 p.m := UM.keep fun q hq => cell_blk q (heap_set v2 _ 0 q.block _ (by have := hq.1; omega))
    have XS : (v2.setCell ⟨w.heap.size + 2, 0, none⟩ (.int .i64 0)).heap.size = w3.heap.size := by simpa [World.setCell] using US
    refine wpAnyH_ready (rs := [6]) (by kernel_rfl) (by simp) ?_
    refine AllReadyH.cons rfl (fun K hK => ?_) AllReadyH.nil
    go_simp
    refine hK.out _ _ ⟨X1.cell 0, X1.cell 1, X1.cell 2, X1.cell 3, X5.cell 0⟩ (fun hHeld => ?_)
    clear hK K U1 U2 U3 U5 UB UM US r0 rf
    generalize v2.setCell ⟨w.heap.size + 2, 0, none⟩ (.int .i64 0) = v3 at *
    try simp only [Act.put, List.setIfInBounds_toArray, List.set_cons_zero, List.set_cons_succ]
    refine wpAnyH_done (by kernel_rfl) ?_ _
    refine NoPanic.normal ?_
    clear hHeld
    go_wp2_with fail
    refine leaves_cons (f := 28) (args := #[.pointer (some ⟨w.heap.size, 0, none⟩), .pointer (some ⟨w.heap.size + 1, 0, none⟩), .pointer (some ⟨w.heap.size + 2, 0, none⟩)]) (by simp) (by simp [go_sem]) ?_
    refine (catch_idle _ _ _ v3).mono ?_
    rintro e u' v4 ⟨rfl, rfl, hb4⟩
    have L1 := X1.below hb4 X1.lt
    have L2 := X2.below hb4 X2.lt
    have L3 := X3.below hb4 X3.lt
    have d0 : v4.cell? ⟨w.heap.size, 0, none⟩ = some (.int .i64 p.r) := L1.cell 0
    have d1 : v4.cell? ⟨w.heap.size, 1, none⟩ = some (.int .i64 p.c) := L1.cell 1
    have d2 : v4.cell? ⟨w.heap.size, 2, none⟩ = some (.int .i64 p.s) := L1.cell 2
    have d3 : v4.cell? ⟨w.heap.size, 3, none⟩ = some (.slice A3 n3 cap3) := L1.cell 3
    have d4 : v4.cell? ⟨w.heap.size + 1, 0, none⟩ = some (.int .i64 (xs.length : Int)) := L2.cell 0
    have d5 : v4.cell? ⟨w.heap.size + 2, 0, none⟩ = some (.int .i64 0) := L3.cell 0
    have hMf : Mat v4 (From v4 w.heap.size) A3 n3 cap3 p.m := (XM.below hb4 fun q hq => by rw [XS]; exact hq.2).more fun q hq => ⟨by have := hq.1; omega, Nat.lt_of_lt_of_le (by rw [XS]; exact hq.2) hb4.size⟩
    have HB := Lib.hid (And.intro hMf (XB.trans (hb4.mono XB.size)))
    clear hMf XB hb4 XM XS L1 L2 L3 X1 X2 X3 X5 hg3 h1 h2 h3 hL
    simp [Leaves, settle, results, Tryd.results14, go_sem, d0, d1, d2, d3, d4, d5]
    show GetsP xs w (getP xs) _ _
    rw [hgp]
    exact ⟨A3, n3, cap3, rfl, HB.out.1, HB.out.2⟩
end Go.Proofs.YtcbekkbhhepeaaaDoor
