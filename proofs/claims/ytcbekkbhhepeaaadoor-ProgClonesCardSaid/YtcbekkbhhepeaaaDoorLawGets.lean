/- The walk of ProgGets. Conditions: the variable 'rows' lies as it is laid. -/
import Derived.Test.YtcbekkbhhepeaaaDoorLawChecks
namespace Go.Proofs.YtcbekkbhhepeaaaDoor
open Go.RowKit
set_option linter.unusedSimpArgs false

theorem mat_nil (w : World) (S : Nat → Prop) : Mat w S none 0 0 [] := ⟨rfl, Nat.le_refl _, Nat.zero_le _, fun _ => rfl, fun _ h => (by cases h)⟩
/-- Get's answer over octets of any number. -/
def GetsA (xs : List Int) (w : World) (p : Except (Int × Nat) Pr) (e : Ending) (w' : World) : Prop :=
  match p with
  | .ok p => ∃ A n cap, e = .returned (.tuple #[.agg #[.int .i64 p.r, .int .i64 p.c, .int .i64 p.s, .slice A n cap], .int .i64 (xs.length : Int), .int .i64 0]) ∧ Mat w' (From w' w.heap.size) A n cap p.m ∧ Below w.heap.size w w'
  | .error err => e = .returned (.tuple #[.agg #[.int .i64 0, .int .i64 0, .int .i64 0, .slice none 0 0], .int .i64 (err.2 : Int), .int .i64 err.1]) ∧ Below w.heap.size w w'
theorem get_all {w : World} {A : Option Addr} {n cap : Nat} {ys : List Int} (h : Oct w w.heap.size A n cap ys) (hL : Laid w) : Calls Tryd.prog 14 #[.slice A n cap] w (GetsA ys w (getP ys)) := by
  refine (get_any h hL).mono ?_
  intro e w' hg
  rw [getP_778] at hg
  cases hp : getP ys with
  | error err => rw [hp] at hg; exact hg
  | ok p =>
    rw [hp] at hg
    have h1 := (getP_in hp).choose_spec.2.2
    have hp2 : getP (ys.take 778) = .ok p := by rw [getP_778]; exact hp
    have h2 := (getP_in hp2).choose_spec.2.2
    obtain ⟨A', n', cap', rfl, hM, hb⟩ := hg
    refine ⟨A', n', cap', ?_, hM, hb⟩
    rw [← h2, h1]

set_option maxRecDepth 100000 in
set_option maxHeartbeats 4000000 in
theorem gets_small (A : Option Addr) (m cap : Nat) (ys : List Int) (w : World) (hL : Laid w) (h : Oct w w.heap.size A m cap ys) (hm : m ≤ 900) :
    Calls Tryd.prog 4 #[.slice A m cap] w fun e w' => e = .returned (.bool true) ∧ Below w.heap.size w w' := by
  have t0 : (m : Int) ≤ 900 := by omega
  have hlenh := Lib.hid h.len
  have hm2 := len_i64 h.room h.most
  have HS := Lib.hid h.small
  have hA := alive_any w hL
  go_enter Tryd.func4, Tryd.ntmps4
  go_wp2_with fail
  refine hA.mono ?_
  rintro e w1 ⟨rfl, hb1⟩
  have o1 := (h.below hb1).more hb1.size
  have hL1 := hL.on hb1
  have hG := get_all o1 hL1
  clear hA h hL
  go_wp2_with fail
  refine hG.mono ?_
  clear hG
  intro e w2 hE
  cases hp : getP ys with
  | error err =>
    rw [hp] at hE
    obtain ⟨rfl, hb2⟩ := hE
    obtain ⟨e1, e2⟩ := err
    have hnz := getP_nz hp
    have g0 : (e1 != (0 : Int)) = true := by simpa using hnz
    obtain ⟨W2, eW2⟩ : ∃ W2, W2 = w2.alloc (.cells #[.int .i64 0, .int .i64 0, .int .i64 0, .slice none 0 0] 24) := ⟨_, rfl⟩
    have a2 : Below w2.heap.size w2 W2 := by rw [eW2]; exact (Below.refl _ _).alloc (Nat.le_refl _) _
    have b2 := hb2.trans (a2.mono hb2.size)
    have p2 : Blk W2 w2.heap.size 24 (prg 0 0 0 none 0 0) := by rw [eW2]; exact heap_alloc_new w2 _
    have hR := refgets_any ((o1.below b2).more b2.size) (by omega)
    clear hnz hb2 a2
    go_wp2_with fail
    rw [← eW2]
    clear eW2
    refine hR.mono ?_
    intro e w3 hE
    rw [hp] at hE
    obtain ⟨rfl, hb3⟩ := hE
    have b3 := b2.trans (hb3.mono b2.size)
    have p3 := (p2.below hb3 p2.lt).below ((Below.refl _ w3).alloc (Nat.le_refl _) (.cells (got 0 0 0 none 0 0 (e2 : Int) e1) 38)) (Nat.lt_of_lt_of_le p2.lt hb3.size)
    have z0 := p3.cell 0
    have z1 := p3.cell 1
    have z2 := p3.cell 2
    have z3 := p3.cell 3
    have b4 := b3.alloc b3.size (.cells (got 0 0 0 none 0 0 (e2 : Int) e1) 38)
    have hC := prog_same (w := w3.alloc (.cells (got 0 0 0 none 0 0 (e2 : Int) e1) 38)) (S := fun _ => False) (T := fun _ => False) 0 0 0 (mat_nil _ _) (mat_nil _ _) (fun _ h => h.elim) (fun _ h => h.elim)
    clear hR hb3 b2 b3 p2 p3 o1
    have HB := Lib.hid (hb1.trans (b4.mono hb1.size))
    clear b4 hb1
    unfold got prg at z0 z1 z2 z3
    unfold got at hC
    unfold got
    go_wp2_with fail
    refine hC.mono ?_
    rintro e w5 ⟨rfl, hb5⟩
    have HQ := Lib.hid (HB.out.trans (hb5.mono HB.out.size))
    clear hb5 hC
    go_wp2
    go_ret
    exact ⟨by simp, HQ.out⟩
  | ok p =>
    rw [hp] at hE
    obtain ⟨A3, n3, cap3, rfl, hM2, hb2⟩ := hE
    obtain ⟨hoct, hchk⟩ := getP_sound HS.out hp
    obtain ⟨r, c, s, mm⟩ := p
    simp only at hM2 hoct hchk ⊢
    rw [hlenh.out]
    obtain ⟨W2, eW2⟩ : ∃ W2, W2 = w2.alloc (.cells #[.int .i64 r, .int .i64 c, .int .i64 s, .slice A3 n3 cap3] 24) := ⟨_, rfl⟩
    have a2 : Below w2.heap.size w2 W2 := by rw [eW2]; exact (Below.refl _ _).alloc (Nat.le_refl _) _
    have b2 := hb2.trans (a2.mono hb2.size)
    have p2 : Blk W2 w2.heap.size 24 (prg r c s A3 n3 cap3) := by rw [eW2]; exact heap_alloc_new w2 _
    have hR := refgets_any ((o1.below b2).more b2.size) (by omega)
    have hMW2 : Mat W2 (fun g => g < W2.heap.size) A3 n3 cap3 mm := (hM2.below a2 fun g hg => hg.2).more fun g hg => Nat.lt_of_lt_of_le hg.2 a2.size
    clear hb2 a2 hM2
    go_wp2_with fail
    rw [← eW2]
    clear eW2
    refine hR.mono ?_
    clear hR
    intro e w3 hE
    rw [hp] at hE
    obtain ⟨A6, n6, cap6, rfl, hM3, hb3⟩ := hE
    simp only at hM3 ⊢
    rw [hlenh.out]
    have b3 := b2.trans (hb3.mono b2.size)
    obtain ⟨W3, eW3⟩ : ∃ W3, W3 = w3.alloc (.cells #[.int .i64 r, .int .i64 c, .int .i64 s, .slice A6 n6 cap6, .int .i64 (m : Int), .int .i64 0] 38) := ⟨_, rfl⟩
    have a3 : Below w3.heap.size w3 W3 := by rw [eW3]; exact (Below.refl _ _).alloc (Nat.le_refl _) _
    have p6 : Blk W3 w3.heap.size 38 (got r c s A6 n6 cap6 (m : Int) 0) := by rw [eW3]; exact heap_alloc_new w3 _
    have p3 := (p2.below hb3 p2.lt).below a3 (Nat.lt_of_lt_of_le p2.lt hb3.size)
    have hM6 : Mat W3 (fun g => g < W3.heap.size) A6 n6 cap6 mm := (hM3.below a3 fun g hg => hg.2).more fun g hg => Nat.lt_of_lt_of_le hg.2 a3.size
    have hMW3 : Mat W3 (fun g => g < W3.heap.size) A3 n3 cap3 mm := ((hMW2.below hb3 fun g hg => hg).below a3 fun g hg => Nat.lt_of_lt_of_le hg hb3.size).more fun g hg => Nat.lt_of_lt_of_le hg (Nat.le_trans hb3.size a3.size)
    have b4 := b3.trans (a3.mono b3.size)
    have o4 := (o1.below b4).more b4.size
    have x0 : W3.cell? ⟨w2.heap.size, 0, none⟩ = some (.int .i64 r) := p3.cell 0
    have x1 : W3.cell? ⟨w2.heap.size, 1, none⟩ = some (.int .i64 c) := p3.cell 1
    have x2 : W3.cell? ⟨w2.heap.size, 2, none⟩ = some (.int .i64 s) := p3.cell 2
    have x3 : W3.cell? ⟨w2.heap.size, 3, none⟩ = some (.slice A3 n3 cap3) := p3.cell 3
    have y4 : W3.cell? ⟨w3.heap.size, 4, none⟩ = some (.int .i64 (m : Int)) := p6.cell 4
    have y5 : W3.cell? ⟨w3.heap.size, 5, none⟩ = some (.int .i64 0) := p6.cell 5
    have hP := put_good hMW3 (fun g hg => hg) (hL1.on b4) r c s hchk
    rw [hoct] at hP
    clear p2 hMW2 hM3 hb3 b2 b3 a3 o1 hoct hchk
    unfold got
    rw [eW3] at x0 x1 x2 x3 y4 y5
    go_wp2_with fail
    rw [← eW3]
    clear x0 x1 x2 x3 y4 y5 eW3
    refine hP.mono ?_
    rintro e w4 ⟨A7, n7, cap7, rfl, o7, hb4⟩
    have p34 := p3.below hb4 p3.lt
    have p64 := p6.below hb4 p6.lt
    have x0 : w4.cell? ⟨w2.heap.size, 0, none⟩ = some (.int .i64 r) := p34.cell 0
    have x1 : w4.cell? ⟨w2.heap.size, 1, none⟩ = some (.int .i64 c) := p34.cell 1
    have x2 : w4.cell? ⟨w2.heap.size, 2, none⟩ = some (.int .i64 s) := p34.cell 2
    have x3 : w4.cell? ⟨w2.heap.size, 3, none⟩ = some (.slice A3 n3 cap3) := p34.cell 3
    have y0 : w4.cell? ⟨w3.heap.size, 0, none⟩ = some (.int .i64 r) := p64.cell 0
    have y1 : w4.cell? ⟨w3.heap.size, 1, none⟩ = some (.int .i64 c) := p64.cell 1
    have y2 : w4.cell? ⟨w3.heap.size, 2, none⟩ = some (.int .i64 s) := p64.cell 2
    have y3 : w4.cell? ⟨w3.heap.size, 3, none⟩ = some (.slice A6 n6 cap6) := p64.cell 3
    have hC := prog_same r c s (hMW3.below hb4 fun g hg => hg) (hM6.below hb4 fun g hg => hg) (fun g hg => Nat.lt_of_lt_of_le hg hb4.size) (fun g hg => Nat.lt_of_lt_of_le hg hb4.size)
    have b5 := b4.trans (hb4.mono b4.size)
    have o5 := o4.below hb4
    have hb4s := hb4.size
    clear p34 p64 p3 p6 hMW3 hM6 hb4 b4 o4 hP
    go_wp2_with fail
    refine hC.mono ?_
    rintro e w5 ⟨rfl, hb5⟩
    obtain ⟨tx, etx⟩ : ∃ tx, strOfNums ys = tx := ⟨_, rfl⟩
    have k1 := (o7.below hb5).text (P := Tryd.prog) 29 9 5 Tryd.underlying29 Tryd.underlying5 Tryd.underlying9
    have k2 := ((o5.more hb4s).below hb5).text (P := Tryd.prog) 29 9 5 Tryd.underlying29 Tryd.underlying5 Tryd.underlying9
    rw [etx] at k1 k2
    have b6 := b5.trans (hb5.mono b5.size)
    have HQ := Lib.hid (hb1.trans (b6.mono hb1.size))
    clear x0 x1 x2 x3 y0 y1 y2 y3 hC o7 o5 hb5 b5 b6 hb1 etx
    go_wp2
    go_ret
    exact ⟨by simp, HQ.out⟩

set_option maxRecDepth 100000 in
set_option maxHeartbeats 4000000 in
theorem gets_big (A : Option Addr) (len cap : Nat) (zs : List Int) (w : World) (hL : Laid w) (hz : Oct w w.heap.size A len cap zs) (hlen : 900 < len) :
    Calls Tryd.prog 4 #[.slice A len cap] w fun e w' => e = .returned (.bool true) ∧ Below w.heap.size w w' := by
  have t0 : (900 : Int) < (len : Int) := by omega
  obtain ⟨m, hm9⟩ : ∃ m, m = 900 := ⟨_, rfl⟩
  have hm : m ≤ 900 := by omega
  have h := hz.front (k := m) (by omega)
  have hsl : ∀ w : World, (Instr.slice 29 (.slice A len cap) none (some (.int .i64 900)) none).run Tryd.prog w = .ok (.slice A m cap) w := by
    have := cut_front A len cap m (by omega) (by have := hz.room; omega)
    rw [hm9] at this ⊢
    exact this
  have HM9 := Lib.hid hm9
  clear hz hm9
  generalize zs.take m = ys at h
  have hlenh := Lib.hid h.len
  have hm2 := len_i64 h.room h.most
  have HS := Lib.hid h.small
  have hA := alive_any w hL
  go_enter Tryd.func4, Tryd.ntmps4
  go_wp2_with fail
  refine hA.mono ?_
  rintro e w1 ⟨rfl, hb1⟩
  have o1 := (h.below hb1).more hb1.size
  have hL1 := hL.on hb1
  have hG := get_all o1 hL1
  clear hA h hL
  go_wp2_with fail
  refine hG.mono ?_
  clear hG
  intro e w2 hE
  cases hp : getP ys with
  | error err =>
    rw [hp] at hE
    obtain ⟨rfl, hb2⟩ := hE
    obtain ⟨e1, e2⟩ := err
    have hnz := getP_nz hp
    have g0 : (e1 != (0 : Int)) = true := by simpa using hnz
    obtain ⟨W2, eW2⟩ : ∃ W2, W2 = w2.alloc (.cells #[.int .i64 0, .int .i64 0, .int .i64 0, .slice none 0 0] 24) := ⟨_, rfl⟩
    have a2 : Below w2.heap.size w2 W2 := by rw [eW2]; exact (Below.refl _ _).alloc (Nat.le_refl _) _
    have b2 := hb2.trans (a2.mono hb2.size)
    have p2 : Blk W2 w2.heap.size 24 (prg 0 0 0 none 0 0) := by rw [eW2]; exact heap_alloc_new w2 _
    have hR := refgets_any ((o1.below b2).more b2.size) (by omega)
    clear hnz hb2 a2
    go_wp2_with fail
    rw [← eW2]
    clear eW2
    refine hR.mono ?_
    intro e w3 hE
    rw [hp] at hE
    obtain ⟨rfl, hb3⟩ := hE
    have b3 := b2.trans (hb3.mono b2.size)
    have p3 := (p2.below hb3 p2.lt).below ((Below.refl _ w3).alloc (Nat.le_refl _) (.cells (got 0 0 0 none 0 0 (e2 : Int) e1) 38)) (Nat.lt_of_lt_of_le p2.lt hb3.size)
    have z0 := p3.cell 0
    have z1 := p3.cell 1
    have z2 := p3.cell 2
    have z3 := p3.cell 3
    have b4 := b3.alloc b3.size (.cells (got 0 0 0 none 0 0 (e2 : Int) e1) 38)
    have hC := prog_same (w := w3.alloc (.cells (got 0 0 0 none 0 0 (e2 : Int) e1) 38)) (S := fun _ => False) (T := fun _ => False) 0 0 0 (mat_nil _ _) (mat_nil _ _) (fun _ h => h.elim) (fun _ h => h.elim)
    clear hR hb3 b2 b3 p2 p3 o1
    have HB := Lib.hid (hb1.trans (b4.mono hb1.size))
    clear b4 hb1
    unfold got prg at z0 z1 z2 z3
    unfold got at hC
    unfold got
    go_wp2_with fail
    refine hC.mono ?_
    rintro e w5 ⟨rfl, hb5⟩
    have HQ := Lib.hid (HB.out.trans (hb5.mono HB.out.size))
    clear hb5 hC
    go_wp2
    go_ret
    exact ⟨by simp, HQ.out⟩
  | ok p =>
    rw [hp] at hE
    obtain ⟨A3, n3, cap3, rfl, hM2, hb2⟩ := hE
    obtain ⟨hoct, hchk⟩ := getP_sound HS.out hp
    obtain ⟨r, c, s, mm⟩ := p
    simp only at hM2 hoct hchk ⊢
    rw [hlenh.out]
    obtain ⟨W2, eW2⟩ : ∃ W2, W2 = w2.alloc (.cells #[.int .i64 r, .int .i64 c, .int .i64 s, .slice A3 n3 cap3] 24) := ⟨_, rfl⟩
    have a2 : Below w2.heap.size w2 W2 := by rw [eW2]; exact (Below.refl _ _).alloc (Nat.le_refl _) _
    have b2 := hb2.trans (a2.mono hb2.size)
    have p2 : Blk W2 w2.heap.size 24 (prg r c s A3 n3 cap3) := by rw [eW2]; exact heap_alloc_new w2 _
    have hR := refgets_any ((o1.below b2).more b2.size) (by omega)
    have hMW2 : Mat W2 (fun g => g < W2.heap.size) A3 n3 cap3 mm := (hM2.below a2 fun g hg => hg.2).more fun g hg => Nat.lt_of_lt_of_le hg.2 a2.size
    clear hb2 a2 hM2
    go_wp2_with fail
    rw [← eW2]
    clear eW2
    refine hR.mono ?_
    clear hR
    intro e w3 hE
    rw [hp] at hE
    obtain ⟨A6, n6, cap6, rfl, hM3, hb3⟩ := hE
    simp only at hM3 ⊢
    rw [hlenh.out]
    have b3 := b2.trans (hb3.mono b2.size)
    obtain ⟨W3, eW3⟩ : ∃ W3, W3 = w3.alloc (.cells #[.int .i64 r, .int .i64 c, .int .i64 s, .slice A6 n6 cap6, .int .i64 (m : Int), .int .i64 0] 38) := ⟨_, rfl⟩
    have a3 : Below w3.heap.size w3 W3 := by rw [eW3]; exact (Below.refl _ _).alloc (Nat.le_refl _) _
    have p6 : Blk W3 w3.heap.size 38 (got r c s A6 n6 cap6 (m : Int) 0) := by rw [eW3]; exact heap_alloc_new w3 _
    have p3 := (p2.below hb3 p2.lt).below a3 (Nat.lt_of_lt_of_le p2.lt hb3.size)
    have hM6 : Mat W3 (fun g => g < W3.heap.size) A6 n6 cap6 mm := (hM3.below a3 fun g hg => hg.2).more fun g hg => Nat.lt_of_lt_of_le hg.2 a3.size
    have hMW3 : Mat W3 (fun g => g < W3.heap.size) A3 n3 cap3 mm := ((hMW2.below hb3 fun g hg => hg).below a3 fun g hg => Nat.lt_of_lt_of_le hg hb3.size).more fun g hg => Nat.lt_of_lt_of_le hg (Nat.le_trans hb3.size a3.size)
    have b4 := b3.trans (a3.mono b3.size)
    have o4 := (o1.below b4).more b4.size
    have x0 : W3.cell? ⟨w2.heap.size, 0, none⟩ = some (.int .i64 r) := p3.cell 0
    have x1 : W3.cell? ⟨w2.heap.size, 1, none⟩ = some (.int .i64 c) := p3.cell 1
    have x2 : W3.cell? ⟨w2.heap.size, 2, none⟩ = some (.int .i64 s) := p3.cell 2
    have x3 : W3.cell? ⟨w2.heap.size, 3, none⟩ = some (.slice A3 n3 cap3) := p3.cell 3
    have y4 : W3.cell? ⟨w3.heap.size, 4, none⟩ = some (.int .i64 (m : Int)) := p6.cell 4
    have y5 : W3.cell? ⟨w3.heap.size, 5, none⟩ = some (.int .i64 0) := p6.cell 5
    have hP := put_good hMW3 (fun g hg => hg) (hL1.on b4) r c s hchk
    rw [hoct] at hP
    clear p2 hMW2 hM3 hb3 b2 b3 a3 o1 hoct hchk
    unfold got
    rw [eW3] at x0 x1 x2 x3 y4 y5
    go_wp2_with fail
    rw [← eW3]
    clear x0 x1 x2 x3 y4 y5 eW3
    refine hP.mono ?_
    rintro e w4 ⟨A7, n7, cap7, rfl, o7, hb4⟩
    have p34 := p3.below hb4 p3.lt
    have p64 := p6.below hb4 p6.lt
    have x0 : w4.cell? ⟨w2.heap.size, 0, none⟩ = some (.int .i64 r) := p34.cell 0
    have x1 : w4.cell? ⟨w2.heap.size, 1, none⟩ = some (.int .i64 c) := p34.cell 1
    have x2 : w4.cell? ⟨w2.heap.size, 2, none⟩ = some (.int .i64 s) := p34.cell 2
    have x3 : w4.cell? ⟨w2.heap.size, 3, none⟩ = some (.slice A3 n3 cap3) := p34.cell 3
    have y0 : w4.cell? ⟨w3.heap.size, 0, none⟩ = some (.int .i64 r) := p64.cell 0
    have y1 : w4.cell? ⟨w3.heap.size, 1, none⟩ = some (.int .i64 c) := p64.cell 1
    have y2 : w4.cell? ⟨w3.heap.size, 2, none⟩ = some (.int .i64 s) := p64.cell 2
    have y3 : w4.cell? ⟨w3.heap.size, 3, none⟩ = some (.slice A6 n6 cap6) := p64.cell 3
    have hC := prog_same r c s (hMW3.below hb4 fun g hg => hg) (hM6.below hb4 fun g hg => hg) (fun g hg => Nat.lt_of_lt_of_le hg hb4.size) (fun g hg => Nat.lt_of_lt_of_le hg hb4.size)
    have b5 := b4.trans (hb4.mono b4.size)
    have o5 := o4.below hb4
    have hb4s := hb4.size
    clear p34 p64 p3 p6 hMW3 hM6 hb4 b4 o4 hP
    go_wp2_with fail
    refine hC.mono ?_
    rintro e w5 ⟨rfl, hb5⟩
    obtain ⟨tx, etx⟩ : ∃ tx, strOfNums ys = tx := ⟨_, rfl⟩
    have k1 := (o7.below hb5).text (P := Tryd.prog) 29 9 5 Tryd.underlying29 Tryd.underlying5 Tryd.underlying9
    have k2 := ((o5.more hb4s).below hb5).text (P := Tryd.prog) 29 9 5 Tryd.underlying29 Tryd.underlying5 Tryd.underlying9
    rw [etx] at k1 k2
    have b6 := b5.trans (hb5.mono b5.size)
    have HQ := Lib.hid (hb1.trans (b6.mono hb1.size))
    clear x0 x1 x2 x3 y0 y1 y2 y3 hC o7 o5 hb5 b5 b6 hb1 etx
    go_wp2
    go_ret
    exact ⟨by simp, HQ.out⟩

theorem gets_any (A : Option Addr) (len cap : Nat) (zs : List Int) (w : World) (hL : Laid w) (hz : Oct w w.heap.size A len cap zs) :
    Calls Tryd.prog 4 #[.slice A len cap] w fun e w' => e = .returned (.bool true) ∧ Below w.heap.size w w' := by
  rcases Nat.lt_or_ge 900 len with h | h
  · exact gets_big A len cap zs w hL hz h
  · exact gets_small A len cap zs w hL hz h
end Go.Proofs.YtcbekkbhhepeaaaDoor
