/- What a part has in a state's sum; the sum of a state, by both sides. Conditions: lists of at most 1048576. -/
import Derived.Test.YtfmkmmmaoiepmaaRef4
import Derived.Test.YtfmkmmmaoiepmaaSums
namespace Go.Proofs.Ytfmkmmmaoiepmaa
set_option linter.unusedSimpArgs false
set_option linter.unusedVariables false
open Go.RowKit Go.ChangeShapes Go.WideShapes

/-- The sum of octets, with a seed; what a part has. -/
def sumZ (s : Int) (ys : List Int) : Int := goes (mixd s (ys.length : Int)) ys
def partZ (i : Int) (ys : List Int) : Int := sumZ (IntKind.u64.wrap i) ys
/-- The sum behind so many threads; behind all of them, and so many buffers. -/
def hT (c : Sc) : Nat → Int
  | 0 => partZ 128 (octs c.sh)
  | k + 1 => bits .xor .u64 (hT c k) (partZ (k : Int) (octs (c.th.getD k noTc).ns))
def hB (c : Sc) (bl : List Bu) : Nat → Int
  | 0 => hT c c.th.length
  | k + 1 => bits .xor .u64 (hB c bl k) (partZ (64 + (k : Int)) (octs (bl.getD k noBu).ns))
theorem csum_any (s : Int) (xs : List Int) (A : Option Addr) (n cap : Nat) (w : World) (B : Nat) (h : Oct w B A n cap xs) : Calls Try.prog 32 #[.int .u64 s, .slice A n cap] w fun e w' => e = .returned (.int .u64 (sumZ s xs)) ∧ w = w' := by
  have hl := h.len
  subst hl
  exact sum_any s xs A _ cap w B h
theorem rsum_any (s : Int) (xs : List Int) (A : Option Addr) (n cap : Nat) (w : World) (B : Nat) (h : Oct w B A n cap xs) : Calls Try.prog 19 #[.int .u64 s, .slice A n cap] w fun e w' => e = .returned (.int .u64 (sumZ s xs)) ∧ w = w' := by
  have hl := h.len
  subst hl
  exact refsum_any s xs A _ cap w B h
theorem partZ_small {i : Int} (h0 : 0 ≤ i) (h1 : i ≤ 1000) (ys : List Int) : partZ i ys = sumZ i ys := by
  unfold partZ
  rw [u64_mod, Int.emod_eq_of_lt h0 (by omega)]
theorem wrap128 : IntKind.u64.wrap 128 = 128 := by decide
theorem part_any (i : Int) (xs : List Int) (A : Option Addr) (n cap : Nat) (w : World) (B : Nat) (h : Oct w B A n cap xs) : Calls Try.prog 18 #[.int .i64 i, .slice A n cap] w fun e w' => e = .returned (.int .u64 (partZ i xs)) ∧ w = w' := by
  have d := csum_any (IntKind.u64.wrap i) xs A n cap w B h
  go_enter Try.func18, Try.ntmps18
  go_wp2_with fail
  refine d.mono ?_
  rintro e w' ⟨rfl, rfl⟩
  go_wp2
  go_ret
  exact ⟨rfl, rfl⟩
set_option maxRecDepth 100000 in
set_option maxHeartbeats 4000000 in
theorem chash_any (s : St) (c : Sc) (bl : List Bu) (w : World) (hr : Stat w s c bl) (hf : Fits c bl) : Calls Try.prog 16 #[.agg s.cs.toArray] w fun e w' => e = .returned (.int .u64 (hB c bl bl.length)) ∧ Below w.heap.size w w' := by
  have HL := Lib.hid hr.th.len
  have HM := Lib.hid hr.bu.len
  have H4 := Lib.hid hf.t4
  have H5 := Lib.hid hf.b4
  have mx := Sees.most hr.th.sees
  have rm := Sees.room hr.th.sees
  have mx2 := Sees.most hr.bu.sees
  have rm2 := Sees.room hr.bu.sees
  unfold maxLen at mx mx2
  have HR := Lib.hid hr
  have HO := Lib.hid hf
  have q4 : s.th.n ≤ 4 := by have h1 := H4.out; have h2 := HL.out; omega
  have q5 : s.bu.n ≤ 4 := by have h1 := H5.out; have h2 := HM.out; omega
  clear hf
  obtain ⟨p1, f1⟩ : ∃ p, w.heap.size = p := ⟨_, rfl⟩
  obtain ⟨W1, ea1⟩ : ∃ W, w.alloc (.cells s.cs.toArray 29) = W := ⟨_, rfl⟩
  have k1 : Below w.heap.size w W1 := by rw [← ea1]; exact (Below.refl _ w).alloc (Nat.le_refl _) _
  have b1 : Blk W1 p1 29 s.cs.toArray := by rw [← ea1]; exact blk_new w _ 29 _ f1
  have kk := k1
  clear k1
  go_enter Try.func16, Try.ntmps16
  go_wp2_with (((with_reducible refine at_load 29 (.tmp 1) ?_); refine wpList_load_row rfl 29 (.tmp 1) rfl p1 rfl 29 s.cs.toArray (0, 0) _ b1 Try.underlying29 rfl (sizeS _) ?_))
  refine (cshared_any s c bl W1 (hr.sh.on kk) HO.out).mono ?_
  rintro e W2 ⟨A2, n2, c2, rfl, o2, k2⟩
  replace b1 := b1.on k2
  replace kk := kk.trans (k2.mono kk.size)
  clear k2
  go_wp2_with fail
  refine (part_any 128 _ _ _ _ W2 _ o2).mono ?_
  rintro e W3 ⟨rfl, rfl⟩
  have c_0 : W2.cell? ⟨p1, 0, none⟩ = some (.slice s.th.A s.th.n s.th.cap) := b1.cell 0
  go_wp2
  clear c_0
  go_loopw [3, 4, 5, 14] (fun v _ _ i wr => ∃ k : Nat, k ≤ s.th.n ∧ i = .int .i64 k ∧ v = .int .u64 (hT c k) ∧ Blk wr p1 29 s.cs.toArray ∧ Below w.heap.size w wr) (fun _ _ _ i _ => s.th.n - (intOf i).toNat)
  case atStart => exact ⟨0, Nat.zero_le _, rfl, rfl, b1, kk⟩
  case round =>
    clear b1 kk
    obtain ⟨k, hk, rfl, rfl, b1, kk⟩ := hrel
    have hr := HR.out.on kk
    by_cases hlt : k < s.th.n
    · obtain ⟨g, oo, eA, c0⟩ := hr.th.get hlt
      have EA := Lib.hid eA
      clear eA
      have hy := getD_mem (show k < c.th.length by rw [HL.out]; exact hlt) noTc
      obtain ⟨y, ey⟩ : ∃ y, c.th.getD k noTc = y := ⟨_, rfl⟩
      rw [ey] at c0 hy
      have HS := Lib.hid (show hT c (k + 1) = bits .xor .u64 (hT c k) (partZ (k) (octs y.ns)) by rw [← ey]; rfl)
      clear ey
      have hkI : (k : Int) < (s.th.n : Int) := by omega
      have hk0 : (0 : Int) ≤ (k : Int) := by omega
      have hk4 : (k : Int) ≤ 4 := by omega
      have hi : ∀ W, (Instr.indexAt 22 (.slice s.th.A s.th.n s.th.cap) (.int .i64 (k : Int))).run Try.prog W = .ok (.pointer (some ⟨g, oo + k * 22, none⟩)) W := fun W => by rw [EA.out]; go_simp
      obtain ⟨pb, fb⟩ : ∃ p, wr.heap.size = p := ⟨_, rfl⟩
      obtain ⟨w1, e1⟩ : ∃ W, wr.alloc (.cells #[.int .i64 0, .int .i64 0, .int .i64 0, .int .i64 0, .int .i64 0, .int .i64 0, .int .i64 0, .int .i64 0, .int .i64 0, .int .i64 0, .int .i64 0, .int .i64 0, .int .i64 0, .int .i64 0, .int .i64 0, .int .i64 0, .int .i64 0, .int .i64 0, .slice none 0 0, .slice none 0 0, .slice none 0 0, .int .i64 0] 41) = W := ⟨_, rfl⟩
      have k1 : Below wr.heap.size wr w1 := by rw [← e1]; exact (Below.refl _ wr).alloc (Nat.le_refl _) _
      have bz : Blk w1 pb 41 #[.int .i64 0, .int .i64 0, .int .i64 0, .int .i64 0, .int .i64 0, .int .i64 0, .int .i64 0, .int .i64 0, .int .i64 0, .int .i64 0, .int .i64 0, .int .i64 0, .int .i64 0, .int .i64 0, .int .i64 0, .int .i64 0, .int .i64 0, .int .i64 0, .slice none 0 0, .slice none 0 0, .slice none 0 0, .int .i64 0] := by rw [← e1]; exact blk_new wr _ 41 _ fb
      obtain ⟨w2, e2⟩ : ∃ W, w1.setRow pb y.x.cs.toArray = W := ⟨_, rfl⟩
      have bx : Blk w2 pb 41 y.x.cs.toArray := row_named bz e2
      have k9 : Below wr.heap.size wr w2 := k1.trans (row_below e2 (Nat.le_of_eq fb) k1.size)
      replace b1 := b1.on k9
      replace kk := kk.trans (k9.mono kk.size)
      replace hr := hr.on k9
      clear k9 k1
      go_wp2_with (first | ((with_reducible refine at_load 41 (.tmp 17) ?_); refine wpList_mid (by rfl) 41 (.tmp 17) rfl g (oo + k * 22) rfl y.x.cs _ c0 Try.underlying41 rfl size41 ?_) | ((with_reducible refine at_store 41 (.tmp 5) (.tmp 18) ?_); refine wpList_store_row rfl 41 (.tmp 5) (.tmp 18) rfl pb y.x.cs.toArray rfl rfl 41 #[.int .i64 0, .int .i64 0, .int .i64 0, .int .i64 0, .int .i64 0, .int .i64 0, .int .i64 0, .int .i64 0, .int .i64 0, .int .i64 0, .int .i64 0, .int .i64 0, .int .i64 0, .int .i64 0, .int .i64 0, .int .i64 0, .int .i64 0, .int .i64 0, .slice none 0 0, .slice none 0 0, .slice none 0 0, .int .i64 0] bz (sizeT _) rfl (Th.onea _) ?_; rw [e2]) | ((with_reducible refine at_load 41 (.tmp 5) ?_); refine wpList_load_row rfl 41 (.tmp 5) rfl pb rfl 41 y.x.cs.toArray (0, 0) _ bx Try.underlying41 rfl (sizeT _) ?_))
      clear hi
      refine (cthread_any y w2 (hr.th.reads y hy) (HO.out.t y hy)).mono ?_
      rintro e w5 ⟨A2, n2, c2, rfl, o2, k2⟩
      replace b1 := b1.on k2
      replace kk := kk.trans (k2.mono kk.size)
      clear k2 c0
      go_wp2_with fail
      refine (part_any (k : Int) _ _ _ _ w5 _ o2).mono ?_
      rintro e w6 ⟨rfl, rfl⟩
      go_wp2
      go_roundw
      case rel => exact ⟨k + 1, by omega, by go_num, by rw [HS.out]; try rfl, b1, kk⟩
      case measure => simp [intOf]; omega
    · have hkI : ¬ (k : Int) < (s.th.n : Int) := by omega
      have ek := Lib.hid (show k = c.th.length by rw [HL.out]; omega)
      have c_1 : wr.cell? ⟨p1, 1, none⟩ = some (.slice s.bu.A s.bu.n s.bu.cap) := b1.cell 1
      go_wp2
      clear c_1
      go_loopw [3, 6, 7, 29] (fun v _ _ i wr => ∃ k : Nat, k ≤ s.bu.n ∧ i = .int .i64 k ∧ v = .int .u64 (hB c bl k) ∧ Blk wr p1 29 s.cs.toArray ∧ Below w.heap.size w wr) (fun _ _ _ i _ => s.bu.n - (intOf i).toNat)
      case atStart => exact ⟨0, Nat.zero_le _, rfl, by rw [ek.out]; rfl, b1, kk⟩
      case round =>
        clear b1 kk
        obtain ⟨k, hk, rfl, rfl, b1, kk⟩ := hrel
        have hr := HR.out.on kk
        by_cases hlt : k < s.bu.n
        · obtain ⟨g, oo, eA, c0⟩ := hr.bu.get hlt
          have EA := Lib.hid eA
          clear eA
          have hy := getD_mem (show k < bl.length by rw [HM.out]; exact hlt) noBu
          obtain ⟨y, ey⟩ : ∃ y, bl.getD k noBu = y := ⟨_, rfl⟩
          rw [ey] at c0 hy
          have HS := Lib.hid (show hB c bl (k + 1) = bits .xor .u64 (hB c bl k) (partZ (64 + (k : Int)) (octs y.ns)) by rw [← ey]; rfl)
          clear ey
          have hkI : (k : Int) < (s.bu.n : Int) := by omega
          have hk0 : (0 : Int) ≤ (k : Int) := by omega
          have hk4 : (k : Int) ≤ 4 := by omega
          have hi : ∀ W, (Instr.indexAt 23 (.slice s.bu.A s.bu.n s.bu.cap) (.int .i64 (k : Int))).run Try.prog W = .ok (.pointer (some ⟨g, oo + k, none⟩)) W := fun W => by rw [EA.out]; go_simp
          go_wp2_with fail
          clear hi
          refine (show Calls Try.prog 10 #[.slice y.1.A y.1.n y.1.cap] wr _ from (cbuffer_any y wr (hr.bu.reads y hy) (HO.out.b y hy))).mono ?_
          rintro e w5 ⟨A2, n2, c2, rfl, o2, k2⟩
          replace b1 := b1.on k2
          replace kk := kk.trans (k2.mono kk.size)
          clear k2 c0
          go_wp2_with fail
          refine (part_any (64 + (k : Int)) _ _ _ _ w5 _ o2).mono ?_
          rintro e w6 ⟨rfl, rfl⟩
          go_wp2
          go_roundw
          case rel => exact ⟨k + 1, by omega, by go_num, by rw [HS.out]; try rfl, b1, kk⟩
          case measure => simp [intOf]; omega
        · have hkI : ¬ (k : Int) < (s.bu.n : Int) := by omega
          have ek := Lib.hid (show k = bl.length by rw [HM.out]; omega)
          go_wp2
          go_ret
          rw [ek.out]
          first | exact ⟨rfl, kk⟩ | (rw [f1] at kk; exact ⟨rfl, kk⟩)
set_option maxRecDepth 100000 in
set_option maxHeartbeats 4000000 in
theorem rhash_any (s : St) (c : Sc) (bl : List Bu) (w : World) (hr : Stat w s c bl) (hf : Fits c bl) : Calls Try.prog 17 #[.agg s.cs.toArray] w fun e w' => e = .returned (.int .u64 (hB c bl bl.length)) ∧ Below w.heap.size w w' := by
  have HL := Lib.hid hr.th.len
  have HM := Lib.hid hr.bu.len
  have H4 := Lib.hid hf.t4
  have H5 := Lib.hid hf.b4
  have mx := Sees.most hr.th.sees
  have rm := Sees.room hr.th.sees
  have mx2 := Sees.most hr.bu.sees
  have rm2 := Sees.room hr.bu.sees
  unfold maxLen at mx mx2
  have HR := Lib.hid hr
  have HO := Lib.hid hf
  have q4 : s.th.n ≤ 4 := by have h1 := H4.out; have h2 := HL.out; omega
  have q5 : s.bu.n ≤ 4 := by have h1 := H5.out; have h2 := HM.out; omega
  clear hf
  have R := Lib.hid (show hT c 0 = sumZ 128 (octs c.sh) by unfold hT partZ; rw [wrap128])
  obtain ⟨p1, f1⟩ : ∃ p, w.heap.size = p := ⟨_, rfl⟩
  obtain ⟨W1, ea1⟩ : ∃ W, w.alloc (.cells s.cs.toArray 29) = W := ⟨_, rfl⟩
  have k1 : Below w.heap.size w W1 := by rw [← ea1]; exact (Below.refl _ w).alloc (Nat.le_refl _) _
  have b1 : Blk W1 p1 29 s.cs.toArray := by rw [← ea1]; exact blk_new w _ 29 _ f1
  have kk := k1
  clear k1
  go_enter Try.func17, Try.ntmps17
  go_wp2_with (((with_reducible refine at_load 29 (.tmp 1) ?_); refine wpList_load_row rfl 29 (.tmp 1) rfl p1 rfl 29 s.cs.toArray (0, 0) _ b1 Try.underlying29 rfl (sizeS _) ?_))
  refine (rshared_any s c bl W1 (hr.sh.on kk) HO.out).mono ?_
  rintro e W2 ⟨A2, n2, c2, rfl, o2, k2⟩
  replace b1 := b1.on k2
  replace kk := kk.trans (k2.mono kk.size)
  clear k2
  go_wp2_with fail
  refine (rsum_any 128 _ _ _ _ W2 _ o2).mono ?_
  rintro e W3 ⟨rfl, rfl⟩
  have c_0 : W2.cell? ⟨p1, 0, none⟩ = some (.slice s.th.A s.th.n s.th.cap) := b1.cell 0
  go_wp2
  clear c_0
  go_loopw [3, 4] (fun v i wr => ∃ k : Nat, k ≤ s.th.n ∧ i = .int .i64 k ∧ v = .int .u64 (hT c k) ∧ Blk wr p1 29 s.cs.toArray ∧ Below w.heap.size w wr) (fun _ i _ => s.th.n - (intOf i).toNat)
  case atStart => exact ⟨0, Nat.zero_le _, rfl, by rw [R.out], b1, kk⟩
  case round =>
    clear b1 kk
    obtain ⟨k, hk, rfl, rfl, b1, kk⟩ := hrel
    have hr := HR.out.on kk
    by_cases hlt : k < s.th.n
    · obtain ⟨g, oo, eA, c0⟩ := hr.th.get hlt
      have EA := Lib.hid eA
      clear eA
      have hy := getD_mem (show k < c.th.length by rw [HL.out]; exact hlt) noTc
      obtain ⟨y, ey⟩ : ∃ y, c.th.getD k noTc = y := ⟨_, rfl⟩
      rw [ey] at c0 hy
      have HS := Lib.hid (show hT c (k + 1) = bits .xor .u64 (hT c k) (sumZ (k) (octs y.ns)) by rw [← partZ_small (by omega) (by omega)]; rw [← ey]; rfl)
      clear ey
      have hkI : (k : Int) < (s.th.n : Int) := by omega
      have hk0 : (0 : Int) ≤ (k : Int) := by omega
      have hk4 : (k : Int) ≤ 4 := by omega
      have c_0 : wr.cell? ⟨p1, 0, none⟩ = some (.slice (some ⟨g, oo, none⟩) s.th.n s.th.cap) := by rw [← EA.out]; exact b1.cell 0
      go_wp2_with (((with_reducible refine at_load 41 (.tmp 22) ?_); refine wpList_mid (by rfl) 41 (.tmp 22) rfl g (oo + k * 22) rfl y.x.cs _ c0 Try.underlying41 rfl size41 ?_))
      refine (rthread_any y wr (hr.th.reads y hy) (HO.out.t y hy)).mono ?_
      rintro e w5 ⟨A2, n2, c2, rfl, o2, k2⟩
      replace b1 := b1.on k2
      replace kk := kk.trans (k2.mono kk.size)
      clear k2 c0 c_0
      go_wp2_with fail
      refine (rsum_any (k : Int) _ _ _ _ w5 _ o2).mono ?_
      rintro e w6 ⟨rfl, rfl⟩
      have c_0 : w5.cell? ⟨p1, 0, none⟩ = some (.slice s.th.A s.th.n s.th.cap) := b1.cell 0
      go_wp2
      go_roundw
      case rel => exact ⟨k + 1, by omega, by go_num, by rw [HS.out]; try rfl, b1, kk⟩
      case measure => simp [intOf]; omega
    · have hkI : ¬ (k : Int) < (s.th.n : Int) := by omega
      have c_0 : wr.cell? ⟨p1, 0, none⟩ = some (.slice s.th.A s.th.n s.th.cap) := b1.cell 0
      have ek := Lib.hid (show k = c.th.length by rw [HL.out]; omega)
      have c_1 : wr.cell? ⟨p1, 1, none⟩ = some (.slice s.bu.A s.bu.n s.bu.cap) := b1.cell 1
      go_wp2
      clear c_1
      go_loopw [3, 5] (fun v i wr => ∃ k : Nat, k ≤ s.bu.n ∧ i = .int .i64 k ∧ v = .int .u64 (hB c bl k) ∧ Blk wr p1 29 s.cs.toArray ∧ Below w.heap.size w wr) (fun _ i _ => s.bu.n - (intOf i).toNat)
      case atStart => exact ⟨0, Nat.zero_le _, rfl, by rw [ek.out]; rfl, b1, kk⟩
      case round =>
        clear b1 kk
        obtain ⟨k, hk, rfl, rfl, b1, kk⟩ := hrel
        have hr := HR.out.on kk
        by_cases hlt : k < s.bu.n
        · obtain ⟨g, oo, eA, c0⟩ := hr.bu.get hlt
          have EA := Lib.hid eA
          clear eA
          have hy := getD_mem (show k < bl.length by rw [HM.out]; exact hlt) noBu
          obtain ⟨y, ey⟩ : ∃ y, bl.getD k noBu = y := ⟨_, rfl⟩
          rw [ey] at c0 hy
          have HS := Lib.hid (show hB c bl (k + 1) = bits .xor .u64 (hB c bl k) (sumZ (64 + (k : Int)) (octs y.ns)) by rw [← partZ_small (by omega) (by omega)]; rw [← ey]; rfl)
          clear ey
          have hkI : (k : Int) < (s.bu.n : Int) := by omega
          have hk0 : (0 : Int) ≤ (k : Int) := by omega
          have hk4 : (k : Int) ≤ 4 := by omega
          have c_1 : wr.cell? ⟨p1, 1, none⟩ = some (.slice (some ⟨g, oo, none⟩) s.bu.n s.bu.cap) := by rw [← EA.out]; exact b1.cell 1
          go_wp2_with fail
          refine (show Calls Try.prog 11 #[.slice y.1.A y.1.n y.1.cap] wr _ from (rbuffer_any y.2 y.1.A y.1.n y.1.cap wr (hr.bu.reads y hy) (by have h1 := bu_len (HO.out.b y hy); unfold Bu.ns at h1; omega))).mono ?_
          rintro e w5 ⟨A2, n2, c2, rfl, o2, k2⟩
          replace b1 := b1.on k2
          replace kk := kk.trans (k2.mono kk.size)
          clear k2 c0 c_1
          go_wp2_with fail
          refine (rsum_any (64 + (k : Int)) _ _ _ _ w5 _ o2).mono ?_
          rintro e w6 ⟨rfl, rfl⟩
          have c_1 : w5.cell? ⟨p1, 1, none⟩ = some (.slice s.bu.A s.bu.n s.bu.cap) := b1.cell 1
          go_wp2
          go_roundw
          case rel => exact ⟨k + 1, by omega, by go_num, by rw [HS.out]; try rfl, b1, kk⟩
          case measure => simp [intOf]; omega
        · have hkI : ¬ (k : Int) < (s.bu.n : Int) := by omega
          have c_1 : wr.cell? ⟨p1, 1, none⟩ = some (.slice s.bu.A s.bu.n s.bu.cap) := b1.cell 1
          have ek := Lib.hid (show k = bl.length by rw [HM.out]; omega)
          go_wp2
          go_ret
          rw [ek.out]
          first | exact ⟨rfl, kk⟩ | (rw [f1] at kk; exact ⟨rfl, kk⟩)
end Go.Proofs.Ytfmkmmmaoiepmaa
