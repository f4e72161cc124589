/- The plain octets of a thread, of what is shared, of a state. Conditions: lists of at most 1048576. -/
import Derived.Test.YtfmkmmmaoiepmaaRef
namespace Go.Proofs.Ytfmkmmmaoiepmaa
set_option linter.unusedSimpArgs false
set_option linter.unusedVariables false
open Go.RowKit Go.ChangeShapes Go.WideShapes

theorem octs_thr8 (t : Tc) {n : Nat} (hl : t.l.length = n) : [] ++ oct8 t.x.pc ++ oct8 t.x.fu ++ oct8 t.x.st ++ octs (t.x.ws.flatMap Wd.ns) ++ oct8 t.x.k ++ oct8 t.x.i ++ oct8 t.x.n ++ octs (many one t.z) ++ octs (many Bg.ns t.l) ++ octs (many one t.s) ++ oct8 t.x.old = octs t.ns := by
  rw [← octs_one t.x.pc, ← octs_one t.x.fu, ← octs_one t.x.st, ← octs_one t.x.k, ← octs_one t.x.i, ← octs_one t.x.n, ← octs_one t.x.old]
  simp only [List.append_assoc, ← octs_app, List.nil_append]
  rfl
theorem octs_sh8 (c : Sc) : [] ++ octs (many Wd.ns c.ro) ++ octs (many Wd.ns c.sl) ++ octs (many Cel.ns c.ce) ++ octs (many one c.fr) ++ oct8 c.ep ++ octs (many one c.ma) ++ octs (many one c.co) = octs c.sh := by
  rw [octs_sh, List.nil_append]
set_option maxRecDepth 100000 in
set_option maxHeartbeats 4000000 in
theorem rthread_any (t : Tc) (w : World) (hr : Reads w t.x t.z t.l t.s) (ht : TOk t) : Calls Try.prog 9 #[.agg t.x.cs.toArray] w (Outs (octs t.ns) w) := by
  obtain ⟨x, z, l, s⟩ := t
  have OT := Lib.hid (octs_thr8 ⟨x, z, l, s⟩ hr.bg.len)
  have L1 := Lib.hid hr.se.len
  have HL := Lib.hid hr.bg.len
  have L3 := Lib.hid hr.sn.len
  have HN := Lib.hid ht
  have mx := Sees.most hr.bg
  have rm := Sees.room hr.bg
  unfold maxLen at mx
  have o := outs_new w
  obtain ⟨p1, f1⟩ : ∃ p, w.heap.size = p := ⟨_, rfl⟩
  obtain ⟨W1, ea1⟩ : ∃ W, w.alloc (.cells x.cs.toArray 41) = W := ⟨_, rfl⟩
  have k1 : Below w.heap.size w W1 := by rw [← ea1]; exact (Below.refl _ w).alloc (Nat.le_refl _) _
  have b1 : Blk W1 p1 41 x.cs.toArray := by rw [← ea1]; exact blk_new w _ 41 _ f1
  replace o := o.on k1
  have kk := k1
  clear k1
  replace hr := hr.on kk
  have c_0 : W1.cell? ⟨p1, 0, none⟩ = some (.int .i64 x.pc) := b1.cell 0
  go_enter Try.func9, Try.ntmps9
  go_wp2_with fail
  refine (rsmall_any _ _ _ _ x.pc W1 o (by obtain ⟨h1, h2, h3⟩ := HN.out; have h4 := L1.out; have h5 := HL.out; have h6 := L3.out; simp only at h1 h2 h3 h4 h5 h6; (try simp only [List.length_append, oct8_len, octs_len, many_len, List.length_take, Th.wlen, Wd.nlen, Bg.nlen, flat_int, flat_wd, flat_bg, Th.wnum, List.length_cons, List.length_nil]); omega)).mono ?_
  rintro e W2 ⟨A2, n2, c2, rfl, o2, k2⟩
  clear c_0
  clear o
  replace b1 := b1.on k2
  replace hr := hr.on k2
  replace kk := kk.trans (k2.mono kk.size)
  clear k2
  have o := o2
  clear o2
  have c_1 : W2.cell? ⟨p1, 1, none⟩ = some (.int .i64 x.fu) := b1.cell 1
  go_wp2_with fail
  refine (rsmall_any _ _ _ _ x.fu W2 o (by obtain ⟨h1, h2, h3⟩ := HN.out; have h4 := L1.out; have h5 := HL.out; have h6 := L3.out; simp only at h1 h2 h3 h4 h5 h6; (try simp only [List.length_append, oct8_len, octs_len, many_len, List.length_take, Th.wlen, Wd.nlen, Bg.nlen, flat_int, flat_wd, flat_bg, Th.wnum, List.length_cons, List.length_nil]); omega)).mono ?_
  rintro e W3 ⟨A3, n3, c3, rfl, o3, k3⟩
  clear c_1
  clear o
  replace b1 := b1.on k3
  replace hr := hr.on k3
  replace kk := kk.trans (k3.mono kk.size)
  clear k3
  have o := o3
  clear o3
  have c_2 : W3.cell? ⟨p1, 2, none⟩ = some (.int .i64 x.st) := b1.cell 2
  go_wp2_with fail
  refine (rsmall_any _ _ _ _ x.st W3 o (by obtain ⟨h1, h2, h3⟩ := HN.out; have h4 := L1.out; have h5 := HL.out; have h6 := L3.out; simp only at h1 h2 h3 h4 h5 h6; (try simp only [List.length_append, oct8_len, octs_len, many_len, List.length_take, Th.wlen, Wd.nlen, Bg.nlen, flat_int, flat_wd, flat_bg, Th.wnum, List.length_cons, List.length_nil]); omega)).mono ?_
  rintro e W4 ⟨A4, n4, c4, rfl, o4, k4⟩
  clear c_2
  clear o
  replace b1 := b1.on k4
  replace hr := hr.on k4
  replace kk := kk.trans (k4.mono kk.size)
  clear k4
  have o := o4
  clear o4
  go_wp2
  go_loopw [3, 4] (fun v i wr => ∃ (k : Nat) (A1 : Option Addr) (n1 c1 : Nat), k ≤ 4 ∧ i = .int .i64 k ∧ v = .slice A1 n1 c1 ∧ Oct wr wr.heap.size A1 n1 c1 ([] ++ oct8 x.pc ++ oct8 x.fu ++ oct8 x.st ++ octs ((x.ws.take k).flatMap Wd.ns)) ∧ Below W4.heap.size W4 wr) (fun _ i _ => 4 - (intOf i).toNat)
  case atStart => exact ⟨0, _, _, _, Nat.zero_le _, rfl, rfl, by rw [List.take_zero, List.flatMap_nil, octs_nil, List.append_nil]; exact o, Below.refl _ _⟩
  case round =>
    clear o
    obtain ⟨k, A1, n1, c1, hk, rfl, rfl, o, kr⟩ := hrel
    replace b1 := b1.on kr
    replace hr := hr.on kr
    replace kk := kk.trans (kr.mono kk.size)
    by_cases hlt : k < 4
    · have c0 := reg_range b1 hlt
      have HW := Lib.hid (Th.wnum x)
      have HT := Lib.hid (take_get x.ws noW (by rw [HW.out]; exact hlt))
      have HF := Lib.hid (flat_take (f := Wd.ns) (K := 3) (l := x.ws) (fun x _ => by exact Nat.le_refl _) k)
      generalize x.ws.getD k noW = y at c0 HT
      have hkI : (k : Int) < (4 : Int) := by omega
      have hk0 : (0 : Int) ≤ (k : Int) := by omega
      have kw : Below wr.heap.size wr wr := Below.refl _ _
      go_wp2_with (((with_reducible refine at_load 35 (.tmp 25) ?_); refine wpList_mid (by rfl) 35 (.tmp 25) rfl p1 (3 + k * 3) rfl y.cs _ c0 Try.underlying35 rfl size35 ?_))
      refine (rword_any _ _ _ _ y wr o (by have h7 := HF.out; obtain ⟨h1, h2, h3⟩ := HN.out; have h4 := L1.out; have h5 := HL.out; have h6 := L3.out; simp only at h1 h2 h3 h4 h5 h6; (try simp only [List.length_append, oct8_len, octs_len, many_len, List.length_take, Th.wlen, Wd.nlen, Bg.nlen, flat_int, flat_wd, flat_bg, Th.wnum, List.length_cons, List.length_nil]); omega)).mono ?_
      rintro e W25 ⟨A25, n25, c25, rfl, o25, k25⟩
      clear o
      replace b1 := b1.on k25
      replace hr := hr.on k25
      replace kk := kk.trans (k25.mono kk.size)
      replace kw := kw.trans (k25.mono kw.size)
      clear k25
      have o := o25
      clear o25
      go_wp2
      go_roundw
      case rel => exact ⟨k + 1, _, _, _, by omega, by go_num, rfl, by rw [HT.out, ← octs_flat]; exact (by simpa [Wd.ns, Bg.ns, Ent.ns, Cel.ns, one, octs, List.append_assoc] using o), kr.trans (kw.mono kr.size)⟩
      case measure => simp [intOf]; omega
    · have hkI : ¬ (k : Int) < (4 : Int) := by omega
      rw [take_all (Th.wnum x) hlt] at o
      have c_15 : wr.cell? ⟨p1, 15, none⟩ = some (.int .i64 x.k) := b1.cell 15
      go_wp2_with fail
      refine (rsmall_any _ _ _ _ x.k wr o (by obtain ⟨h1, h2, h3⟩ := HN.out; have h4 := L1.out; have h5 := HL.out; have h6 := L3.out; simp only at h1 h2 h3 h4 h5 h6; (try simp only [List.length_append, oct8_len, octs_len, many_len, List.length_take, Th.wlen, Wd.nlen, Bg.nlen, flat_int, flat_wd, flat_bg, Th.wnum, List.length_cons, List.length_nil]); omega)).mono ?_
      rintro e W65 ⟨A65, n65, c65, rfl, o65, k65⟩
      clear c_15
      clear o
      replace b1 := b1.on k65
      replace hr := hr.on k65
      replace kk := kk.trans (k65.mono kk.size)
      clear k65
      have o := o65
      clear o65
      have c_16 : W65.cell? ⟨p1, 16, none⟩ = some (.int .i64 x.i) := b1.cell 16
      go_wp2_with fail
      refine (rsmall_any _ _ _ _ x.i W65 o (by obtain ⟨h1, h2, h3⟩ := HN.out; have h4 := L1.out; have h5 := HL.out; have h6 := L3.out; simp only at h1 h2 h3 h4 h5 h6; (try simp only [List.length_append, oct8_len, octs_len, many_len, List.length_take, Th.wlen, Wd.nlen, Bg.nlen, flat_int, flat_wd, flat_bg, Th.wnum, List.length_cons, List.length_nil]); omega)).mono ?_
      rintro e W66 ⟨A66, n66, c66, rfl, o66, k66⟩
      clear c_16
      clear o
      replace b1 := b1.on k66
      replace hr := hr.on k66
      replace kk := kk.trans (k66.mono kk.size)
      clear k66
      have o := o66
      clear o66
      have c_17 : W66.cell? ⟨p1, 17, none⟩ = some (.int .i64 x.n) := b1.cell 17
      go_wp2_with fail
      refine (rnum_any _ _ _ _ x.n W66 o (by obtain ⟨h1, h2, h3⟩ := HN.out; have h4 := L1.out; have h5 := HL.out; have h6 := L3.out; simp only at h1 h2 h3 h4 h5 h6; (try simp only [List.length_append, oct8_len, octs_len, many_len, List.length_take, Th.wlen, Wd.nlen, Bg.nlen, flat_int, flat_wd, flat_bg, Th.wnum, List.length_cons, List.length_nil]); omega)).mono ?_
      rintro e W67 ⟨A67, n67, c67, rfl, o67, k67⟩
      clear c_17
      clear o
      replace b1 := b1.on k67
      replace hr := hr.on k67
      replace kk := kk.trans (k67.mono kk.size)
      clear k67
      have o := o67
      clear o67
      have c_18 : W67.cell? ⟨p1, 18, none⟩ = some (.slice x.se.A x.se.n x.se.cap) := b1.cell 18
      go_wp2_with fail
      refine (rnums_any _ z _ _ _ x.se.A x.se.n x.se.cap W67 o hr.se (by obtain ⟨h1, h2, h3⟩ := HN.out; have h4 := L1.out; have h5 := HL.out; have h6 := L3.out; simp only at h1 h2 h3 h4 h5 h6; (try simp only [List.length_append, oct8_len, octs_len, many_len, List.length_take, Th.wlen, Wd.nlen, Bg.nlen, flat_int, flat_wd, flat_bg, Th.wnum, List.length_cons, List.length_nil]); omega)).mono ?_
      rintro e W68 ⟨A68, n68, c68, rfl, o68, k68⟩
      clear c_18
      clear o
      replace b1 := b1.on k68
      replace hr := hr.on k68
      replace kk := kk.trans (k68.mono kk.size)
      clear k68
      have o := o68
      clear o68
      have c_19 : W68.cell? ⟨p1, 19, none⟩ = some (.slice x.bg.A x.bg.n x.bg.cap) := b1.cell 19
      go_wp2_with fail
      refine (rsmall_any _ _ _ _ (x.bg.n : Int) W68 o (by obtain ⟨h1, h2, h3⟩ := HN.out; have h4 := L1.out; have h5 := HL.out; have h6 := L3.out; simp only at h1 h2 h3 h4 h5 h6; (try simp only [List.length_append, oct8_len, octs_len, many_len, List.length_take, Th.wlen, Wd.nlen, Bg.nlen, flat_int, flat_wd, flat_bg, Th.wnum, List.length_cons, List.length_nil]); omega)).mono ?_
      rintro e W69 ⟨A69, n69, c69, rfl, o69, k69⟩
      clear c_19
      clear o
      replace b1 := b1.on k69
      replace hr := hr.on k69
      replace kk := kk.trans (k69.mono kk.size)
      clear k69
      have o := o69
      clear o69
      have c_19 : W69.cell? ⟨p1, 19, none⟩ = some (.slice x.bg.A x.bg.n x.bg.cap) := b1.cell 19
      go_wp2
      go_loopw [3, 5] (fun v i wr => ∃ (k : Nat) (A1 : Option Addr) (n1 c1 : Nat), k ≤ x.bg.n ∧ i = .int .i64 k ∧ v = .slice A1 n1 c1 ∧ Oct wr wr.heap.size A1 n1 c1 ([] ++ oct8 x.pc ++ oct8 x.fu ++ oct8 x.st ++ octs (x.ws.flatMap Wd.ns) ++ oct8 x.k ++ oct8 x.i ++ oct8 x.n ++ octs (many one z) ++ oct8 (x.bg.n : Int) ++ octs ((l.take k).flatMap Bg.ns)) ∧ Below W69.heap.size W69 wr) (fun _ i _ => x.bg.n - (intOf i).toNat)
      case atStart => exact ⟨0, _, _, _, Nat.zero_le _, rfl, rfl, by rw [List.take_zero, List.flatMap_nil, octs_nil, List.append_nil]; exact o, Below.refl _ _⟩
      case round =>
        clear c_19
        clear o
        obtain ⟨k, A1, n1, c1, hk, rfl, rfl, o, kr⟩ := hrel
        replace b1 := b1.on kr
        replace hr := hr.on kr
        replace kk := kk.trans (kr.mono kk.size)
        by_cases hlt : k < x.bg.n
        · obtain ⟨g, oo, eA, c0⟩ := hr.bg.get hlt
          have EA := Lib.hid eA
          clear eA
          have HT := Lib.hid (take_get l noB (by rw [HL.out]; exact hlt))
          have HF := Lib.hid (flat_take (f := Bg.ns) (K := 3) (l := l) (fun x _ => by exact Nat.le_refl _) k)
          generalize l.getD k noB = y at c0 HT
          have hkI : (k : Int) < (x.bg.n : Int) := by omega
          have hk0 : (0 : Int) ≤ (k : Int) := by omega
          have kw : Below wr.heap.size wr wr := Below.refl _ _
          have c_19 : wr.cell? ⟨p1, 19, none⟩ = some (.slice (some ⟨g, oo, none⟩) x.bg.n x.bg.cap) := by rw [← EA.out]; exact b1.cell 19
          have e0 : wr.cell? ⟨g, oo + k * 3, none⟩ = some (.int .i64 y.c) := c0 0 _ rfl
          go_wp2_with fail
          refine (rsmall_any _ _ _ _ y.c wr o (by have h7 := HF.out; obtain ⟨h1, h2, h3⟩ := HN.out; have h4 := L1.out; have h5 := HL.out; have h6 := L3.out; simp only at h1 h2 h3 h4 h5 h6; (try simp only [List.length_append, oct8_len, octs_len, many_len, List.length_take, Th.wlen, Wd.nlen, Bg.nlen, flat_int, flat_wd, flat_bg, Th.wnum, List.length_cons, List.length_nil]); omega)).mono ?_
          rintro e W90 ⟨A90, n90, c90, rfl, o90, k90⟩
          clear c_19 e0
          clear o
          replace b1 := b1.on k90
          replace c0 := range_on c0 k90
          replace hr := hr.on k90
          replace kk := kk.trans (k90.mono kk.size)
          replace kw := kw.trans (k90.mono kw.size)
          clear k90
          have o := o90
          clear o90
          have c_19 : W90.cell? ⟨p1, 19, none⟩ = some (.slice (some ⟨g, oo, none⟩) x.bg.n x.bg.cap) := by rw [← EA.out]; exact b1.cell 19
          have e1 : W90.cell? ⟨g, oo + k * 3 + 1, none⟩ = some (.int .i64 y.g) := c0 1 _ rfl
          go_wp2_with fail
          refine (rsmall_any _ _ _ _ y.g W90 o (by have h7 := HF.out; obtain ⟨h1, h2, h3⟩ := HN.out; have h4 := L1.out; have h5 := HL.out; have h6 := L3.out; simp only at h1 h2 h3 h4 h5 h6; (try simp only [List.length_append, oct8_len, octs_len, many_len, List.length_take, Th.wlen, Wd.nlen, Bg.nlen, flat_int, flat_wd, flat_bg, Th.wnum, List.length_cons, List.length_nil]); omega)).mono ?_
          rintro e W91 ⟨A91, n91, c91, rfl, o91, k91⟩
          clear c_19 e1
          clear o
          replace b1 := b1.on k91
          replace c0 := range_on c0 k91
          replace hr := hr.on k91
          replace kk := kk.trans (k91.mono kk.size)
          replace kw := kw.trans (k91.mono kw.size)
          clear k91
          have o := o91
          clear o91
          have c_19 : W91.cell? ⟨p1, 19, none⟩ = some (.slice (some ⟨g, oo, none⟩) x.bg.n x.bg.cap) := by rw [← EA.out]; exact b1.cell 19
          have e2 : W91.cell? ⟨g, oo + k * 3 + 2, none⟩ = some (.int .i64 y.n) := c0 2 _ rfl
          go_wp2_with fail
          refine (rnum_any _ _ _ _ y.n W91 o (by have h7 := HF.out; obtain ⟨h1, h2, h3⟩ := HN.out; have h4 := L1.out; have h5 := HL.out; have h6 := L3.out; simp only at h1 h2 h3 h4 h5 h6; (try simp only [List.length_append, oct8_len, octs_len, many_len, List.length_take, Th.wlen, Wd.nlen, Bg.nlen, flat_int, flat_wd, flat_bg, Th.wnum, List.length_cons, List.length_nil]); omega)).mono ?_
          rintro e W92 ⟨A92, n92, c92, rfl, o92, k92⟩
          clear c_19 e2
          clear o
          replace b1 := b1.on k92
          replace c0 := range_on c0 k92
          replace hr := hr.on k92
          replace kk := kk.trans (k92.mono kk.size)
          replace kw := kw.trans (k92.mono kw.size)
          clear k92
          have o := o92
          clear o92
          have c_19 : W92.cell? ⟨p1, 19, none⟩ = some (.slice x.bg.A x.bg.n x.bg.cap) := b1.cell 19
          go_wp2
          go_roundw
          case rel => exact ⟨k + 1, _, _, _, by omega, by go_num, rfl, by rw [HT.out, ← octs_flat]; exact (by simpa [Wd.ns, Bg.ns, Ent.ns, Cel.ns, one, octs, List.append_assoc] using o), kr.trans (kw.mono kr.size)⟩
          case measure => simp [intOf]; omega
        · have hkI : ¬ (k : Int) < (x.bg.n : Int) := by omega
          rw [take_all HL.out hlt] at o
          have c_19 : wr.cell? ⟨p1, 19, none⟩ = some (.slice x.bg.A x.bg.n x.bg.cap) := b1.cell 19
          rw [octs_many8 _ _ HL.out] at o
          have c_20 : wr.cell? ⟨p1, 20, none⟩ = some (.slice x.sn.A x.sn.n x.sn.cap) := b1.cell 20
          go_wp2_with fail
          refine (rnums_any _ s _ _ _ x.sn.A x.sn.n x.sn.cap wr o hr.sn (by obtain ⟨h1, h2, h3⟩ := HN.out; have h4 := L1.out; have h5 := HL.out; have h6 := L3.out; simp only at h1 h2 h3 h4 h5 h6; (try simp only [List.length_append, oct8_len, octs_len, many_len, List.length_take, Th.wlen, Wd.nlen, Bg.nlen, flat_int, flat_wd, flat_bg, Th.wnum, List.length_cons, List.length_nil]); omega)).mono ?_
          rintro e W130 ⟨A130, n130, c130, rfl, o130, k130⟩
          clear c_20
          clear o
          replace b1 := b1.on k130
          replace hr := hr.on k130
          replace kk := kk.trans (k130.mono kk.size)
          clear k130
          have o := o130
          clear o130
          have c_21 : W130.cell? ⟨p1, 21, none⟩ = some (.int .i64 x.old) := b1.cell 21
          go_wp2_with fail
          refine (rsmall_any _ _ _ _ x.old W130 o (by obtain ⟨h1, h2, h3⟩ := HN.out; have h4 := L1.out; have h5 := HL.out; have h6 := L3.out; simp only at h1 h2 h3 h4 h5 h6; (try simp only [List.length_append, oct8_len, octs_len, many_len, List.length_take, Th.wlen, Wd.nlen, Bg.nlen, flat_int, flat_wd, flat_bg, Th.wnum, List.length_cons, List.length_nil]); omega)).mono ?_
          rintro e W131 ⟨A131, n131, c131, rfl, o131, k131⟩
          clear c_21
          clear o
          replace b1 := b1.on k131
          replace hr := hr.on k131
          replace kk := kk.trans (k131.mono kk.size)
          clear k131
          have o := o131
          clear o131
          go_wp2
          go_ret
          refine ⟨_, _, _, rfl, ?_, kk⟩
          rw [← OT.out]
          exact o
end Go.Proofs.Ytfmkmmmaoiepmaa
