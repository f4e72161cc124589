/- The plain octets of what is shared, of a state. Conditions: lists of at most 1048576. -/
import Derived.Test.YtfmkmmmaoiepmaaRef2
namespace Go.Proofs.Ytfmkmmmaoiepmaa
set_option linter.unusedSimpArgs false
set_option linter.unusedVariables false
open Go.RowKit Go.ChangeShapes Go.WideShapes

set_option maxRecDepth 100000 in
set_option maxHeartbeats 4000000 in
theorem rshared_any (s : St) (c : Sc) (bl : List Bu) (w : World) (hr : Shows w s c) (hf : Fits c bl) : Calls Try.prog 13 #[.agg s.cs.toArray] w (Outs (octs c.sh) w) := by
  have OT := Lib.hid (octs_sh8 c)
  have HL := Lib.hid hr.ce.len
  have HM := Lib.hid hr.fr.len
  have HE := Lib.hid hr.ep
  have HN := Lib.hid (And.intro hf.ro (And.intro hf.sl (And.intro hf.ce (And.intro hf.fr (And.intro hf.ma hf.co)))))
  clear hf
  have mx := Sees.most hr.ce
  have rm := Sees.room hr.ce
  have mx2 := Sees.most hr.fr
  have rm2 := Sees.room hr.fr
  unfold maxLen at mx mx2
  have o := outs_new w
  obtain ⟨p1, f1⟩ : ∃ p, w.heap.size = p := ⟨_, rfl⟩
  obtain ⟨W1, ea1⟩ : ∃ W, w.alloc (.cells s.cs.toArray 29) = W := ⟨_, rfl⟩
  have k1 : Below w.heap.size w W1 := by rw [← ea1]; exact (Below.refl _ w).alloc (Nat.le_refl _) _
  have b1 : Blk W1 p1 29 s.cs.toArray := by rw [← ea1]; exact blk_new w _ 29 _ f1
  replace o := o.on k1
  have kk := k1
  clear k1
  replace hr := hr.on kk
  have c_2 : W1.cell? ⟨p1, 2, none⟩ = some (.slice s.ro.A s.ro.n s.ro.cap) := b1.cell 2
  go_enter Try.func13, Try.ntmps13
  go_wp2_with fail
  refine (rwords_any _ c.ro _ _ _ s.ro.A s.ro.n s.ro.cap W1 o hr.ro (by obtain ⟨h1, h2, h3, h4, h5, h6⟩ := HN.out; have h7 := HL.out; have h8 := HM.out; (try simp only [List.length_append, oct8_len, octs_len, many_len, List.length_take, Wd.nlen, Cel.nlen, flat_int, flat_wd, flat_cel, List.length_cons, List.length_nil]); omega)).mono ?_
  rintro e W2 ⟨A2, n2, c2, rfl, o2, k2⟩
  clear c_2
  clear o
  replace b1 := b1.on k2
  replace hr := hr.on k2
  replace kk := kk.trans (k2.mono kk.size)
  clear k2
  have o := o2
  clear o2
  have c_3 : W2.cell? ⟨p1, 3, none⟩ = some (.slice s.sl.A s.sl.n s.sl.cap) := b1.cell 3
  go_wp2_with fail
  refine (rwords_any _ c.sl _ _ _ s.sl.A s.sl.n s.sl.cap W2 o hr.sl (by obtain ⟨h1, h2, h3, h4, h5, h6⟩ := HN.out; have h7 := HL.out; have h8 := HM.out; (try simp only [List.length_append, oct8_len, octs_len, many_len, List.length_take, Wd.nlen, Cel.nlen, flat_int, flat_wd, flat_cel, List.length_cons, List.length_nil]); omega)).mono ?_
  rintro e W3 ⟨A3, n3, c3, rfl, o3, k3⟩
  clear c_3
  clear o
  replace b1 := b1.on k3
  replace hr := hr.on k3
  replace kk := kk.trans (k3.mono kk.size)
  clear k3
  have o := o3
  clear o3
  have c_4 : W3.cell? ⟨p1, 4, none⟩ = some (.slice s.ce.A s.ce.n s.ce.cap) := b1.cell 4
  go_wp2_with fail
  refine (rsmall_any _ _ _ _ (s.ce.n : Int) W3 o (by obtain ⟨h1, h2, h3, h4, h5, h6⟩ := HN.out; have h7 := HL.out; have h8 := HM.out; (try simp only [List.length_append, oct8_len, octs_len, many_len, List.length_take, Wd.nlen, Cel.nlen, flat_int, flat_wd, flat_cel, List.length_cons, List.length_nil]); omega)).mono ?_
  rintro e W4 ⟨A4, n4, c4, rfl, o4, k4⟩
  clear o
  replace b1 := b1.on k4
  replace hr := hr.on k4
  replace kk := kk.trans (k4.mono kk.size)
  clear k4
  have o := o4
  clear o4
  clear c_4
  have c_4 : W4.cell? ⟨p1, 4, none⟩ = some (.slice s.ce.A s.ce.n s.ce.cap) := b1.cell 4
  go_wp2
  clear c_4
  go_loopw [3, 4, 5] (fun v i _ wr => ∃ (k : Nat) (A1 : Option Addr) (n1 c1 : Nat), k ≤ s.ce.n ∧ i = .int .i64 k ∧ v = .slice A1 n1 c1 ∧ Oct wr wr.heap.size A1 n1 c1 ([] ++ octs (many Wd.ns c.ro) ++ octs (many Wd.ns c.sl) ++ oct8 (s.ce.n : Int) ++ octs ((c.ce.take k).flatMap Cel.ns)) ∧ Below W4.heap.size W4 wr) (fun _ i _ _ => s.ce.n - (intOf i).toNat)
  case atStart => exact ⟨0, _, _, _, Nat.zero_le _, rfl, rfl, by rw [List.take_zero, List.flatMap_nil, octs_nil, List.append_nil]; exact o, Below.refl _ _⟩
  case round =>
    clear o
    obtain ⟨k, A1, n1, c1, hk, rfl, rfl, o, kr⟩ := hrel
    replace b1 := b1.on kr
    replace hr := hr.on kr
    replace kk := kk.trans (kr.mono kk.size)
    by_cases hlt : k < s.ce.n
    · obtain ⟨g, oo, eA, c0⟩ := hr.ce.get hlt
      have EA := Lib.hid eA
      clear eA
      have HT := Lib.hid (take_get c.ce noC (by rw [HL.out]; exact hlt))
      have HF := Lib.hid (flat_take (f := Cel.ns) (K := 10) (l := c.ce) (fun x _ => by exact Nat.le_refl _) k)
      generalize c.ce.getD k noC = y at c0 HT
      have hkI : (k : Int) < (s.ce.n : Int) := by omega
      have hk0 : (0 : Int) ≤ (k : Int) := by omega
      have kw : Below wr.heap.size wr wr := Below.refl _ _
      have c_4 : wr.cell? ⟨p1, 4, none⟩ = some (.slice (some ⟨g, oo, none⟩) s.ce.n s.ce.cap) := by rw [← EA.out]; exact b1.cell 4
      have c_4x := c_4
      obtain ⟨pb, fb⟩ : ∃ p, wr.heap.size = p := ⟨_, rfl⟩
      obtain ⟨w1, e1⟩ : ∃ W, wr.alloc (.cells #[.int .i64 0, .int .i64 0, .int .i64 0, .int .i64 0, .int .i64 0, .int .i64 0, .int .i64 0, .int .i64 0, .int .i64 0, .int .i64 0] 72) = W := ⟨_, rfl⟩
      have k1 : Below wr.heap.size wr w1 := by rw [← e1]; exact (Below.refl _ wr).alloc (Nat.le_refl _) _
      have bz : Blk w1 pb 72 #[.int .i64 0, .int .i64 0, .int .i64 0, .int .i64 0, .int .i64 0, .int .i64 0, .int .i64 0, .int .i64 0, .int .i64 0, .int .i64 0] := by rw [← e1]; exact blk_new wr _ 72 _ fb
      obtain ⟨w2, e2⟩ : ∃ W, w1.setRow pb y.cs.toArray = W := ⟨_, rfl⟩
      have b50 : Blk w2 pb 72 y.cs.toArray := row_named bz e2
      have k99 : Below wr.heap.size wr w2 := k1.trans (row_below e2 (Nat.le_of_eq fb) k1.size)
      replace b1 := b1.on k99
      replace hr := hr.on k99
      replace o := o.on k99
      replace kk := kk.trans (k99.mono kk.size)
      replace kw := kw.trans (k99.mono kw.size)
      clear k99
      have y0 : w2.cell? ⟨pb, 0, none⟩ = some (.int .i64 y.st) := b50.cell 0
      go_wp2_with (first | ((with_reducible refine at_load 72 (.tmp 30) ?_); refine wpList_mid (by rfl) 72 (.tmp 30) rfl g (oo + k * 10) rfl y.cs _ c0 Try.underlying72 rfl size72 ?_) | ((with_reducible refine at_store 72 (.tmp 5) (.tmp 31) ?_); refine wpList_store_row rfl 72 (.tmp 5) (.tmp 31) rfl pb y.cs.toArray rfl rfl 72 #[.int .i64 0, .int .i64 0, .int .i64 0, .int .i64 0, .int .i64 0, .int .i64 0, .int .i64 0, .int .i64 0, .int .i64 0, .int .i64 0] bz (sizeC _) rfl (Cel.onea _) ?_; rw [e2]))
      refine (rsmall_any _ _ _ _ y.st w2 o (by have h9 := HF.out; obtain ⟨h1, h2, h3, h4, h5, h6⟩ := HN.out; have h7 := HL.out; have h8 := HM.out; (try simp only [List.length_append, oct8_len, octs_len, many_len, List.length_take, Wd.nlen, Cel.nlen, flat_int, flat_wd, flat_cel, List.length_cons, List.length_nil]); omega)).mono ?_
      rintro e W125 ⟨A125, n125, c125, rfl, o125, k125⟩
      clear o
      replace b1 := b1.on k125
      replace b50 := b50.on k125
      replace hr := hr.on k125
      replace kk := kk.trans (k125.mono kk.size)
      replace kw := kw.trans (k125.mono kw.size)
      clear k125
      have o := o125
      clear o125
      clear y0 c_4 c_4x
      have y1 : W125.cell? ⟨pb, 1, none⟩ = some (.int .i64 y.gen) := b50.cell 1
      go_wp2_with fail
      refine (rsmall_any _ _ _ _ y.gen W125 o (by have h9 := HF.out; obtain ⟨h1, h2, h3, h4, h5, h6⟩ := HN.out; have h7 := HL.out; have h8 := HM.out; (try simp only [List.length_append, oct8_len, octs_len, many_len, List.length_take, Wd.nlen, Cel.nlen, flat_int, flat_wd, flat_cel, List.length_cons, List.length_nil]); omega)).mono ?_
      rintro e W126 ⟨A126, n126, c126, rfl, o126, k126⟩
      clear o
      replace b1 := b1.on k126
      replace b50 := b50.on k126
      replace hr := hr.on k126
      replace kk := kk.trans (k126.mono kk.size)
      replace kw := kw.trans (k126.mono kw.size)
      clear k126
      have o := o126
      clear o126
      clear y1
      have y2 : W126.cell? ⟨pb, 2, none⟩ = some (.int .i64 y.by_) := b50.cell 2
      go_wp2_with fail
      refine (rsmall_any _ _ _ _ y.by_ W126 o (by have h9 := HF.out; obtain ⟨h1, h2, h3, h4, h5, h6⟩ := HN.out; have h7 := HL.out; have h8 := HM.out; (try simp only [List.length_append, oct8_len, octs_len, many_len, List.length_take, Wd.nlen, Cel.nlen, flat_int, flat_wd, flat_cel, List.length_cons, List.length_nil]); omega)).mono ?_
      rintro e W127 ⟨A127, n127, c127, rfl, o127, k127⟩
      clear o
      replace b1 := b1.on k127
      replace b50 := b50.on k127
      replace hr := hr.on k127
      replace kk := kk.trans (k127.mono kk.size)
      replace kw := kw.trans (k127.mono kw.size)
      clear k127
      have o := o127
      clear o127
      clear y2
      have y3 : W127.cell? ⟨pb, 3, none⟩ = some (.int .i64 y.pc) := b50.cell 3
      go_wp2_with fail
      refine (rsmall_any _ _ _ _ y.pc W127 o (by have h9 := HF.out; obtain ⟨h1, h2, h3, h4, h5, h6⟩ := HN.out; have h7 := HL.out; have h8 := HM.out; (try simp only [List.length_append, oct8_len, octs_len, many_len, List.length_take, Wd.nlen, Cel.nlen, flat_int, flat_wd, flat_cel, List.length_cons, List.length_nil]); omega)).mono ?_
      rintro e W128 ⟨A128, n128, c128, rfl, o128, k128⟩
      clear o
      replace b1 := b1.on k128
      replace b50 := b50.on k128
      replace hr := hr.on k128
      replace kk := kk.trans (k128.mono kk.size)
      replace kw := kw.trans (k128.mono kw.size)
      clear k128
      have o := o128
      clear o128
      clear y3
      have r1 := range_part b50 4 (Wd.cs ⟨y.n0, y.c0, y.g0⟩) rfl
      go_wp2_with (((with_reducible refine at_load 35 (.tmp 50) ?_); refine wpList_mid (by rfl) 35 (.tmp 50) rfl pb (4) rfl (Wd.cs ⟨y.n0, y.c0, y.g0⟩) _ r1 Try.underlying35 rfl size35 ?_))
      refine (rword_any _ _ _ _ ⟨y.n0, y.c0, y.g0⟩ W128 o (by have h9 := HF.out; obtain ⟨h1, h2, h3, h4, h5, h6⟩ := HN.out; have h7 := HL.out; have h8 := HM.out; (try simp only [List.length_append, oct8_len, octs_len, many_len, List.length_take, Wd.nlen, Cel.nlen, flat_int, flat_wd, flat_cel, List.length_cons, List.length_nil]); omega)).mono ?_
      rintro e W129 ⟨A129, n129, c129, rfl, o129, k129⟩
      clear o
      replace b1 := b1.on k129
      replace b50 := b50.on k129
      replace hr := hr.on k129
      replace kk := kk.trans (k129.mono kk.size)
      replace kw := kw.trans (k129.mono kw.size)
      clear k129
      have o := o129
      clear o129
      clear r1
      have r1 := range_part b50 7 (Wd.cs ⟨y.n1, y.c1, y.g1⟩) rfl
      go_wp2_with (((with_reducible refine at_load 35 (.tmp 55) ?_); refine wpList_mid (by rfl) 35 (.tmp 55) rfl pb (7) rfl (Wd.cs ⟨y.n1, y.c1, y.g1⟩) _ r1 Try.underlying35 rfl size35 ?_))
      refine (rword_any _ _ _ _ ⟨y.n1, y.c1, y.g1⟩ W129 o (by have h9 := HF.out; obtain ⟨h1, h2, h3, h4, h5, h6⟩ := HN.out; have h7 := HL.out; have h8 := HM.out; (try simp only [List.length_append, oct8_len, octs_len, many_len, List.length_take, Wd.nlen, Cel.nlen, flat_int, flat_wd, flat_cel, List.length_cons, List.length_nil]); omega)).mono ?_
      rintro e W130 ⟨A130, n130, c130, rfl, o130, k130⟩
      clear o
      replace b1 := b1.on k130
      replace b50 := b50.on k130
      replace hr := hr.on k130
      replace kk := kk.trans (k130.mono kk.size)
      replace kw := kw.trans (k130.mono kw.size)
      clear k130
      have o := o130
      clear o130
      clear r1
      have c_4 : W130.cell? ⟨p1, 4, none⟩ = some (.slice s.ce.A s.ce.n s.ce.cap) := b1.cell 4
      go_wp2
      go_roundw
      case rel => exact ⟨k + 1, _, _, _, by omega, by go_num, rfl, by rw [HT.out, ← octs_flat]; exact (by simpa [Wd.ns, Bg.ns, Ent.ns, Cel.ns, one, octs, List.append_assoc] using o), kr.trans (kw.mono kr.size)⟩
      case measure => simp [intOf]; omega
    · have hkI : ¬ (k : Int) < (s.ce.n : Int) := by omega
      rw [take_all HL.out hlt] at o
      have c_4 : wr.cell? ⟨p1, 4, none⟩ = some (.slice s.ce.A s.ce.n s.ce.cap) := b1.cell 4
      rw [octs_many8 _ _ HL.out] at o
      have c_5 : wr.cell? ⟨p1, 5, none⟩ = some (.slice s.fr.A s.fr.n s.fr.cap) := b1.cell 5
      go_wp2_with fail
      refine (rsmall_any _ _ _ _ (s.fr.n : Int) wr o (by obtain ⟨h1, h2, h3, h4, h5, h6⟩ := HN.out; have h7 := HL.out; have h8 := HM.out; (try simp only [List.length_append, oct8_len, octs_len, many_len, List.length_take, Wd.nlen, Cel.nlen, flat_int, flat_wd, flat_cel, List.length_cons, List.length_nil]); omega)).mono ?_
      rintro e W205 ⟨A205, n205, c205, rfl, o205, k205⟩
      clear o
      replace b1 := b1.on k205
      replace hr := hr.on k205
      replace kk := kk.trans (k205.mono kk.size)
      clear k205
      have o := o205
      clear o205
      clear c_5 c_4
      have c_5 : W205.cell? ⟨p1, 5, none⟩ = some (.slice s.fr.A s.fr.n s.fr.cap) := b1.cell 5
      go_wp2
      clear c_5
      go_loopw [3, 6] (fun v i wr => ∃ (k : Nat) (A1 : Option Addr) (n1 c1 : Nat), k ≤ s.fr.n ∧ i = .int .i64 k ∧ v = .slice A1 n1 c1 ∧ Oct wr wr.heap.size A1 n1 c1 ([] ++ octs (many Wd.ns c.ro) ++ octs (many Wd.ns c.sl) ++ octs (many Cel.ns c.ce) ++ oct8 (s.fr.n : Int) ++ octs ((c.fr.take k).flatMap one)) ∧ Below W205.heap.size W205 wr) (fun _ i _ => s.fr.n - (intOf i).toNat)
      case atStart => exact ⟨0, _, _, _, Nat.zero_le _, rfl, rfl, by rw [List.take_zero, List.flatMap_nil, octs_nil, List.append_nil]; exact o, Below.refl _ _⟩
      case round =>
        clear o
        obtain ⟨k, A1, n1, c1, hk, rfl, rfl, o, kr⟩ := hrel
        replace b1 := b1.on kr
        replace hr := hr.on kr
        replace kk := kk.trans (kr.mono kk.size)
        by_cases hlt : k < s.fr.n
        · obtain ⟨g, oo, eA, c0⟩ := hr.fr.get hlt
          have EA := Lib.hid eA
          clear eA
          have HT := Lib.hid (take_get c.fr 0 (by rw [HM.out]; exact hlt))
          have HF := Lib.hid (flat_take (f := one) (K := 1) (l := c.fr) (fun x _ => by exact Nat.le_refl _) k)
          generalize c.fr.getD k 0 = y at c0 HT
          have hkI : (k : Int) < (s.fr.n : Int) := by omega
          have hk0 : (0 : Int) ≤ (k : Int) := by omega
          have kw : Below wr.heap.size wr wr := Below.refl _ _
          have c_5 : wr.cell? ⟨p1, 5, none⟩ = some (.slice (some ⟨g, oo, none⟩) s.fr.n s.fr.cap) := by rw [← EA.out]; exact b1.cell 5
          go_wp2_with fail
          refine (rsmall_any _ _ _ _ y wr o (by have h9 := HF.out; obtain ⟨h1, h2, h3, h4, h5, h6⟩ := HN.out; have h7 := HL.out; have h8 := HM.out; (try simp only [List.length_append, oct8_len, octs_len, many_len, List.length_take, Wd.nlen, Cel.nlen, flat_int, flat_wd, flat_cel, List.length_cons, List.length_nil]); omega)).mono ?_
          rintro e W226 ⟨A226, n226, c226, rfl, o226, k226⟩
          clear o
          replace b1 := b1.on k226
          replace hr := hr.on k226
          replace kk := kk.trans (k226.mono kk.size)
          replace kw := kw.trans (k226.mono kw.size)
          clear k226
          have o := o226
          clear o226
          clear c_5
          have c_5 : W226.cell? ⟨p1, 5, none⟩ = some (.slice s.fr.A s.fr.n s.fr.cap) := b1.cell 5
          go_wp2
          go_roundw
          case rel => exact ⟨k + 1, _, _, _, by omega, by go_num, rfl, by rw [HT.out, ← octs_flat]; exact (by simpa [Wd.ns, Bg.ns, Ent.ns, Cel.ns, one, octs, List.append_assoc] using o), kr.trans (kw.mono kr.size)⟩
          case measure => simp [intOf]; omega
        · have hkI : ¬ (k : Int) < (s.fr.n : Int) := by omega
          rw [take_all HM.out hlt] at o
          have c_5 : wr.cell? ⟨p1, 5, none⟩ = some (.slice s.fr.A s.fr.n s.fr.cap) := b1.cell 5
          rw [octs_many8 _ _ HM.out] at o
          have c_6 : wr.cell? ⟨p1, 6, none⟩ = some (.int .i64 s.ep) := b1.cell 6
          go_wp2_with fail
          refine (rnum_any _ _ _ _ s.ep wr o (by obtain ⟨h1, h2, h3, h4, h5, h6⟩ := HN.out; have h7 := HL.out; have h8 := HM.out; (try simp only [List.length_append, oct8_len, octs_len, many_len, List.length_take, Wd.nlen, Cel.nlen, flat_int, flat_wd, flat_cel, List.length_cons, List.length_nil]); omega)).mono ?_
          rintro e W406 ⟨A406, n406, c406, rfl, o406, k406⟩
          clear o
          replace b1 := b1.on k406
          replace hr := hr.on k406
          replace kk := kk.trans (k406.mono kk.size)
          clear k406
          have o := o406
          clear o406
          clear c_6 c_5
          have c_7 : W406.cell? ⟨p1, 7, none⟩ = some (.slice s.ma.A s.ma.n s.ma.cap) := b1.cell 7
          go_wp2_with fail
          refine (rnums_any _ c.ma _ _ _ s.ma.A s.ma.n s.ma.cap W406 o hr.ma (by obtain ⟨h1, h2, h3, h4, h5, h6⟩ := HN.out; have h7 := HL.out; have h8 := HM.out; (try simp only [List.length_append, oct8_len, octs_len, many_len, List.length_take, Wd.nlen, Cel.nlen, flat_int, flat_wd, flat_cel, List.length_cons, List.length_nil]); omega)).mono ?_
          rintro e W407 ⟨A407, n407, c407, rfl, o407, k407⟩
          clear c_7
          clear o
          replace b1 := b1.on k407
          replace hr := hr.on k407
          replace kk := kk.trans (k407.mono kk.size)
          clear k407
          have o := o407
          clear o407
          have c_8 : W407.cell? ⟨p1, 8, none⟩ = some (.slice s.co.A s.co.n s.co.cap) := b1.cell 8
          go_wp2_with fail
          refine (rnums_any _ c.co _ _ _ s.co.A s.co.n s.co.cap W407 o hr.co (by obtain ⟨h1, h2, h3, h4, h5, h6⟩ := HN.out; have h7 := HL.out; have h8 := HM.out; (try simp only [List.length_append, oct8_len, octs_len, many_len, List.length_take, Wd.nlen, Cel.nlen, flat_int, flat_wd, flat_cel, List.length_cons, List.length_nil]); omega)).mono ?_
          rintro e W408 ⟨A408, n408, c408, rfl, o408, k408⟩
          clear c_8
          clear o
          replace b1 := b1.on k408
          replace hr := hr.on k408
          replace kk := kk.trans (k408.mono kk.size)
          clear k408
          have o := o408
          clear o408
          go_wp2
          go_ret
          refine ⟨_, _, _, rfl, ?_, kk⟩
          rw [← OT.out, ← HE.out]
          exact o
end Go.Proofs.Ytfmkmmmaoiepmaa
