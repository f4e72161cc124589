/- A thread, a buffer, what is shared, written; lists of threads and of buffers. Conditions: lists of at most 1048576. -/
import Derived.Test.YtfmkmmmaoiepmaaLists2
namespace Go.Proofs.Ytfmkmmmaoiepmaa
set_option linter.unusedSimpArgs false
set_option linter.unusedVariables false
open Go.RowKit Go.ChangeShapes Go.WideShapes

theorem flat_int (l : List Int) : (l.flatMap one).length = l.length := by rw [flat_ns (f := one) (k := 1) (fun _ => rfl)]; omega
theorem flat_wd (l : List Wd) : (l.flatMap Wd.ns).length = 3 * l.length := flat_ns (f := Wd.ns) (fun _ => rfl) l
theorem flat_bg (l : List Bg) : (l.flatMap Bg.ns).length = 3 * l.length := flat_ns (f := Bg.ns) (fun _ => rfl) l
theorem flat_ent (l : List Ent) : (l.flatMap Ent.ns).length = 8 * l.length := flat_ns (f := Ent.ns) (fun _ => rfl) l
theorem flat_cel (l : List Cel) : (l.flatMap Cel.ns).length = 10 * l.length := flat_ns (f := Cel.ns) (fun _ => rfl) l
theorem Tc.nlen (t : Tc) : t.ns.length = 22 + t.z.length + 3 * t.l.length + t.s.length := by
  simp only [Tc.ns, Th.key, List.length_append, many_len, flat_int, flat_bg, List.length_cons, List.length_nil]
  omega
theorem Sc.slen (s : Sc) : s.sh.length = 7 + 3 * s.ro.length + 3 * s.sl.length + 10 * s.ce.length + s.fr.length + s.ma.length + s.co.length := by
  simp only [Sc.sh, List.length_append, many_len, flat_int, flat_wd, flat_cel, List.length_cons, List.length_nil]
  omega
def Th.ws (x : Th) : List Wd := [⟨x.a0, x.a1, x.a2⟩, ⟨x.a3, x.a4, x.a5⟩, ⟨x.a6, x.a7, x.a8⟩, ⟨x.a9, x.a10, x.a11⟩]
theorem Th.wnum (x : Th) : x.ws.length = 4 := rfl
theorem octs_thr (t : Tc) (xs : List Int) : xs ++ octs [t.x.pc, t.x.fu, t.x.st] ++ octs (t.x.ws.flatMap Wd.ns) ++ octs [t.x.k, t.x.i] ++ oct8 t.x.n ++ octs (many one t.z) ++ octs (many Bg.ns t.l) ++ octs (many one t.s) ++ octs [t.x.old] = xs ++ octs t.ns := by
  rw [← octs_one t.x.n]
  simp only [List.append_assoc, ← octs_app]
  rfl
/-- What a state's lists that are shared hold. -/
structure Shows (w : World) (s : St) (c : Sc) : Prop where
  ro : SeesW w s.ro.A s.ro.n s.ro.cap c.ro
  sl : SeesW w s.sl.A s.sl.n s.sl.cap c.sl
  ce : SeesC w s.ce.A s.ce.n s.ce.cap c.ce
  fr : SeesI w s.fr.A s.fr.n s.fr.cap c.fr
  ep : s.ep = c.ep
  ma : SeesI w s.ma.A s.ma.n s.ma.cap c.ma
  co : SeesI w s.co.A s.co.n s.co.cap c.co
theorem octs_sh (c : Sc) (xs : List Int) : xs ++ octs (many Wd.ns c.ro) ++ octs (many Wd.ns c.sl) ++ octs (many Cel.ns c.ce) ++ octs (many one c.fr) ++ oct8 c.ep ++ octs (many one c.ma) ++ octs (many one c.co) = xs ++ octs c.sh := by
  rw [← octs_one c.ep]
  simp only [List.append_assoc, ← octs_app]
  rfl
theorem Th.wlen (x : Th) : (x.ws.flatMap Wd.ns).length = 12 := rfl
set_option maxRecDepth 100000 in
set_option maxHeartbeats 4000000 in
theorem thread_any (p : Nat) (xs : List Int) (t : Tc) (w : World) (h : Wri p xs w) (hr : Firm p (fun W => Reads W t.x t.z t.l t.s) w) (hn : xs.length + 8 * t.ns.length ≤ 900000000000) : Calls Try.prog 22 #[.pointer (some ⟨p, 0, none⟩), .agg t.x.cs.toArray] w fun e w' => e = .returned (.tuple #[]) ∧ Wri p (xs ++ octs (t.ns)) w' ∧ Stays p w w' := by
  obtain ⟨x, z, l, s⟩ := t
  have l1 := Lib.hid hr.now.se.len
  have l2 := Lib.hid hr.now.bg.len
  have l3 := Lib.hid hr.now.sn.len
  simp only [Tc.nlen] at hn
  have HN := Lib.hid hn
  clear hn
  have q := h
  have st : Stays p w w := Stays.refl p w
  have HR := hr
  have hmf := hmf
  have OT := Lib.hid (octs_thr ⟨x, z, l, s⟩ xs)
  obtain ⟨p1, f1⟩ : ∃ p, w.heap.size = p := ⟨_, rfl⟩
  obtain ⟨W1, ea1⟩ : ∃ W, w.alloc (.cells #[.pointer (some ⟨p, 0, none⟩)] 74) = W := ⟨_, rfl⟩
  have ka1 : Below w.heap.size w W1 := by rw [← ea1]; exact (Below.refl _ w).alloc (Nat.le_refl _) _
  have b1 : Blk W1 p1 74 #[.pointer (some ⟨p, 0, none⟩)] := by rw [← ea1]; exact blk_new w _ 74 _ f1
  have hq1 : p1 ≠ p := by rw [← f1]; exact Nat.ne_of_gt q.lt
  replace HR := HR.on ka1
  replace q := q.on ka1
  replace st := st.on ka1
  clear ka1
  obtain ⟨p2, f2⟩ : ∃ p, W1.heap.size = p := ⟨_, rfl⟩
  obtain ⟨W2, ea2⟩ : ∃ W, W1.alloc (.cells x.cs.toArray 41) = W := ⟨_, rfl⟩
  have ka2 : Below W1.heap.size W1 W2 := by rw [← ea2]; exact (Below.refl _ W1).alloc (Nat.le_refl _) _
  have b2 : Blk W2 p2 41 x.cs.toArray := by rw [← ea2]; exact blk_new W1 _ 41 _ f2
  have hq2 : p2 ≠ p := by rw [← f2]; exact Nat.ne_of_gt q.lt
  replace b1 := b1.on ka2
  replace HR := HR.on ka2
  replace q := q.on ka2
  replace st := st.on ka2
  clear ka2
  have cb : W2.cell? ⟨p1, 0, none⟩ = some (.pointer (some ⟨p, 0, none⟩)) := b1.cell 0
  have c0 : W2.cell? ⟨p2, 0, none⟩ = some (.int .i64 x.pc) := b2.cell 0
  have c1 : W2.cell? ⟨p2, 1, none⟩ = some (.int .i64 x.fu) := b2.cell 1
  have c2 : W2.cell? ⟨p2, 2, none⟩ = some (.int .i64 x.st) := b2.cell 2
  go_enter Try.func22, Try.ntmps22
  obtain ⟨p3, f3⟩ : ∃ p, W2.heap.size = p := ⟨_, rfl⟩
  obtain ⟨W3, ea3⟩ : ∃ W, W2.alloc (.cells #[.int .i64 x.pc, .int .i64 x.fu, .int .i64 x.st] 3) = W := ⟨_, rfl⟩
  have ka3 : Below W2.heap.size W2 W3 := by rw [← ea3]; exact (Below.refl _ W2).alloc (Nat.le_refl _) _
  have b3 : Blk W3 p3 3 #[.int .i64 x.pc, .int .i64 x.fu, .int .i64 x.st] := by rw [← ea3]; exact blk_new W2 _ 3 _ f3
  have hq3 : p3 ≠ p := by rw [← f3]; exact Nat.ne_of_gt q.lt
  replace b1 := b1.on ka3
  replace b2 := b2.on ka3
  replace HR := HR.on ka3
  replace q := q.on ka3
  replace st := st.on ka3
  clear ka3
  go_wp2_with fail
  refine (numbers_any p _ [x.pc, x.fu, x.st] (some ⟨p3, 0, none⟩) 3 3 W3 q (firm_ints (l := [x.pc, x.fu, x.st]) b3 hq3 (by simp)) (by have := HN.out; have := l1.out; have := l2.out; have := l3.out; (try simp only [List.length_append, oct8_len, octs_len, many_len, Wd.nlen, Bg.nlen, Ent.nlen, Cel.nlen, Th.wnum, Tc.nlen, Th.wlen, Sc.slen, flat_int, flat_wd, flat_bg, flat_ent, flat_cel, List.length_cons, List.length_nil] at this); (try simp only [List.length_append, oct8_len, octs_len, many_len, Wd.nlen, Bg.nlen, Ent.nlen, Cel.nlen, Th.wnum, Tc.nlen, Th.wlen, Sc.slen, flat_int, flat_wd, flat_bg, flat_ent, flat_cel, List.length_cons, List.length_nil]); omega)).mono ?_
  rintro e W4 ⟨rfl, q4, k4⟩
  clear cb c0 c1 c2
  replace b1 := b1.stay k4 (by decide) hq1
  replace b2 := b2.stay k4 (by decide) hq2
  replace b3 := b3.stay k4 (by decide) hq3
  replace HR := HR.stay k4
  replace st := st.trans k4
  replace q := q4
  clear k4 q4
  clear b3 hq3
  go_wp2_with fail
  have hsl := fun W => slc36 p2 3 W
  obtain ⟨wd, ed⟩ : ∃ W, W4.drew = W := ⟨_, rfl⟩
  have hd : Below W4.heap.size W4 wd := by rw [← ed]; exact (Below.refl _ _).drew
  replace b1 := b1.on hd
  replace b2 := b2.on hd
  replace HR := HR.on hd
  replace q := q.on hd
  replace st := st.on hd
  clear hd
  have kS : Stays p wd wd := Stays.refl _ _
  have tS : ∀ W, Stays p wd W → W.cell? ⟨p1, 0, none⟩ = some (.pointer (some ⟨p, 0, none⟩)) := fun W hW => (b1.stay hW (by decide) hq1).cell 0
  refine wp_region_noPanic ?_
  refine wp_region_held_drew (S := (fun W => Stays p wd W)) (by kernel_rfl) (by rw [ed]; exact kS) (fun hHeld => ?_)
  rw [ed] at hHeld ⊢
  refine wpAnyH_take (i := 0) (oi := ⟨some 13, _, _, _, _, _⟩) (v := ?_) rfl (by kernel_rfl) (by kernel_rfl) (by kernel_rfl) (fun _ _ _ h => h) (Or.inl ⟨by rfl, ?_⟩) (by assumption) ?_
  rotate_left 1
  · (intro W hSw; obtain q0 := tS W hSw; go_simp <;> with_reducible rfl)
  try simp only [Act.put, List.setIfInBounds_toArray, List.set_cons_zero, List.set_cons_succ]
  refine wpAnyH_take (i := 1) (oi := ⟨some 14, _, _, _, _, _⟩) (v := ?_) rfl (by kernel_rfl) (by kernel_rfl) (by kernel_rfl) (fun _ _ _ h => h) (Or.inl ⟨by rfl, ?_⟩) (by assumption) ?_
  rotate_left 1
  · (intro W hSw; go_simp <;> with_reducible rfl)
  try simp only [Act.put, List.setIfInBounds_toArray, List.set_cons_zero, List.set_cons_succ]
  refine wpAnyH_take (i := 2) (oi := ⟨some 15, _, _, _, _, _⟩) (v := ?_) rfl (by kernel_rfl) (by kernel_rfl) (by kernel_rfl) (fun _ _ _ h => h) (Or.inl ⟨by rfl, ?_⟩) (by assumption) ?_
  rotate_left 1
  · (intro W hSw; go_simp <;> with_reducible rfl)
  try simp only [Act.put, List.setIfInBounds_toArray, List.set_cons_zero, List.set_cons_succ]
  refine wpAnyH_ready (rs := [3]) (by kernel_rfl) (by simp) ?_
  refine AllReadyH.cons (o := ⟨some 16, _, _, _, _, _⟩) rfl (fun K hK => ?_) AllReadyH.nil
  go_simp
  have FW : Firm p (fun W => SeesW W (some ⟨p2, 3, none⟩) 4 4 x.ws) wd := firm_words b2 (by decide) hq2 rfl rfl (by decide)
  refine (words_any p _ x.ws (some ⟨p2, 3, none⟩) 4 4 wd q FW (by have := HN.out; have := l1.out; have := l2.out; have := l3.out; (try simp only [List.length_append, oct8_len, octs_len, many_len, Wd.nlen, Bg.nlen, Ent.nlen, Cel.nlen, Th.wnum, Tc.nlen, Th.wlen, Sc.slen, flat_int, flat_wd, flat_bg, flat_ent, flat_cel, List.length_cons, List.length_nil] at this); (try simp only [List.length_append, oct8_len, octs_len, many_len, Wd.nlen, Bg.nlen, Ent.nlen, Cel.nlen, Th.wnum, Tc.nlen, Th.wlen, Sc.slen, flat_int, flat_wd, flat_bg, flat_ent, flat_cel, List.length_cons, List.length_nil]); omega)).mono ?_
  rintro e w1 ⟨rfl, q1, k1⟩
  have S1 : Stays p wd w1 := k1
  refine hK.out _ _ S1 (fun h1 => ?_)
  clear hHeld hK K
  try simp only [Act.put, List.setIfInBounds_toArray, List.set_cons_zero, List.set_cons_succ]
  refine wpAnyH_done (by kernel_rfl) ?_ _
  refine NoPanic.normal ?_
  replace st := st.trans k1
  replace b1 := b1.stay k1 (by decide) hq1
  replace b2 := b2.stay k1 (by decide) hq2
  replace HR := HR.stay k1
  replace q := q1
  clear hsl tS kS k1 q1 FW
  have cb : w1.cell? ⟨p1, 0, none⟩ = some (.pointer (some ⟨p, 0, none⟩)) := b1.cell 0
  have c15 : w1.cell? ⟨p2, 15, none⟩ = some (.int .i64 x.k) := b2.cell 15
  have c16 : w1.cell? ⟨p2, 16, none⟩ = some (.int .i64 x.i) := b2.cell 16
  obtain ⟨p4, f4⟩ : ∃ p, w1.heap.size = p := ⟨_, rfl⟩
  obtain ⟨W6, ea6⟩ : ∃ W, w1.alloc (.cells #[.int .i64 x.k, .int .i64 x.i] 3) = W := ⟨_, rfl⟩
  have ka6 : Below w1.heap.size w1 W6 := by rw [← ea6]; exact (Below.refl _ w1).alloc (Nat.le_refl _) _
  have b4 : Blk W6 p4 3 #[.int .i64 x.k, .int .i64 x.i] := by rw [← ea6]; exact blk_new w1 _ 3 _ f4
  have hq4 : p4 ≠ p := by rw [← f4]; exact Nat.ne_of_gt q.lt
  replace b1 := b1.on ka6
  replace b2 := b2.on ka6
  replace HR := HR.on ka6
  replace q := q.on ka6
  replace st := st.on ka6
  clear ka6
  go_wp2_with fail
  refine (numbers_any p _ [x.k, x.i] (some ⟨p4, 0, none⟩) 2 2 W6 q (firm_ints (l := [x.k, x.i]) b4 hq4 (by simp)) (by have := HN.out; have := l1.out; have := l2.out; have := l3.out; (try simp only [List.length_append, oct8_len, octs_len, many_len, Wd.nlen, Bg.nlen, Ent.nlen, Cel.nlen, Th.wnum, Tc.nlen, Th.wlen, Sc.slen, flat_int, flat_wd, flat_bg, flat_ent, flat_cel, List.length_cons, List.length_nil] at this); (try simp only [List.length_append, oct8_len, octs_len, many_len, Wd.nlen, Bg.nlen, Ent.nlen, Cel.nlen, Th.wnum, Tc.nlen, Th.wlen, Sc.slen, flat_int, flat_wd, flat_bg, flat_ent, flat_cel, List.length_cons, List.length_nil]); omega)).mono ?_
  rintro e W7 ⟨rfl, q7, k7⟩
  clear cb c15 c16
  replace b1 := b1.stay k7 (by decide) hq1
  replace b2 := b2.stay k7 (by decide) hq2
  replace b4 := b4.stay k7 (by decide) hq4
  replace HR := HR.stay k7
  replace st := st.trans k7
  replace q := q7
  clear k7 q7
  clear b4 hq4
  have cb : W7.cell? ⟨p1, 0, none⟩ = some (.pointer (some ⟨p, 0, none⟩)) := b1.cell 0
  have c17 : W7.cell? ⟨p2, 17, none⟩ = some (.int .i64 x.n) := b2.cell 17
  go_wp2_with fail
  refine (number_any p _ x.n W7 q (by have := HN.out; have := l1.out; have := l2.out; have := l3.out; (try simp only [List.length_append, oct8_len, octs_len, many_len, Wd.nlen, Bg.nlen, Ent.nlen, Cel.nlen, Th.wnum, Tc.nlen, Th.wlen, Sc.slen, flat_int, flat_wd, flat_bg, flat_ent, flat_cel, List.length_cons, List.length_nil] at this); (try simp only [List.length_append, oct8_len, octs_len, many_len, Wd.nlen, Bg.nlen, Ent.nlen, Cel.nlen, Th.wnum, Tc.nlen, Th.wlen, Sc.slen, flat_int, flat_wd, flat_bg, flat_ent, flat_cel, List.length_cons, List.length_nil]); omega)).mono ?_
  rintro e W8 ⟨rfl, q8, k8⟩
  clear cb c17
  replace b1 := b1.stay k8 (by decide) hq1
  replace b2 := b2.stay k8 (by decide) hq2
  replace HR := HR.stay k8
  replace st := st.trans k8
  replace q := q8
  clear k8 q8
  have cb : W8.cell? ⟨p1, 0, none⟩ = some (.pointer (some ⟨p, 0, none⟩)) := b1.cell 0
  have c18 : W8.cell? ⟨p2, 18, none⟩ = some (.slice x.se.A x.se.n x.se.cap) := b2.cell 18
  go_wp2_with fail
  refine (nums_any p _ z x.se.A x.se.n x.se.cap W8 q (fun W hW => (HR W hW).se) (by have := HN.out; have := l1.out; have := l2.out; have := l3.out; (try simp only [List.length_append, oct8_len, octs_len, many_len, Wd.nlen, Bg.nlen, Ent.nlen, Cel.nlen, Th.wnum, Tc.nlen, Th.wlen, Sc.slen, flat_int, flat_wd, flat_bg, flat_ent, flat_cel, List.length_cons, List.length_nil] at this); (try simp only [List.length_append, oct8_len, octs_len, many_len, Wd.nlen, Bg.nlen, Ent.nlen, Cel.nlen, Th.wnum, Tc.nlen, Th.wlen, Sc.slen, flat_int, flat_wd, flat_bg, flat_ent, flat_cel, List.length_cons, List.length_nil]); omega)).mono ?_
  rintro e W9 ⟨rfl, q9, k9⟩
  clear cb c18
  replace b1 := b1.stay k9 (by decide) hq1
  replace b2 := b2.stay k9 (by decide) hq2
  replace HR := HR.stay k9
  replace st := st.trans k9
  replace q := q9
  clear k9 q9
  have cb : W9.cell? ⟨p1, 0, none⟩ = some (.pointer (some ⟨p, 0, none⟩)) := b1.cell 0
  have c19 : W9.cell? ⟨p2, 19, none⟩ = some (.slice x.bg.A x.bg.n x.bg.cap) := b2.cell 19
  go_wp2_with fail
  refine (bags_any p p1 _ l x.bg.A x.bg.n x.bg.cap W9 q (firm_blk b1 (by decide) hq1) (fun W hW => (HR W hW).bg) (by have := HN.out; have := l1.out; have := l2.out; have := l3.out; (try simp only [List.length_append, oct8_len, octs_len, many_len, Wd.nlen, Bg.nlen, Ent.nlen, Cel.nlen, Th.wnum, Tc.nlen, Th.wlen, Sc.slen, flat_int, flat_wd, flat_bg, flat_ent, flat_cel, List.length_cons, List.length_nil] at this); (try simp only [List.length_append, oct8_len, octs_len, many_len, Wd.nlen, Bg.nlen, Ent.nlen, Cel.nlen, Th.wnum, Tc.nlen, Th.wlen, Sc.slen, flat_int, flat_wd, flat_bg, flat_ent, flat_cel, List.length_cons, List.length_nil]); omega)).mono ?_
  rintro e W10 ⟨rfl, q10, k10⟩
  clear cb c19
  replace b1 := b1.stay k10 (by decide) hq1
  replace b2 := b2.stay k10 (by decide) hq2
  replace HR := HR.stay k10
  replace st := st.trans k10
  replace q := q10
  clear k10 q10
  have cb : W10.cell? ⟨p1, 0, none⟩ = some (.pointer (some ⟨p, 0, none⟩)) := b1.cell 0
  have c20 : W10.cell? ⟨p2, 20, none⟩ = some (.slice x.sn.A x.sn.n x.sn.cap) := b2.cell 20
  go_wp2_with fail
  refine (nums_any p _ s x.sn.A x.sn.n x.sn.cap W10 q (fun W hW => (HR W hW).sn) (by have := HN.out; have := l1.out; have := l2.out; have := l3.out; (try simp only [List.length_append, oct8_len, octs_len, many_len, Wd.nlen, Bg.nlen, Ent.nlen, Cel.nlen, Th.wnum, Tc.nlen, Th.wlen, Sc.slen, flat_int, flat_wd, flat_bg, flat_ent, flat_cel, List.length_cons, List.length_nil] at this); (try simp only [List.length_append, oct8_len, octs_len, many_len, Wd.nlen, Bg.nlen, Ent.nlen, Cel.nlen, Th.wnum, Tc.nlen, Th.wlen, Sc.slen, flat_int, flat_wd, flat_bg, flat_ent, flat_cel, List.length_cons, List.length_nil]); omega)).mono ?_
  rintro e W11 ⟨rfl, q11, k11⟩
  clear cb c20
  replace b1 := b1.stay k11 (by decide) hq1
  replace b2 := b2.stay k11 (by decide) hq2
  replace HR := HR.stay k11
  replace st := st.trans k11
  replace q := q11
  clear k11 q11
  have cb : W11.cell? ⟨p1, 0, none⟩ = some (.pointer (some ⟨p, 0, none⟩)) := b1.cell 0
  have c21 : W11.cell? ⟨p2, 21, none⟩ = some (.int .i64 x.old) := b2.cell 21
  obtain ⟨p5, f5⟩ : ∃ p, W11.heap.size = p := ⟨_, rfl⟩
  obtain ⟨W12, ea12⟩ : ∃ W, W11.alloc (.cells #[.int .i64 x.old] 3) = W := ⟨_, rfl⟩
  have ka12 : Below W11.heap.size W11 W12 := by rw [← ea12]; exact (Below.refl _ W11).alloc (Nat.le_refl _) _
  have b5 : Blk W12 p5 3 #[.int .i64 x.old] := by rw [← ea12]; exact blk_new W11 _ 3 _ f5
  have hq5 : p5 ≠ p := by rw [← f5]; exact Nat.ne_of_gt q.lt
  replace b1 := b1.on ka12
  replace b2 := b2.on ka12
  replace HR := HR.on ka12
  replace q := q.on ka12
  replace st := st.on ka12
  clear ka12
  go_wp2_with fail
  refine (numbers_any p _ [x.old] (some ⟨p5, 0, none⟩) 1 1 W12 q (firm_ints (l := [x.old]) b5 hq5 (by simp)) (by have := HN.out; have := l1.out; have := l2.out; have := l3.out; (try simp only [List.length_append, oct8_len, octs_len, many_len, Wd.nlen, Bg.nlen, Ent.nlen, Cel.nlen, Th.wnum, Tc.nlen, Th.wlen, Sc.slen, flat_int, flat_wd, flat_bg, flat_ent, flat_cel, List.length_cons, List.length_nil] at this); (try simp only [List.length_append, oct8_len, octs_len, many_len, Wd.nlen, Bg.nlen, Ent.nlen, Cel.nlen, Th.wnum, Tc.nlen, Th.wlen, Sc.slen, flat_int, flat_wd, flat_bg, flat_ent, flat_cel, List.length_cons, List.length_nil]); omega)).mono ?_
  rintro e W13 ⟨rfl, q13, k13⟩
  clear cb c21
  replace b1 := b1.stay k13 (by decide) hq1
  replace b2 := b2.stay k13 (by decide) hq2
  replace b5 := b5.stay k13 (by decide) hq5
  replace HR := HR.stay k13
  replace st := st.trans k13
  replace q := q13
  clear k13 q13
  clear b5 hq5
  go_wp2
  go_end0
  exact ⟨rfl, by rw [← OT.out]; exact q, st⟩
set_option maxRecDepth 100000 in
set_option maxHeartbeats 4000000 in
theorem buffer_any (p : Nat) (xs : List Int) (l : List Ent) (A : Option Addr) (n cap : Nat) (w : World) (h : Wri p xs w) (hs : Firm p (fun W => SeesE W A n cap l) w) (hn : xs.length + 8 * (many Ent.ns l).length ≤ 900000000000) : Calls Try.prog 27 #[.pointer (some ⟨p, 0, none⟩), .slice A n cap] w fun e w' => e = .returned (.tuple #[]) ∧ Wri p (xs ++ octs (many Ent.ns l)) w' ∧ Stays p w w' := by
  have l1 := Lib.hid hs.now.len
  simp only [many_len, flat_ent] at hn
  have HN := Lib.hid hn
  clear hn
  have q := h
  have st : Stays p w w := Stays.refl p w
  have HR := hs
  have hmf := hmf
  obtain ⟨p1, f1⟩ : ∃ p, w.heap.size = p := ⟨_, rfl⟩
  obtain ⟨W1, ea1⟩ : ∃ W, w.alloc (.cells #[.pointer (some ⟨p, 0, none⟩)] 74) = W := ⟨_, rfl⟩
  have ka1 : Below w.heap.size w W1 := by rw [← ea1]; exact (Below.refl _ w).alloc (Nat.le_refl _) _
  have b1 : Blk W1 p1 74 #[.pointer (some ⟨p, 0, none⟩)] := by rw [← ea1]; exact blk_new w _ 74 _ f1
  have hq1 : p1 ≠ p := by rw [← f1]; exact Nat.ne_of_gt q.lt
  replace HR := HR.on ka1
  replace q := q.on ka1
  replace st := st.on ka1
  clear ka1
  have cb : W1.cell? ⟨p1, 0, none⟩ = some (.pointer (some ⟨p, 0, none⟩)) := b1.cell 0
  go_enter Try.func27, Try.ntmps27
  go_wp2_with fail
  refine (entries_any p p1 _ l A n cap W1 q (firm_blk b1 (by decide) hq1) HR (by have := HN.out; have := l1.out; (try simp only [List.length_append, oct8_len, octs_len, many_len, Wd.nlen, Bg.nlen, Ent.nlen, Cel.nlen, Th.wnum, Tc.nlen, Sc.slen, flat_int, flat_wd, flat_bg, flat_ent, flat_cel, List.length_cons, List.length_nil] at this); (try simp only [List.length_append, oct8_len, octs_len, many_len, Wd.nlen, Bg.nlen, Ent.nlen, Cel.nlen, Th.wnum, Tc.nlen, Sc.slen, flat_int, flat_wd, flat_bg, flat_ent, flat_cel, List.length_cons, List.length_nil]); omega)).mono ?_
  rintro e W2 ⟨rfl, q2, k2⟩
  clear cb
  replace b1 := b1.stay k2 (by decide) hq1
  replace HR := HR.stay k2
  replace st := st.trans k2
  replace q := q2
  clear k2 q2
  go_wp2
  go_end0
  exact ⟨rfl, q, st⟩
set_option maxRecDepth 100000 in
set_option maxHeartbeats 4000000 in
theorem shared_any (p : Nat) (xs : List Int) (s : St) (c : Sc) (w : World) (h : Wri p xs w) (hr : Firm p (fun W => Shows W s c) w) (hn : xs.length + 8 * c.sh.length ≤ 900000000000) : Calls Try.prog 28 #[.pointer (some ⟨p, 0, none⟩), .agg s.cs.toArray] w fun e w' => e = .returned (.tuple #[]) ∧ Wri p (xs ++ octs (c.sh)) w' ∧ Stays p w w' := by
  have HL := Lib.hid (And.intro hr.now.ro.len (And.intro hr.now.sl.len (And.intro hr.now.ce.len (And.intro hr.now.fr.len (And.intro hr.now.ma.len hr.now.co.len)))))
  rw [Sc.slen] at hn
  have HN := Lib.hid hn
  clear hn
  have hep := Lib.hid hr.now.ep
  have q := h
  have st : Stays p w w := Stays.refl p w
  have HR := hr
  have hmf := hmf
  obtain ⟨p1, f1⟩ : ∃ p, w.heap.size = p := ⟨_, rfl⟩
  obtain ⟨W1, ea1⟩ : ∃ W, w.alloc (.cells #[.pointer (some ⟨p, 0, none⟩)] 74) = W := ⟨_, rfl⟩
  have ka1 : Below w.heap.size w W1 := by rw [← ea1]; exact (Below.refl _ w).alloc (Nat.le_refl _) _
  have b1 : Blk W1 p1 74 #[.pointer (some ⟨p, 0, none⟩)] := by rw [← ea1]; exact blk_new w _ 74 _ f1
  have hq1 : p1 ≠ p := by rw [← f1]; exact Nat.ne_of_gt q.lt
  replace HR := HR.on ka1
  replace q := q.on ka1
  replace st := st.on ka1
  clear ka1
  obtain ⟨p2, f2⟩ : ∃ p, W1.heap.size = p := ⟨_, rfl⟩
  obtain ⟨W2, ea2⟩ : ∃ W, W1.alloc (.cells s.cs.toArray 29) = W := ⟨_, rfl⟩
  have ka2 : Below W1.heap.size W1 W2 := by rw [← ea2]; exact (Below.refl _ W1).alloc (Nat.le_refl _) _
  have b2 : Blk W2 p2 29 s.cs.toArray := by rw [← ea2]; exact blk_new W1 _ 29 _ f2
  have hq2 : p2 ≠ p := by rw [← f2]; exact Nat.ne_of_gt q.lt
  replace b1 := b1.on ka2
  replace HR := HR.on ka2
  replace q := q.on ka2
  replace st := st.on ka2
  clear ka2
  have cb : W2.cell? ⟨p1, 0, none⟩ = some (.pointer (some ⟨p, 0, none⟩)) := b1.cell 0
  have c2 : W2.cell? ⟨p2, 2, none⟩ = some (.slice s.ro.A s.ro.n s.ro.cap) := b2.cell 2
  go_enter Try.func28, Try.ntmps28
  go_wp2_with fail
  refine (lwords_any p _ c.ro s.ro.A s.ro.n s.ro.cap W2 q (fun W hW => (HR W hW).ro) (by have := HN.out; obtain ⟨_, _, _, _, _, _⟩ := HL.out; (try simp only [List.length_append, oct8_len, octs_len, many_len, Wd.nlen, Bg.nlen, Ent.nlen, Cel.nlen, Th.wnum, Tc.nlen, Sc.slen, flat_int, flat_wd, flat_bg, flat_ent, flat_cel, List.length_cons, List.length_nil] at this); (try simp only [List.length_append, oct8_len, octs_len, many_len, Wd.nlen, Bg.nlen, Ent.nlen, Cel.nlen, Th.wnum, Tc.nlen, Sc.slen, flat_int, flat_wd, flat_bg, flat_ent, flat_cel, List.length_cons, List.length_nil]); omega)).mono ?_
  rintro e W3 ⟨rfl, q3, k3⟩
  clear cb c2
  replace b1 := b1.stay k3 (by decide) hq1
  replace b2 := b2.stay k3 (by decide) hq2
  replace HR := HR.stay k3
  replace st := st.trans k3
  replace q := q3
  clear k3 q3
  have cb : W3.cell? ⟨p1, 0, none⟩ = some (.pointer (some ⟨p, 0, none⟩)) := b1.cell 0
  have c3 : W3.cell? ⟨p2, 3, none⟩ = some (.slice s.sl.A s.sl.n s.sl.cap) := b2.cell 3
  go_wp2_with fail
  refine (lwords_any p _ c.sl s.sl.A s.sl.n s.sl.cap W3 q (fun W hW => (HR W hW).sl) (by have := HN.out; obtain ⟨_, _, _, _, _, _⟩ := HL.out; (try simp only [List.length_append, oct8_len, octs_len, many_len, Wd.nlen, Bg.nlen, Ent.nlen, Cel.nlen, Th.wnum, Tc.nlen, Sc.slen, flat_int, flat_wd, flat_bg, flat_ent, flat_cel, List.length_cons, List.length_nil] at this); (try simp only [List.length_append, oct8_len, octs_len, many_len, Wd.nlen, Bg.nlen, Ent.nlen, Cel.nlen, Th.wnum, Tc.nlen, Sc.slen, flat_int, flat_wd, flat_bg, flat_ent, flat_cel, List.length_cons, List.length_nil]); omega)).mono ?_
  rintro e W4 ⟨rfl, q4, k4⟩
  clear cb c3
  replace b1 := b1.stay k4 (by decide) hq1
  replace b2 := b2.stay k4 (by decide) hq2
  replace HR := HR.stay k4
  replace st := st.trans k4
  replace q := q4
  clear k4 q4
  have cb : W4.cell? ⟨p1, 0, none⟩ = some (.pointer (some ⟨p, 0, none⟩)) := b1.cell 0
  have c4 : W4.cell? ⟨p2, 4, none⟩ = some (.slice s.ce.A s.ce.n s.ce.cap) := b2.cell 4
  go_wp2_with fail
  refine (cells_any p p1 _ c.ce s.ce.A s.ce.n s.ce.cap W4 q (firm_blk b1 (by decide) hq1) (fun W hW => (HR W hW).ce) (by have := HN.out; obtain ⟨_, _, _, _, _, _⟩ := HL.out; (try simp only [List.length_append, oct8_len, octs_len, many_len, Wd.nlen, Bg.nlen, Ent.nlen, Cel.nlen, Th.wnum, Tc.nlen, Sc.slen, flat_int, flat_wd, flat_bg, flat_ent, flat_cel, List.length_cons, List.length_nil] at this); (try simp only [List.length_append, oct8_len, octs_len, many_len, Wd.nlen, Bg.nlen, Ent.nlen, Cel.nlen, Th.wnum, Tc.nlen, Sc.slen, flat_int, flat_wd, flat_bg, flat_ent, flat_cel, List.length_cons, List.length_nil]); omega)).mono ?_
  rintro e W5 ⟨rfl, q5, k5⟩
  clear cb c4
  replace b1 := b1.stay k5 (by decide) hq1
  replace b2 := b2.stay k5 (by decide) hq2
  replace HR := HR.stay k5
  replace st := st.trans k5
  replace q := q5
  clear k5 q5
  have cb : W5.cell? ⟨p1, 0, none⟩ = some (.pointer (some ⟨p, 0, none⟩)) := b1.cell 0
  have c5 : W5.cell? ⟨p2, 5, none⟩ = some (.slice s.fr.A s.fr.n s.fr.cap) := b2.cell 5
  go_wp2_with fail
  refine (ints_any p p1 _ c.fr s.fr.A s.fr.n s.fr.cap W5 q (firm_blk b1 (by decide) hq1) (fun W hW => (HR W hW).fr) (by have := HN.out; obtain ⟨_, _, _, _, _, _⟩ := HL.out; (try simp only [List.length_append, oct8_len, octs_len, many_len, Wd.nlen, Bg.nlen, Ent.nlen, Cel.nlen, Th.wnum, Tc.nlen, Sc.slen, flat_int, flat_wd, flat_bg, flat_ent, flat_cel, List.length_cons, List.length_nil] at this); (try simp only [List.length_append, oct8_len, octs_len, many_len, Wd.nlen, Bg.nlen, Ent.nlen, Cel.nlen, Th.wnum, Tc.nlen, Sc.slen, flat_int, flat_wd, flat_bg, flat_ent, flat_cel, List.length_cons, List.length_nil]); omega)).mono ?_
  rintro e W6 ⟨rfl, q6, k6⟩
  clear cb c5
  replace b1 := b1.stay k6 (by decide) hq1
  replace b2 := b2.stay k6 (by decide) hq2
  replace HR := HR.stay k6
  replace st := st.trans k6
  replace q := q6
  clear k6 q6
  have cb : W6.cell? ⟨p1, 0, none⟩ = some (.pointer (some ⟨p, 0, none⟩)) := b1.cell 0
  have c6 : W6.cell? ⟨p2, 6, none⟩ = some (.int .i64 s.ep) := b2.cell 6
  go_wp2_with fail
  refine (number_any p _ s.ep W6 q (by have := HN.out; obtain ⟨_, _, _, _, _, _⟩ := HL.out; (try simp only [List.length_append, oct8_len, octs_len, many_len, Wd.nlen, Bg.nlen, Ent.nlen, Cel.nlen, Th.wnum, Tc.nlen, Sc.slen, flat_int, flat_wd, flat_bg, flat_ent, flat_cel, List.length_cons, List.length_nil] at this); (try simp only [List.length_append, oct8_len, octs_len, many_len, Wd.nlen, Bg.nlen, Ent.nlen, Cel.nlen, Th.wnum, Tc.nlen, Sc.slen, flat_int, flat_wd, flat_bg, flat_ent, flat_cel, List.length_cons, List.length_nil]); omega)).mono ?_
  rintro e W7 ⟨rfl, q7, k7⟩
  clear cb c6
  replace b1 := b1.stay k7 (by decide) hq1
  replace b2 := b2.stay k7 (by decide) hq2
  replace HR := HR.stay k7
  replace st := st.trans k7
  replace q := q7
  clear k7 q7
  have cb : W7.cell? ⟨p1, 0, none⟩ = some (.pointer (some ⟨p, 0, none⟩)) := b1.cell 0
  have c7 : W7.cell? ⟨p2, 7, none⟩ = some (.slice s.ma.A s.ma.n s.ma.cap) := b2.cell 7
  go_wp2_with fail
  refine (nums_any p _ c.ma s.ma.A s.ma.n s.ma.cap W7 q (fun W hW => (HR W hW).ma) (by have := HN.out; obtain ⟨_, _, _, _, _, _⟩ := HL.out; (try simp only [List.length_append, oct8_len, octs_len, many_len, Wd.nlen, Bg.nlen, Ent.nlen, Cel.nlen, Th.wnum, Tc.nlen, Sc.slen, flat_int, flat_wd, flat_bg, flat_ent, flat_cel, List.length_cons, List.length_nil] at this); (try simp only [List.length_append, oct8_len, octs_len, many_len, Wd.nlen, Bg.nlen, Ent.nlen, Cel.nlen, Th.wnum, Tc.nlen, Sc.slen, flat_int, flat_wd, flat_bg, flat_ent, flat_cel, List.length_cons, List.length_nil]); omega)).mono ?_
  rintro e W8 ⟨rfl, q8, k8⟩
  clear cb c7
  replace b1 := b1.stay k8 (by decide) hq1
  replace b2 := b2.stay k8 (by decide) hq2
  replace HR := HR.stay k8
  replace st := st.trans k8
  replace q := q8
  clear k8 q8
  have cb : W8.cell? ⟨p1, 0, none⟩ = some (.pointer (some ⟨p, 0, none⟩)) := b1.cell 0
  have c8 : W8.cell? ⟨p2, 8, none⟩ = some (.slice s.co.A s.co.n s.co.cap) := b2.cell 8
  go_wp2_with fail
  refine (nums_any p _ c.co s.co.A s.co.n s.co.cap W8 q (fun W hW => (HR W hW).co) (by have := HN.out; obtain ⟨_, _, _, _, _, _⟩ := HL.out; (try simp only [List.length_append, oct8_len, octs_len, many_len, Wd.nlen, Bg.nlen, Ent.nlen, Cel.nlen, Th.wnum, Tc.nlen, Sc.slen, flat_int, flat_wd, flat_bg, flat_ent, flat_cel, List.length_cons, List.length_nil] at this); (try simp only [List.length_append, oct8_len, octs_len, many_len, Wd.nlen, Bg.nlen, Ent.nlen, Cel.nlen, Th.wnum, Tc.nlen, Sc.slen, flat_int, flat_wd, flat_bg, flat_ent, flat_cel, List.length_cons, List.length_nil]); omega)).mono ?_
  rintro e W9 ⟨rfl, q9, k9⟩
  clear cb c8
  replace b1 := b1.stay k9 (by decide) hq1
  replace b2 := b2.stay k9 (by decide) hq2
  replace HR := HR.stay k9
  replace st := st.trans k9
  replace q := q9
  clear k9 q9
  go_wp2
  go_end0
  rw [hep.out, octs_sh] at q
  exact ⟨rfl, q, st⟩
end Go.Proofs.Ytfmkmmmaoiepmaa
