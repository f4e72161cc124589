/- The plain octets of a number, a word, lists of these, a thread, a buffer. Conditions: at most 900000000000 octets. -/
import Derived.Test.YtfmkmmmaoiepmaaCPut
namespace Go.Proofs.Ytfmkmmmaoiepmaa
set_option linter.unusedSimpArgs false
set_option linter.unusedVariables false
open Go.RowKit Go.ChangeShapes Go.WideShapes

theorem Oct.on {w w' : World} {A : Option Addr} {n cap : Nat} {xs : List Int} (h : Oct w w.heap.size A n cap xs) (hb : Below w.heap.size w w') : Oct w' w'.heap.size A n cap xs := (h.below hb).more hb.size
theorem range_on {w w' : World} {g o : Nat} {vs : List Value} (h : w.rangeAt g o vs) (hb : Below w.heap.size w w') : w'.rangeAt g o vs := fun j v hv => (hb.cell (World.block_lt_of_cell? _ _ (h j v hv))).trans (h j v hv)
theorem reg_range {w : World} {g : Nat} {x : Th} (h : Blk w g 41 x.cs.toArray) {k : Nat} (hk : k < 4) : w.rangeAt g (3 + k * 3) (x.ws.getD k noW).cs := by
  rcases (by omega : k = 0 ∨ k = 1 ∨ k = 2 ∨ k = 3) with rfl | rfl | rfl | rfl
  · exact range_part h 3 _ rfl
  · exact range_part h 6 _ rfl
  · exact range_part h 9 _ rfl
  · exact range_part h 12 _ rfl
theorem outs_new (w : World) : Oct w w.heap.size none 0 0 [] := Oct.nil _ _
set_option maxRecDepth 100000 in
theorem rnum_any (xs : List Int) (A : Option Addr) (n cap : Nat) (m : Int) (w : World) (h : Oct w w.heap.size A n cap xs) (hn : xs.length + 8 ≤ 900000000000) : Calls Try.prog 25 #[.slice A n cap, .int .i64 m] w (Outs (xs ++ oct8 m) w) := by
  have hl := h.len
  have d1 := ref_loop xs A n cap m 8 w h (by omega) (by omega) (by omega)
  clear hl hn
  go_enter Try.func25, Try.ntmps25
  go_wp2_with fail
  refine d1.mono ?_
  rintro e w1 ⟨A1, n1, c1, rfl, o1, k1, _⟩
  go_wp2
  go_ret
  exact ⟨A1, n1, c1, rfl, o1, k1⟩
set_option maxRecDepth 100000 in
theorem rsmall_any (xs : List Int) (A : Option Addr) (n cap : Nat) (m : Int) (w : World) (h : Oct w w.heap.size A n cap xs) (hn : xs.length + 8 ≤ 900000000000) : Calls Try.prog 23 #[.slice A n cap, .int .i64 m] w (Outs (xs ++ oct8 m) w) := by
  have d1 := rnum_any xs A n cap m w h hn
  clear hn
  go_enter Try.func23, Try.ntmps23
  go_wp2_with fail
  refine d1.mono ?_
  rintro e w1 ⟨A1, n1, c1, rfl, o1, k1⟩
  go_wp2
  go_ret
  exact ⟨A1, n1, c1, rfl, o1, k1⟩
set_option maxRecDepth 100000 in
set_option maxHeartbeats 4000000 in
theorem rword_any (xs : List Int) (A : Option Addr) (n cap : Nat) (x : Wd) (w : World) (h : Oct w w.heap.size A n cap xs) (hn : xs.length + 24 ≤ 900000000000) : Calls Try.prog 24 #[.slice A n cap, .agg x.cs.toArray] w (Outs (xs ++ octs x.ns) w) := by
  have HN := Lib.hid hn
  clear hn
  have o := h
  obtain ⟨p1, f1⟩ : ∃ p, w.heap.size = p := ⟨_, rfl⟩
  obtain ⟨W1, ea1⟩ : ∃ W, w.alloc (.cells x.cs.toArray 35) = W := ⟨_, rfl⟩
  have k1 : Below w.heap.size w W1 := by rw [← ea1]; exact (Below.refl _ w).alloc (Nat.le_refl _) _
  have b1 : Blk W1 p1 35 x.cs.toArray := by rw [← ea1]; exact blk_new w _ 35 _ f1
  replace o := o.on k1
  have kk := k1
  clear k1
  have c0 : W1.cell? ⟨p1, 0, none⟩ = some (.int .i64 x.n) := b1.cell 0
  go_enter Try.func24, Try.ntmps24
  go_wp2_with fail
  refine (rnum_any _ _ _ _ x.n W1 o (by have := HN.out; (try simp only [List.length_append, oct8_len, octs_len, many_len, Wd.nlen, Bg.nlen, Ent.nlen, Cel.nlen, Th.wnum, Tc.nlen, Sc.slen, flat_int, flat_wd, flat_bg, flat_ent, flat_cel, List.length_cons, List.length_nil] at this); (try simp only [List.length_append, oct8_len, octs_len, many_len, Wd.nlen, Bg.nlen, Ent.nlen, Cel.nlen, Th.wnum, Tc.nlen, Sc.slen, flat_int, flat_wd, flat_bg, flat_ent, flat_cel, List.length_cons, List.length_nil]); omega)).mono ?_
  rintro e W2 ⟨A2, n2, c2, rfl, o2, k2⟩
  clear c0
  clear o
  replace b1 := b1.on k2
  replace kk := kk.trans (k2.mono kk.size)
  clear k2
  have o := o2
  clear o2
  have c1 : W2.cell? ⟨p1, 1, none⟩ = some (.int .i64 x.c) := b1.cell 1
  go_wp2_with fail
  refine (rsmall_any _ _ _ _ x.c W2 o (by have := HN.out; (try simp only [List.length_append, oct8_len, octs_len, many_len, Wd.nlen, Bg.nlen, Ent.nlen, Cel.nlen, Th.wnum, Tc.nlen, Sc.slen, flat_int, flat_wd, flat_bg, flat_ent, flat_cel, List.length_cons, List.length_nil] at this); (try simp only [List.length_append, oct8_len, octs_len, many_len, Wd.nlen, Bg.nlen, Ent.nlen, Cel.nlen, Th.wnum, Tc.nlen, Sc.slen, flat_int, flat_wd, flat_bg, flat_ent, flat_cel, List.length_cons, List.length_nil]); omega)).mono ?_
  rintro e W3 ⟨A3, n3, c3, rfl, o3, k3⟩
  clear c1
  clear o
  replace b1 := b1.on k3
  replace kk := kk.trans (k3.mono kk.size)
  clear k3
  have o := o3
  clear o3
  have c2 : W3.cell? ⟨p1, 2, none⟩ = some (.int .i64 x.g) := b1.cell 2
  go_wp2_with fail
  refine (rsmall_any _ _ _ _ x.g W3 o (by have := HN.out; (try simp only [List.length_append, oct8_len, octs_len, many_len, Wd.nlen, Bg.nlen, Ent.nlen, Cel.nlen, Th.wnum, Tc.nlen, Sc.slen, flat_int, flat_wd, flat_bg, flat_ent, flat_cel, List.length_cons, List.length_nil] at this); (try simp only [List.length_append, oct8_len, octs_len, many_len, Wd.nlen, Bg.nlen, Ent.nlen, Cel.nlen, Th.wnum, Tc.nlen, Sc.slen, flat_int, flat_wd, flat_bg, flat_ent, flat_cel, List.length_cons, List.length_nil]); omega)).mono ?_
  rintro e W4 ⟨A4, n4, c4, rfl, o4, k4⟩
  clear c2
  clear o
  replace b1 := b1.on k4
  replace kk := kk.trans (k4.mono kk.size)
  clear k4
  have o := o4
  clear o4
  go_wp2
  go_ret
  refine ⟨_, _, _, rfl, ?_, kk⟩
  simpa [Wd.ns, octs, List.append_assoc] using o
theorem octs_many8 {α : Type} (f : α → List Int) (l : List α) {n : Nat} (hl : l.length = n) (xs : List Int) : xs ++ oct8 (n : Int) ++ octs (l.flatMap f) = xs ++ octs (many f l) := by
  rw [← octs_one, octs_many f l hl]
set_option maxRecDepth 100000 in
set_option maxHeartbeats 4000000 in
theorem rnums_any (xs l : List Int) (B : Option Addr) (n cap : Nat) (A : Option Addr) (m cap' : Nat) (w : World) (h : Oct w w.heap.size B n cap xs) (hs : SeesI w A m cap' l) (hn : xs.length + 8 * (many one l).length ≤ 900000000000) : Calls Try.prog 26 #[.slice B n cap, .slice A m cap'] w (Outs (xs ++ octs (many one l)) w) := by
  have HL := Lib.hid hs.len
  have hmx := Sees.most hs
  have hrm := Sees.room hs
  unfold maxLen at hmx
  simp only [many_len, flat_int] at hn
  have HN := Lib.hid hn
  clear hn
  have o := h
  go_enter Try.func26, Try.ntmps26
  go_wp2_with fail
  refine (rsmall_any _ _ _ _ (m : Int) w o (by have := HN.out; have := HL.out; (try simp only [List.length_append, oct8_len, octs_len, many_len, Wd.nlen, Bg.nlen, Ent.nlen, Cel.nlen, Th.wnum, Tc.nlen, Sc.slen, flat_int, flat_wd, flat_bg, flat_ent, flat_cel, List.length_cons, List.length_nil] at this); (try simp only [List.length_append, oct8_len, octs_len, many_len, Wd.nlen, Bg.nlen, Ent.nlen, Cel.nlen, Th.wnum, Tc.nlen, Sc.slen, flat_int, flat_wd, flat_bg, flat_ent, flat_cel, List.length_cons, List.length_nil]); omega)).mono ?_
  rintro e W1 ⟨A1, n1, c1, rfl, o1, k1⟩
  clear o
  replace hs := hs.on k1
  have kk := k1
  clear k1
  have o := o1
  clear o1
  go_wp2
  go_loopw [0, 5] (fun v i wr => ∃ (k : Nat) (A1 : Option Addr) (n1 c1 : Nat), k ≤ m ∧ i = .int .i64 k ∧ v = .slice A1 n1 c1 ∧ Oct wr wr.heap.size A1 n1 c1 (xs ++ oct8 (m : Int) ++ octs ((l.take k).flatMap one)) ∧ Below W1.heap.size W1 wr) (fun _ i _ => m - (intOf i).toNat)
  case atStart => exact ⟨0, _, _, _, Nat.zero_le _, rfl, rfl, by rw [List.take_zero, List.flatMap_nil, octs_nil, List.append_nil]; exact o, Below.refl _ _⟩
  case round =>
    clear o
    obtain ⟨k, A1, n1, c1, hk, rfl, rfl, o, kr⟩ := hrel
    replace hs := hs.on kr
    replace kk := kk.trans (kr.mono kk.size)
    by_cases hlt : k < m
    · obtain ⟨g, oo, rfl, c0⟩ := hs.get hlt
      have HT := Lib.hid (take_get l 0 (by rw [HL.out]; exact hlt))
      have HF := Lib.hid (flat_take (f := one) (K := 1) (l := l) (fun x _ => by first | exact Nat.le_refl _ | exact nsl x) k)
      generalize l.getD k 0 = x at c0 HT
      have hkI : (k : Int) < (m : Int) := by omega
      have hk0 : (0 : Int) ≤ (k : Int) := by omega
      have kw : Below wr.heap.size wr wr := Below.refl _ _
      go_wp2_with fail
      refine (rnum_any _ _ _ _ x wr o (by have := HN.out; have := HF.out; have := HL.out; (try simp only [List.length_append, oct8_len, octs_len, many_len, List.length_take, Wd.nlen, Bg.nlen, Ent.nlen, Cel.nlen, Th.wnum, Tc.nlen, Sc.slen, flat_int, flat_wd, flat_bg, flat_ent, flat_cel, List.length_cons, List.length_nil] at this); (try simp only [List.length_append, oct8_len, octs_len, many_len, List.length_take, Wd.nlen, Bg.nlen, Ent.nlen, Cel.nlen, Th.wnum, Tc.nlen, Sc.slen, flat_int, flat_wd, flat_bg, flat_ent, flat_cel, List.length_cons, List.length_nil]); omega)).mono ?_
      rintro e W22 ⟨A22, n22, c22, rfl, o22, k22⟩
      clear o
      replace hs := hs.on k22
      replace kk := kk.trans (k22.mono kk.size)
      replace kw := kw.trans (k22.mono kw.size)
      clear k22
      have o := o22
      clear o22
      go_wp2
      go_roundw
      case rel => exact ⟨k + 1, _, _, _, by omega, by go_num, rfl, by rw [HT.out, ← octs_flat]; exact (by simpa [Wd.ns, Bg.ns, Ent.ns, Cel.ns, one, octs, List.append_assoc] using o), kr.trans (kw.mono kr.size)⟩
      case measure => simp [intOf]; omega
    · have hkI : ¬ (k : Int) < (m : Int) := by omega
      rw [take_all HL.out hlt] at o
      rw [octs_many8 _ _ HL.out] at o
      go_wp2
      go_ret
      exact ⟨_, _, _, rfl, o, kk⟩
set_option maxRecDepth 100000 in
set_option maxHeartbeats 4000000 in
theorem rwords_any (xs : List Int) (l : List Wd) (B : Option Addr) (n cap : Nat) (A : Option Addr) (m cap' : Nat) (w : World) (h : Oct w w.heap.size B n cap xs) (hs : SeesW w A m cap' l) (hn : xs.length + 8 * (many Wd.ns l).length ≤ 900000000000) : Calls Try.prog 29 #[.slice B n cap, .slice A m cap'] w (Outs (xs ++ octs (many Wd.ns l)) w) := by
  have HL := Lib.hid hs.len
  have hmx := Sees.most hs
  have hrm := Sees.room hs
  unfold maxLen at hmx
  simp only [many_len, flat_wd] at hn
  have HN := Lib.hid hn
  clear hn
  have o := h
  go_enter Try.func29, Try.ntmps29
  go_wp2_with fail
  refine (rsmall_any _ _ _ _ (m : Int) w o (by have := HN.out; have := HL.out; (try simp only [List.length_append, oct8_len, octs_len, many_len, Wd.nlen, Bg.nlen, Ent.nlen, Cel.nlen, Th.wnum, Tc.nlen, Sc.slen, flat_int, flat_wd, flat_bg, flat_ent, flat_cel, List.length_cons, List.length_nil] at this); (try simp only [List.length_append, oct8_len, octs_len, many_len, Wd.nlen, Bg.nlen, Ent.nlen, Cel.nlen, Th.wnum, Tc.nlen, Sc.slen, flat_int, flat_wd, flat_bg, flat_ent, flat_cel, List.length_cons, List.length_nil]); omega)).mono ?_
  rintro e W1 ⟨A1, n1, c1, rfl, o1, k1⟩
  clear o
  replace hs := hs.on k1
  have kk := k1
  clear k1
  have o := o1
  clear o1
  go_wp2
  go_loopw [0, 5] (fun v i wr => ∃ (k : Nat) (A1 : Option Addr) (n1 c1 : Nat), k ≤ m ∧ i = .int .i64 k ∧ v = .slice A1 n1 c1 ∧ Oct wr wr.heap.size A1 n1 c1 (xs ++ oct8 (m : Int) ++ octs ((l.take k).flatMap Wd.ns)) ∧ Below W1.heap.size W1 wr) (fun _ i _ => m - (intOf i).toNat)
  case atStart => exact ⟨0, _, _, _, Nat.zero_le _, rfl, rfl, by rw [List.take_zero, List.flatMap_nil, octs_nil, List.append_nil]; exact o, Below.refl _ _⟩
  case round =>
    clear o
    obtain ⟨k, A1, n1, c1, hk, rfl, rfl, o, kr⟩ := hrel
    replace hs := hs.on kr
    replace kk := kk.trans (kr.mono kk.size)
    by_cases hlt : k < m
    · obtain ⟨g, oo, rfl, c0⟩ := hs.get hlt
      have HT := Lib.hid (take_get l noW (by rw [HL.out]; exact hlt))
      have HF := Lib.hid (flat_take (f := Wd.ns) (K := 3) (l := l) (fun x _ => by first | exact Nat.le_refl _ | exact nsl x) k)
      generalize l.getD k noW = x at c0 HT
      have hkI : (k : Int) < (m : Int) := by omega
      have hk0 : (0 : Int) ≤ (k : Int) := by omega
      have kw : Below wr.heap.size wr wr := Below.refl _ _
      go_wp2_with (((with_reducible refine at_load 35 (.tmp 19) ?_); refine wpList_mid (by rfl) 35 (.tmp 19) rfl g (oo + k * 3) rfl x.cs _ c0 Try.underlying35 rfl size35 ?_))
      refine (rword_any _ _ _ _ x wr o (by have := HN.out; have := HF.out; have := HL.out; (try simp only [List.length_append, oct8_len, octs_len, many_len, List.length_take, Wd.nlen, Bg.nlen, Ent.nlen, Cel.nlen, Th.wnum, Tc.nlen, Sc.slen, flat_int, flat_wd, flat_bg, flat_ent, flat_cel, List.length_cons, List.length_nil] at this); (try simp only [List.length_append, oct8_len, octs_len, many_len, List.length_take, Wd.nlen, Bg.nlen, Ent.nlen, Cel.nlen, Th.wnum, Tc.nlen, Sc.slen, flat_int, flat_wd, flat_bg, flat_ent, flat_cel, List.length_cons, List.length_nil]); omega)).mono ?_
      rintro e W22 ⟨A22, n22, c22, rfl, o22, k22⟩
      clear o
      replace hs := hs.on k22
      replace kk := kk.trans (k22.mono kk.size)
      replace kw := kw.trans (k22.mono kw.size)
      clear k22
      have o := o22
      clear o22
      go_wp2
      go_roundw
      case rel => exact ⟨k + 1, _, _, _, by omega, by go_num, rfl, by rw [HT.out, ← octs_flat]; exact (by simpa [Wd.ns, Bg.ns, Ent.ns, Cel.ns, one, octs, List.append_assoc] using o), kr.trans (kw.mono kr.size)⟩
      case measure => simp [intOf]; omega
    · have hkI : ¬ (k : Int) < (m : Int) := by omega
      rw [take_all HL.out hlt] at o
      rw [octs_many8 _ _ HL.out] at o
      go_wp2
      go_ret
      exact ⟨_, _, _, rfl, o, kk⟩
theorem range_sub {w : World} {g o : Nat} {vs : List Value} (h : w.rangeAt g o vs) (j : Nat) (mid : List Value) (hm : (vs.drop j).take mid.length = mid) : w.rangeAt g (o + j) mid := fun i v hv => by
  have hi := (List.getElem?_eq_some_iff.1 hv).1
  rw [Nat.add_assoc]
  refine h (j + i) v ?_
  rw [← hm, List.getElem?_take_of_lt hi, List.getElem?_drop] at hv
  exact hv
set_option maxRecDepth 100000 in
set_option maxHeartbeats 4000000 in
theorem rbuffer_any (l : List Ent) (A : Option Addr) (m cap' : Nat) (w : World) (hs : SeesE w A m cap' l) (hn : 8 * (many Ent.ns l).length ≤ 900000000000) : Calls Try.prog 11 #[.slice A m cap'] w (Outs (octs (many Ent.ns l)) w) := by
  have HL := Lib.hid hs.len
  have hmx := Sees.most hs
  have hrm := Sees.room hs
  unfold maxLen at hmx
  simp only [many_len, flat_ent] at hn
  have HN := Lib.hid hn
  clear hn
  have o := outs_new w
  go_enter Try.func11, Try.ntmps11
  go_wp2_with fail
  refine (rsmall_any _ _ _ _ (m : Int) w o (by have := HN.out; have := HL.out; (try simp only [List.length_append, oct8_len, octs_len, many_len, Wd.nlen, Bg.nlen, Ent.nlen, Cel.nlen, Th.wnum, Tc.nlen, Sc.slen, flat_int, flat_wd, flat_bg, flat_ent, flat_cel, List.length_cons, List.length_nil] at this); (try simp only [List.length_append, oct8_len, octs_len, many_len, Wd.nlen, Bg.nlen, Ent.nlen, Cel.nlen, Th.wnum, Tc.nlen, Sc.slen, flat_int, flat_wd, flat_bg, flat_ent, flat_cel, List.length_cons, List.length_nil]); omega)).mono ?_
  rintro e W1 ⟨A1, n1, c1, rfl, o1, k1⟩
  clear o
  replace hs := hs.on k1
  have kk := k1
  clear k1
  have o := o1
  clear o1
  go_wp2
  go_loopw [3, 4] (fun v i wr => ∃ (k : Nat) (A1 : Option Addr) (n1 c1 : Nat), k ≤ m ∧ i = .int .i64 k ∧ v = .slice A1 n1 c1 ∧ Oct wr wr.heap.size A1 n1 c1 ([] ++ oct8 (m : Int) ++ octs ((l.take k).flatMap Ent.ns)) ∧ Below W1.heap.size W1 wr) (fun _ i _ => m - (intOf i).toNat)
  case atStart => exact ⟨0, _, _, _, Nat.zero_le _, rfl, rfl, by rw [List.take_zero, List.flatMap_nil, octs_nil, List.append_nil]; exact o, Below.refl _ _⟩
  case round =>
    clear o
    obtain ⟨k, A1, n1, c1, hk, rfl, rfl, o, kr⟩ := hrel
    replace hs := hs.on kr
    replace kk := kk.trans (kr.mono kk.size)
    by_cases hlt : k < m
    · obtain ⟨g, oo, rfl, c0⟩ := hs.get hlt
      have HT := Lib.hid (take_get l noE (by rw [HL.out]; exact hlt))
      have HF := Lib.hid (flat_take (f := Ent.ns) (K := 8) (l := l) (fun x _ => by first | exact Nat.le_refl _ | exact nsl x) k)
      generalize l.getD k noE = x at c0 HT
      have hkI : (k : Int) < (m : Int) := by omega
      have hk0 : (0 : Int) ≤ (k : Int) := by omega
      have kw : Below wr.heap.size wr wr := Below.refl _ _
      have e0 : wr.cell? ⟨g, oo + k * 8, none⟩ = some (.int .i64 x.k) := c0 0 _ rfl
      go_wp2_with fail
      refine (rsmall_any _ _ _ _ x.k wr o (by have := HN.out; have := HF.out; have := HL.out; (try simp only [List.length_append, oct8_len, octs_len, many_len, List.length_take, Wd.nlen, Bg.nlen, Ent.nlen, Cel.nlen, Th.wnum, Tc.nlen, Sc.slen, flat_int, flat_wd, flat_bg, flat_ent, flat_cel, List.length_cons, List.length_nil] at this); (try simp only [List.length_append, oct8_len, octs_len, many_len, List.length_take, Wd.nlen, Bg.nlen, Ent.nlen, Cel.nlen, Th.wnum, Tc.nlen, Sc.slen, flat_int, flat_wd, flat_bg, flat_ent, flat_cel, List.length_cons, List.length_nil]); omega)).mono ?_
      rintro e W22 ⟨A22, n22, c22, rfl, o22, k22⟩
      clear e0
      clear o
      replace c0 := range_on c0 k22
      replace hs := hs.on k22
      replace kk := kk.trans (k22.mono kk.size)
      replace kw := kw.trans (k22.mono kw.size)
      clear k22
      have o := o22
      clear o22
      have e1 : W22.cell? ⟨g, oo + k * 8 + 1, none⟩ = some (.int .i64 x.i) := c0 1 _ rfl
      go_wp2_with fail
      refine (rsmall_any _ _ _ _ x.i W22 o (by have := HN.out; have := HF.out; have := HL.out; (try simp only [List.length_append, oct8_len, octs_len, many_len, List.length_take, Wd.nlen, Bg.nlen, Ent.nlen, Cel.nlen, Th.wnum, Tc.nlen, Sc.slen, flat_int, flat_wd, flat_bg, flat_ent, flat_cel, List.length_cons, List.length_nil] at this); (try simp only [List.length_append, oct8_len, octs_len, many_len, List.length_take, Wd.nlen, Bg.nlen, Ent.nlen, Cel.nlen, Th.wnum, Tc.nlen, Sc.slen, flat_int, flat_wd, flat_bg, flat_ent, flat_cel, List.length_cons, List.length_nil]); omega)).mono ?_
      rintro e W23 ⟨A23, n23, c23, rfl, o23, k23⟩
      clear e1
      clear o
      replace c0 := range_on c0 k23
      replace hs := hs.on k23
      replace kk := kk.trans (k23.mono kk.size)
      replace kw := kw.trans (k23.mono kw.size)
      clear k23
      have o := o23
      clear o23
      have e2 : W23.cell? ⟨g, oo + k * 8 + 2, none⟩ = some (.int .i64 x.j) := c0 2 _ rfl
      go_wp2_with fail
      refine (rsmall_any _ _ _ _ x.j W23 o (by have := HN.out; have := HF.out; have := HL.out; (try simp only [List.length_append, oct8_len, octs_len, many_len, List.length_take, Wd.nlen, Bg.nlen, Ent.nlen, Cel.nlen, Th.wnum, Tc.nlen, Sc.slen, flat_int, flat_wd, flat_bg, flat_ent, flat_cel, List.length_cons, List.length_nil] at this); (try simp only [List.length_append, oct8_len, octs_len, many_len, List.length_take, Wd.nlen, Bg.nlen, Ent.nlen, Cel.nlen, Th.wnum, Tc.nlen, Sc.slen, flat_int, flat_wd, flat_bg, flat_ent, flat_cel, List.length_cons, List.length_nil]); omega)).mono ?_
      rintro e W24 ⟨A24, n24, c24, rfl, o24, k24⟩
      clear e2
      clear o
      replace c0 := range_on c0 k24
      replace hs := hs.on k24
      replace kk := kk.trans (k24.mono kk.size)
      replace kw := kw.trans (k24.mono kw.size)
      clear k24
      have o := o24
      clear o24
      have r3 : W24.rangeAt g (oo + k * 8 + 3) (Wd.cs ⟨x.n, x.c, x.g⟩) := range_sub c0 3 _ rfl
      go_wp2_with (((with_reducible refine at_load 35 (.tmp 43) ?_); refine wpList_mid (by rfl) 35 (.tmp 43) rfl g (oo + k * 8 + 3) rfl (Wd.cs ⟨x.n, x.c, x.g⟩) _ r3 Try.underlying35 rfl size35 ?_))
      refine (rword_any _ _ _ _ ⟨x.n, x.c, x.g⟩ W24 o (by have := HN.out; have := HF.out; have := HL.out; (try simp only [List.length_append, oct8_len, octs_len, many_len, List.length_take, Wd.nlen, Bg.nlen, Ent.nlen, Cel.nlen, Th.wnum, Tc.nlen, Sc.slen, flat_int, flat_wd, flat_bg, flat_ent, flat_cel, List.length_cons, List.length_nil] at this); (try simp only [List.length_append, oct8_len, octs_len, many_len, List.length_take, Wd.nlen, Bg.nlen, Ent.nlen, Cel.nlen, Th.wnum, Tc.nlen, Sc.slen, flat_int, flat_wd, flat_bg, flat_ent, flat_cel, List.length_cons, List.length_nil]); omega)).mono ?_
      rintro e W25 ⟨A25, n25, c25, rfl, o25, k25⟩
      clear o
      replace c0 := range_on c0 k25
      replace hs := hs.on k25
      replace kk := kk.trans (k25.mono kk.size)
      replace kw := kw.trans (k25.mono kw.size)
      clear k25
      have o := o25
      clear o25
      clear r3
      have e6 : W25.cell? ⟨g, oo + k * 8 + 6, none⟩ = some (.int .i64 x.gen) := c0 6 _ rfl
      go_wp2_with fail
      refine (rsmall_any _ _ _ _ x.gen W25 o (by have := HN.out; have := HF.out; have := HL.out; (try simp only [List.length_append, oct8_len, octs_len, many_len, List.length_take, Wd.nlen, Bg.nlen, Ent.nlen, Cel.nlen, Th.wnum, Tc.nlen, Sc.slen, flat_int, flat_wd, flat_bg, flat_ent, flat_cel, List.length_cons, List.length_nil] at this); (try simp only [List.length_append, oct8_len, octs_len, many_len, List.length_take, Wd.nlen, Bg.nlen, Ent.nlen, Cel.nlen, Th.wnum, Tc.nlen, Sc.slen, flat_int, flat_wd, flat_bg, flat_ent, flat_cel, List.length_cons, List.length_nil]); omega)).mono ?_
      rintro e W26 ⟨A26, n26, c26, rfl, o26, k26⟩
      clear e6
      clear o
      replace c0 := range_on c0 k26
      replace hs := hs.on k26
      replace kk := kk.trans (k26.mono kk.size)
      replace kw := kw.trans (k26.mono kw.size)
      clear k26
      have o := o26
      clear o26
      have e7 : W26.cell? ⟨g, oo + k * 8 + 7, none⟩ = some (.int .i64 x.pc) := c0 7 _ rfl
      go_wp2_with fail
      refine (rsmall_any _ _ _ _ x.pc W26 o (by have := HN.out; have := HF.out; have := HL.out; (try simp only [List.length_append, oct8_len, octs_len, many_len, List.length_take, Wd.nlen, Bg.nlen, Ent.nlen, Cel.nlen, Th.wnum, Tc.nlen, Sc.slen, flat_int, flat_wd, flat_bg, flat_ent, flat_cel, List.length_cons, List.length_nil] at this); (try simp only [List.length_append, oct8_len, octs_len, many_len, List.length_take, Wd.nlen, Bg.nlen, Ent.nlen, Cel.nlen, Th.wnum, Tc.nlen, Sc.slen, flat_int, flat_wd, flat_bg, flat_ent, flat_cel, List.length_cons, List.length_nil]); omega)).mono ?_
      rintro e W27 ⟨A27, n27, c27, rfl, o27, k27⟩
      clear e7
      clear o
      replace c0 := range_on c0 k27
      replace hs := hs.on k27
      replace kk := kk.trans (k27.mono kk.size)
      replace kw := kw.trans (k27.mono kw.size)
      clear k27
      have o := o27
      clear o27
      go_wp2
      go_roundw
      case rel => exact ⟨k + 1, _, _, _, by omega, by go_num, rfl, by rw [HT.out, ← octs_flat]; exact (by simpa [Wd.ns, Bg.ns, Ent.ns, Cel.ns, one, octs, List.append_assoc] using o), kr.trans (kw.mono kr.size)⟩
      case measure => simp [intOf]; omega
    · have hkI : ¬ (k : Int) < (m : Int) := by omega
      rw [take_all HL.out hlt] at o
      rw [octs_many8 _ _ HL.out] at o
      go_wp2
      go_ret
      exact ⟨_, _, _, rfl, o, kk⟩
end Go.Proofs.Ytfmkmmmaoiepmaa
