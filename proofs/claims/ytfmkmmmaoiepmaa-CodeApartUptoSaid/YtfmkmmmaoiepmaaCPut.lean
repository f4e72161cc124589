/- Lists of threads and of buffers, written; the octets of a thread, of a buffer, of what is shared, of a state, by the program. Conditions: lists of at most 1048576. -/
import Derived.Test.YtfmkmmmaoiepmaaTop
namespace Go.Proofs.Ytfmkmmmaoiepmaa
set_option linter.unusedSimpArgs false
set_option linter.unusedVariables false
open Go.RowKit Go.ChangeShapes Go.WideShapes

def noTc : Tc := ⟨noT, [], [], []⟩
def flatT (l : List Tc) : List Value := l.flatMap fun t => t.x.cs
/-- A list of threads, and what theirs hold. -/
structure SeesT (w : World) (A : Option Addr) (n cap : Nat) (l : List Tc) : Prop where
  sees : Sees w 22 A n cap (flatT l)
  reads : ∀ t ∈ l, Reads w t.x t.z t.l t.s
/-- A buffer: its slice, and its entries. -/
abbrev Bu := Sl × List Ent
def noBu : Bu := (noS, [])
def Bu.ns (b : Bu) : List Int := many Ent.ns b.2
def flatS (l : List Bu) : List Value := l.flatMap fun b => [b.1.v]
structure SeesL (w : World) (A : Option Addr) (n cap : Nat) (l : List Bu) : Prop where
  sees : Sees w 1 A n cap (flatS l)
  reads : ∀ b ∈ l, SeesE w b.1.A b.1.n b.1.cap b.2
section
variable {w w' : World} {A : Option Addr} {n cap : Nat}
theorem SeesT.on {l : List Tc} (h : SeesT w A n cap l) (hb : Below w.heap.size w w') : SeesT w' A n cap l := ⟨h.sees.below hb, fun t ht => (h.reads t ht).on hb⟩
theorem SeesT.len {l : List Tc} (h : SeesT w A n cap l) : l.length = n := sees_len (f := fun t : Tc => t.x.cs) (k := 22) (fun t => Th.len t.x) (by decide) h.sees
theorem SeesT.get {l : List Tc} (h : SeesT w A n cap l) {k : Nat} (hk : k < n) : ∃ g o, A = some ⟨g, o, none⟩ ∧ w.rangeAt g (o + k * 22) (l.getD k noTc).x.cs := by
  have hl := h.len
  have hx : l[k]? = some (l.getD k noTc) := by simp [List.getD, List.getElem?_eq_getElem (show k < l.length by omega)]
  exact sees_at (f := fun t : Tc => t.x.cs) (fun t => Th.len t.x) h.sees hx (by omega)
theorem SeesL.on {l : List Bu} (h : SeesL w A n cap l) (hb : Below w.heap.size w w') : SeesL w' A n cap l := ⟨h.sees.below hb, fun t ht => (h.reads t ht).on hb⟩
theorem SeesL.len {l : List Bu} (h : SeesL w A n cap l) : l.length = n := sees_len (f := fun b : Bu => [b.1.v]) (fun _ => rfl) (by decide) h.sees
theorem SeesL.get {l : List Bu} (h : SeesL w A n cap l) {k : Nat} (hk : k < n) : ∃ g o, A = some ⟨g, o, none⟩ ∧ w.cell? ⟨g, o + k, none⟩ = some (.slice (l.getD k noBu).1.A (l.getD k noBu).1.n (l.getD k noBu).1.cap) := by
  have hl := h.len
  have hx : l[k]? = some (l.getD k noBu) := by simp [List.getD, List.getElem?_eq_getElem (show k < l.length by omega)]
  obtain ⟨g, o, e, hr⟩ := sees_at (f := fun b : Bu => [b.1.v]) (k := 1) (fun _ => rfl) h.sees hx (by omega)
  refine ⟨g, o, e, ?_⟩
  have := hr 0 _ rfl
  rw [Nat.mul_one, Nat.add_zero] at this
  exact this
end
theorem Shows.on {w w' : World} {s : St} {c : Sc} (h : Shows w s c) (hb : Below w.heap.size w w') : Shows w' s c := ⟨h.ro.on hb, h.sl.on hb, h.ce.on hb, h.fr.on hb, h.ep, h.ma.on hb, h.co.on hb⟩
/-- A state, and what its lists hold. -/
structure Stat (w : World) (s : St) (c : Sc) (bl : List Bu) : Prop where
  th : SeesT w s.th.A s.th.n s.th.cap c.th
  bu : SeesL w s.bu.A s.bu.n s.bu.cap bl
  eb : c.bu = bl.map Prod.snd
  sh : Shows w s c
theorem Stat.on {w w' : World} {s : St} {c : Sc} {bl : List Bu} (h : Stat w s c bl) (hb : Below w.heap.size w w') : Stat w' s c bl := ⟨h.th.on hb, h.bu.on hb, h.eb, h.sh.on hb⟩
/-- Lists are not longer than that. -/
def TOk (t : Tc) : Prop := t.z.length ≤ 1048576 ∧ t.l.length ≤ 1048576 ∧ t.s.length ≤ 1048576
structure Fits (c : Sc) (bl : List Bu) : Prop where
  t4 : c.th.length ≤ 4
  t : ∀ t ∈ c.th, TOk t
  b4 : bl.length ≤ 4
  b : ∀ b ∈ bl, b.2.length ≤ 1048576
  ro : c.ro.length ≤ 1048576
  sl : c.sl.length ≤ 1048576
  ce : c.ce.length ≤ 1048576
  fr : c.fr.length ≤ 1048576
  ma : c.ma.length ≤ 1048576
  co : c.co.length ≤ 1048576
theorem TOk.len {t : Tc} (h : TOk t) : t.ns.length ≤ 5242902 := by
  obtain ⟨h1, h2, h3⟩ := h
  rw [Tc.nlen]
  omega
theorem bu_len {b : Bu} (h : b.2.length ≤ 1048576) : b.ns.length ≤ 8388609 := by
  unfold Bu.ns
  rw [many_len, flat_ent]
  omega
theorem Fits.sh {c : Sc} {bl : List Bu} (h : Fits c bl) : c.sh.length ≤ 30000000 := by
  obtain ⟨_, _, _, _, h1, h2, h3, h4, h5, h6⟩ := h
  rw [Sc.slen]
  omega
theorem many_bu {c : Sc} {bl : List Bu} (h : c.bu = bl.map Prod.snd) : many (many Ent.ns) c.bu = many Bu.ns bl := by
  unfold many
  rw [h, List.length_map, List.flatMap_map]
  rfl
theorem octs_put {c : Sc} {bl : List Bu} (h : c.bu = bl.map Prod.snd) : [] ++ octs (many Tc.ns c.th) ++ octs (many Bu.ns bl) ++ octs c.sh = octs c.ns := by
  unfold Sc.ns
  rw [many_bu h]
  simp only [octs_app, List.nil_append, List.append_assoc]
/-- What lies below what is there is firm. -/
theorem firm_of {p : Nat} {w W : World} {P : World → Prop} (hP : ∀ W', Below w.heap.size w W' → P W') (hb : Below w.heap.size w W) (hp : w.heap.size ≤ p) (hw : p ≤ W.heap.size) : Firm p P W := fun W' k => hP W' (hb.trans ((k.below hw).mono hp))
/-- The call ends with a slice that holds ys; what was there is as it was. -/
def Outs (ys : List Int) (w : World) (e : Ending) (w' : World) : Prop := ∃ A n cap, e = .returned (.slice A n cap) ∧ Oct w' w'.heap.size A n cap ys ∧ Below w.heap.size w w'
theorem wri_new {w : World} {p : Nat} (h : Blk w p 55 #[.slice none 0 0]) : Wri p [] w := ⟨none, 0, 0, h, World.ownsRow_nil _ _ _ _, fun g e => (by cases e)⟩
set_option maxRecDepth 100000 in
set_option maxHeartbeats 4000000 in
theorem threads_any (p : Nat) (xs : List Int) (l : List Tc) (A : Option Addr) (n cap : Nat) (w : World) (h : Wri p xs w) (hs : Firm p (fun W => SeesT W A n cap l) w) (nsl : ∀ x ∈ l, (Tc.ns x).length ≤ 5242902) (hn : xs.length + 8 + 41943216 * n ≤ 900000000000) : Calls Try.prog 30 #[.pointer (some ⟨p, 0, none⟩), .slice A n cap, .func (.func 22) #[.pointer (some ⟨p, 0, none⟩)] #[]] w fun e w' => e = .returned (.tuple #[]) ∧ Wri p (xs ++ octs (many Tc.ns l)) w' ∧ Stays p w w' := by
  have hl := (hs.now).len
  have HL := Lib.hid hl
  have hmx := Sees.most hs.now.sees
  have hrm := Sees.room hs.now.sees
  unfold maxLen at hmx
  have HN := Lib.hid hn
  clear hn hl
  have q := h
  have st : Stays p w w := Stays.refl p w
  obtain ⟨p1, f1⟩ : ∃ p, w.heap.size = p := ⟨_, rfl⟩
  obtain ⟨W1, ea1⟩ : ∃ W, w.alloc (.cells #[.int .i64 (n : Int)] 3) = W := ⟨_, rfl⟩
  have ka1 : Below w.heap.size w W1 := by rw [← ea1]; exact (Below.refl _ w).alloc (Nat.le_refl _) _
  have b1 : Blk W1 p1 3 #[.int .i64 (n : Int)] := by rw [← ea1]; exact blk_new w _ 3 _ f1
  have hq1 : p1 ≠ p := by rw [← f1]; exact Nat.ne_of_gt q.lt
  replace q := q.on ka1
  replace st := st.on ka1
  clear ka1
  replace hs := hs.on (show Below w.heap.size w W1 by rw [← ea1]; exact (Below.refl _ _).alloc (Nat.le_refl _) _)
  go_enter Try.func30, Try.ntmps30
  go_wp2_with fail
  refine (numbers_any p _ [(n : Int)] (some ⟨p1, 0, none⟩) 1 1 W1 q (firm_ints (l := [(n : Int)]) b1 hq1 (by simp)) (by have := HN.out; (try simp only [List.length_append, oct8_len, octs_len, many_len, Wd.nlen, Bg.nlen, Ent.nlen, Cel.nlen, List.length_cons, List.length_nil] at this); (try simp only [List.length_append, oct8_len, octs_len, many_len, Wd.nlen, Bg.nlen, Ent.nlen, Cel.nlen, List.length_cons, List.length_nil]); omega)).mono ?_
  rintro e W2 ⟨rfl, q2, k2⟩
  replace b1 := b1.stay k2 (by decide) hq1
  replace hs := hs.stay k2
  replace st := st.trans k2
  replace q := q2
  clear k2 q2
  clear b1 hq1
  go_wp2
  have st0 := st
  replace st : Stays p W2 W2 := Stays.refl _ _
  go_loopw [7, 15] (fun _ i wr => ∃ k : Nat, k ≤ n ∧ i = .int .i64 k ∧ Wri p (xs ++ octs [(n : Int)] ++ octs ((l.take k).flatMap Tc.ns)) wr ∧ Stays p W2 wr) (fun _ i _ => n - (intOf i).toNat)
  case atStart => exact ⟨0, Nat.zero_le _, rfl, by rw [List.take_zero, List.flatMap_nil, octs_nil, List.append_nil]; exact q, st⟩
  case round =>
    clear q st
    obtain ⟨k, hk, rfl, q, st⟩ := hrel
    by_cases hlt : k < n
    · obtain ⟨g, o, rfl, c0⟩ := (hs.stay st).now.get hlt
      have HT := Lib.hid (take_get l noTc (by rw [HL.out]; exact hlt))
      have hx0 := getD_mem (show k < l.length by rw [HL.out]; exact hlt) noTc
      have HX := Lib.hid (nsl _ hx0)
      skip
      have HF := Lib.hid (flat_take nsl k)
      generalize l.getD k noTc = x at c0 HT HX hx0
      have hkI : (k : Int) < (n : Int) := by omega
      have hk0 : (0 : Int) ≤ (k : Int) := by omega
      have HSr := hs.stay st
      obtain ⟨bb, fb⟩ : ∃ p, wr.heap.size = p := ⟨_, rfl⟩
      obtain ⟨w1, e1⟩ : ∃ W, wr.alloc (.cells #[.int .i64 0, .int .i64 0, .int .i64 0, .int .i64 0, .int .i64 0, .int .i64 0, .int .i64 0, .int .i64 0, .int .i64 0, .int .i64 0, .int .i64 0, .int .i64 0, .int .i64 0, .int .i64 0, .int .i64 0, .int .i64 0, .int .i64 0, .int .i64 0, .slice none 0 0, .slice none 0 0, .slice none 0 0, .int .i64 0] 41) = W := ⟨_, rfl⟩
      have k1 : Below wr.heap.size wr w1 := by rw [← e1]; exact (Below.refl _ wr).alloc (Nat.le_refl _) _
      have bz : Blk w1 bb 41 #[.int .i64 0, .int .i64 0, .int .i64 0, .int .i64 0, .int .i64 0, .int .i64 0, .int .i64 0, .int .i64 0, .int .i64 0, .int .i64 0, .int .i64 0, .int .i64 0, .int .i64 0, .int .i64 0, .int .i64 0, .int .i64 0, .int .i64 0, .int .i64 0, .slice none 0 0, .slice none 0 0, .slice none 0 0, .int .i64 0] := by rw [← e1]; exact blk_new wr _ 41 _ fb
      obtain ⟨w2, e2⟩ : ∃ W, w1.setRow bb x.x.cs.toArray = W := ⟨_, rfl⟩
      have bx : Blk w2 bb 41 x.x.cs.toArray := row_named bz e2
      have k2 : Below wr.heap.size wr w2 := k1.trans (row_below e2 (Nat.le_of_eq fb) k1.size)
      replace q := q.on k2
      replace st := st.on k2
      replace HSr := HSr.on k2
      clear k1
      go_wp2_with (first | ((with_reducible refine at_load 41 (.tmp 17) ?_); refine wpList_mid (by rfl) 41 (.tmp 17) rfl g (o + k * 22) rfl x.x.cs _ c0 Try.underlying41 rfl size41 ?_) | ((with_reducible refine at_store 41 (.tmp 7) (.tmp 18) ?_); refine wpList_store_row rfl 41 (.tmp 7) (.tmp 18) rfl bb x.x.cs.toArray rfl rfl 41 #[.int .i64 0, .int .i64 0, .int .i64 0, .int .i64 0, .int .i64 0, .int .i64 0, .int .i64 0, .int .i64 0, .int .i64 0, .int .i64 0, .int .i64 0, .int .i64 0, .int .i64 0, .int .i64 0, .int .i64 0, .int .i64 0, .int .i64 0, .int .i64 0, .slice none 0 0, .slice none 0 0, .slice none 0 0, .int .i64 0] bz (sizeT _) rfl (Th.onea _) ?_; rw [e2]) | ((with_reducible refine at_load 41 (.tmp 7) ?_); refine wpList_load_row rfl 41 (.tmp 7) rfl bb rfl 41 x.x.cs.toArray (0, 0) _ bx Try.underlying41 rfl (sizeT _) ?_))
      refine (show Calls Try.prog 22 #[.pointer (some ⟨p, 0, none⟩), .agg x.x.cs.toArray] w2 _ from (thread_any p _ x w2 q (fun W hW => (HSr W hW).reads x hx0) (by have := HN.out; have := HF.out; have := HX.out; (try simp only [List.length_append, octs_len, List.length_cons, List.length_nil]); omega))).mono ?_
      rintro e w3 ⟨rfl, q3, k3⟩
      go_wp2
      go_roundw
      case rel => exact ⟨k + 1, by omega, by go_num, by rw [HT.out, ← octs_flat]; exact q3, st.trans k3⟩
      case measure => simp [intOf]; omega
    · have hkI : ¬ (k : Int) < (n : Int) := by omega
      go_wp2
      go_end0
      rw [take_all HL.out hlt] at q
      rw [octs_many _ _ HL.out] at q
      exact ⟨rfl, q, st0.trans st⟩
set_option maxRecDepth 100000 in
set_option maxHeartbeats 4000000 in
theorem buffers_any (p : Nat) (xs : List Int) (l : List Bu) (A : Option Addr) (n cap : Nat) (w : World) (h : Wri p xs w) (hs : Firm p (fun W => SeesL W A n cap l) w) (nsl : ∀ x ∈ l, (Bu.ns x).length ≤ 8388609) (hn : xs.length + 8 + 67108872 * n ≤ 900000000000) : Calls Try.prog 31 #[.pointer (some ⟨p, 0, none⟩), .slice A n cap, .func (.func 27) #[.pointer (some ⟨p, 0, none⟩)] #[]] w fun e w' => e = .returned (.tuple #[]) ∧ Wri p (xs ++ octs (many Bu.ns l)) w' ∧ Stays p w w' := by
  have hl := (hs.now).len
  have HL := Lib.hid hl
  have hmx := Sees.most hs.now.sees
  have hrm := Sees.room hs.now.sees
  unfold maxLen at hmx
  have HN := Lib.hid hn
  clear hn hl
  have q := h
  have st : Stays p w w := Stays.refl p w
  obtain ⟨p1, f1⟩ : ∃ p, w.heap.size = p := ⟨_, rfl⟩
  obtain ⟨W1, ea1⟩ : ∃ W, w.alloc (.cells #[.int .i64 (n : Int)] 3) = W := ⟨_, rfl⟩
  have ka1 : Below w.heap.size w W1 := by rw [← ea1]; exact (Below.refl _ w).alloc (Nat.le_refl _) _
  have b1 : Blk W1 p1 3 #[.int .i64 (n : Int)] := by rw [← ea1]; exact blk_new w _ 3 _ f1
  have hq1 : p1 ≠ p := by rw [← f1]; exact Nat.ne_of_gt q.lt
  replace q := q.on ka1
  replace st := st.on ka1
  clear ka1
  replace hs := hs.on (show Below w.heap.size w W1 by rw [← ea1]; exact (Below.refl _ _).alloc (Nat.le_refl _) _)
  go_enter Try.func31, Try.ntmps31
  go_wp2_with fail
  refine (numbers_any p _ [(n : Int)] (some ⟨p1, 0, none⟩) 1 1 W1 q (firm_ints (l := [(n : Int)]) b1 hq1 (by simp)) (by have := HN.out; (try simp only [List.length_append, oct8_len, octs_len, many_len, Wd.nlen, Bg.nlen, Ent.nlen, Cel.nlen, List.length_cons, List.length_nil] at this); (try simp only [List.length_append, oct8_len, octs_len, many_len, Wd.nlen, Bg.nlen, Ent.nlen, Cel.nlen, List.length_cons, List.length_nil]); omega)).mono ?_
  rintro e W2 ⟨rfl, q2, k2⟩
  replace b1 := b1.stay k2 (by decide) hq1
  replace hs := hs.stay k2
  replace st := st.trans k2
  replace q := q2
  clear k2 q2
  clear b1 hq1
  go_wp2
  have st0 := st
  replace st : Stays p W2 W2 := Stays.refl _ _
  go_loopw [7, 15] (fun _ i wr => ∃ k : Nat, k ≤ n ∧ i = .int .i64 k ∧ Wri p (xs ++ octs [(n : Int)] ++ octs ((l.take k).flatMap Bu.ns)) wr ∧ Stays p W2 wr) (fun _ i _ => n - (intOf i).toNat)
  case atStart => exact ⟨0, Nat.zero_le _, rfl, by rw [List.take_zero, List.flatMap_nil, octs_nil, List.append_nil]; exact q, st⟩
  case round =>
    clear q st
    obtain ⟨k, hk, rfl, q, st⟩ := hrel
    by_cases hlt : k < n
    · obtain ⟨g, o, rfl, c0⟩ := (hs.stay st).now.get hlt
      have HT := Lib.hid (take_get l noBu (by rw [HL.out]; exact hlt))
      have hx0 := getD_mem (show k < l.length by rw [HL.out]; exact hlt) noBu
      have HX := Lib.hid (nsl _ hx0)
      skip
      have HF := Lib.hid (flat_take nsl k)
      generalize l.getD k noBu = x at c0 HT HX hx0
      have hkI : (k : Int) < (n : Int) := by omega
      have hk0 : (0 : Int) ≤ (k : Int) := by omega
      have HSr := hs.stay st
      go_wp2_with fail
      refine (show Calls Try.prog 27 #[.pointer (some ⟨p, 0, none⟩), .slice x.1.A x.1.n x.1.cap] wr _ from (buffer_any p _ x.2 x.1.A x.1.n x.1.cap wr q (fun W hW => (HSr W hW).reads x hx0) (by have := HN.out; have := HF.out; have : (many Ent.ns x.2).length ≤ 8388609 := HX.out; (try simp only [List.length_append, octs_len, List.length_cons, List.length_nil]); omega))).mono ?_
      rintro e w3 ⟨rfl, q3, k3⟩
      go_wp2
      go_roundw
      case rel => exact ⟨k + 1, by omega, by go_num, by rw [HT.out, ← octs_flat]; exact q3, st.trans k3⟩
      case measure => simp [intOf]; omega
    · have hkI : ¬ (k : Int) < (n : Int) := by omega
      go_wp2
      go_end0
      rw [take_all HL.out hlt] at q
      rw [octs_many _ _ HL.out] at q
      exact ⟨rfl, q, st0.trans st⟩
theorem out_end {w W W' : World} {p n cap : Nat} {A : Option Addr} {ys : List Int} (q : Wr p W' A n cap ys) (kk : Below w.heap.size w W) (hp : w.heap.size ≤ p) (hw : p ≤ W.heap.size) (st : Stays p W W') (hs : Small ys) : Outs ys w (.returned (.slice A n cap)) W' := by
  obtain ⟨A', c', e, ho⟩ := Oct.own q.own hs
  injection e with e1 e2 e3
  subst e1 e3
  exact ⟨A, n, cap, rfl, ho, kk.trans ((st.below hw).mono hp)⟩
set_option maxRecDepth 100000 in
set_option maxHeartbeats 4000000 in
theorem cthread_any (t : Tc) (w : World) (hr : Reads w t.x t.z t.l t.s) (ht : TOk t) : Calls Try.prog 8 #[.agg t.x.cs.toArray] w (Outs (octs t.ns) w) := by
  have HN := Lib.hid ht.len
  obtain ⟨p1, f1⟩ : ∃ p, w.heap.size = p := ⟨_, rfl⟩
  obtain ⟨W1, ea1⟩ : ∃ W, w.alloc (.cells t.x.cs.toArray 41) = W := ⟨_, rfl⟩
  have ka1 : Below w.heap.size w W1 := by rw [← ea1]; exact (Below.refl _ w).alloc (Nat.le_refl _) _
  have b1 : Blk W1 p1 41 t.x.cs.toArray := by rw [← ea1]; exact blk_new w _ 41 _ f1
  have kk : Below w.heap.size w W1 := ka1
  obtain ⟨p, fp⟩ : ∃ p, W1.heap.size = p := ⟨_, rfl⟩
  obtain ⟨W2, ea2⟩ : ∃ W, W1.alloc (.cells #[.slice none 0 0] 55) = W := ⟨_, rfl⟩
  have ka2 : Below W1.heap.size W1 W2 := by rw [← ea2]; exact (Below.refl _ W1).alloc (Nat.le_refl _) _
  have bp : Blk W2 p 55 #[.slice none 0 0] := by rw [← ea2]; exact blk_new W1 _ 55 _ fp
  have q := wri_new bp
  have hq1 : p1 ≠ p := by rw [← fp]; exact Nat.ne_of_lt b1.lt
  replace b1 := b1.on ka2
  have hp : w.heap.size ≤ p := by rw [← fp]; exact kk.size
  replace kk := kk.trans (ka2.mono kk.size)
  have hpw := Nat.le_of_lt bp.lt
  clear bp
  have st : Stays p W2 W2 := Stays.refl _ _
  have HR : Firm p (fun W => Reads W t.x t.z t.l t.s) W2 := firm_of (fun W hW => hr.on hW) kk hp hpw
  go_enter Try.func8, Try.ntmps8
  go_wp2_with (((with_reducible refine at_load 41 (.tmp 1) ?_); refine wpList_load_row rfl 41 (.tmp 1) rfl p1 rfl 41 t.x.cs.toArray (0, 0) _ b1 Try.underlying41 rfl (sizeT _) ?_))
  refine (thread_any p [] t W2 q HR (by have := HN.out; (try simp only [List.length_nil, Nat.zero_add]); omega)).mono ?_
  rintro e W3 ⟨rfl, q3, k3⟩
  replace b1 := b1.stay k3 (by decide) hq1
  replace HR := HR.stay k3
  replace st := st.trans k3
  replace q := q3
  clear k3 q3
  obtain ⟨A9, n9, c9, q9⟩ := q
  have cz := q9.box.cell 0
  go_wp2
  go_ret
  exact out_end q9 kk hp hpw st (octs_small _)
set_option maxRecDepth 100000 in
set_option maxHeartbeats 4000000 in
theorem cbuffer_any (b : Bu) (w : World) (hr : SeesE w b.1.A b.1.n b.1.cap b.2) (hb : b.2.length ≤ 1048576) : Calls Try.prog 10 #[.slice b.1.A b.1.n b.1.cap] w (Outs (octs b.ns) w) := by
  have HN := Lib.hid (bu_len hb)
  unfold Bu.ns at HN
  obtain ⟨p, fp⟩ : ∃ p, w.heap.size = p := ⟨_, rfl⟩
  obtain ⟨W1, ea1⟩ : ∃ W, w.alloc (.cells #[.slice none 0 0] 55) = W := ⟨_, rfl⟩
  have ka1 : Below w.heap.size w W1 := by rw [← ea1]; exact (Below.refl _ w).alloc (Nat.le_refl _) _
  have bp : Blk W1 p 55 #[.slice none 0 0] := by rw [← ea1]; exact blk_new w _ 55 _ fp
  have q := wri_new bp
  have hp : w.heap.size ≤ p := Nat.le_of_eq fp
  have kk : Below w.heap.size w W1 := ka1
  have hpw := Nat.le_of_lt bp.lt
  clear bp
  have st : Stays p W1 W1 := Stays.refl _ _
  have HR : Firm p (fun W => SeesE W b.1.A b.1.n b.1.cap b.2) W1 := firm_of (fun W hW => hr.on hW) kk hp hpw
  go_enter Try.func10, Try.ntmps10
  go_wp2_with fail
  refine (buffer_any p [] b.2 b.1.A b.1.n b.1.cap W1 q HR (by have := HN.out; (try simp only [List.length_nil, Nat.zero_add]); omega)).mono ?_
  rintro e W2 ⟨rfl, q2, k2⟩
  replace HR := HR.stay k2
  replace st := st.trans k2
  replace q := q2
  clear k2 q2
  obtain ⟨A9, n9, c9, q9⟩ := q
  have cz := q9.box.cell 0
  go_wp2
  go_ret
  exact out_end q9 kk hp hpw st (octs_small _)
set_option maxRecDepth 100000 in
set_option maxHeartbeats 4000000 in
theorem cshared_any (s : St) (c : Sc) (bl : List Bu) (w : World) (hr : Shows w s c) (hf : Fits c bl) : Calls Try.prog 12 #[.agg s.cs.toArray] w (Outs (octs c.sh) w) := by
  have HN := Lib.hid hf.sh
  obtain ⟨p1, f1⟩ : ∃ p, w.heap.size = p := ⟨_, rfl⟩
  obtain ⟨W1, ea1⟩ : ∃ W, w.alloc (.cells s.cs.toArray 29) = W := ⟨_, rfl⟩
  have ka1 : Below w.heap.size w W1 := by rw [← ea1]; exact (Below.refl _ w).alloc (Nat.le_refl _) _
  have b1 : Blk W1 p1 29 s.cs.toArray := by rw [← ea1]; exact blk_new w _ 29 _ f1
  have kk : Below w.heap.size w W1 := ka1
  obtain ⟨p, fp⟩ : ∃ p, W1.heap.size = p := ⟨_, rfl⟩
  obtain ⟨W2, ea2⟩ : ∃ W, W1.alloc (.cells #[.slice none 0 0] 55) = W := ⟨_, rfl⟩
  have ka2 : Below W1.heap.size W1 W2 := by rw [← ea2]; exact (Below.refl _ W1).alloc (Nat.le_refl _) _
  have bp : Blk W2 p 55 #[.slice none 0 0] := by rw [← ea2]; exact blk_new W1 _ 55 _ fp
  have q := wri_new bp
  have hq1 : p1 ≠ p := by rw [← fp]; exact Nat.ne_of_lt b1.lt
  replace b1 := b1.on ka2
  have hp : w.heap.size ≤ p := by rw [← fp]; exact kk.size
  replace kk := kk.trans (ka2.mono kk.size)
  have hpw := Nat.le_of_lt bp.lt
  clear bp
  have st : Stays p W2 W2 := Stays.refl _ _
  have HR : Firm p (fun W => Shows W s c) W2 := firm_of (fun W hW => hr.on hW) kk hp hpw
  go_enter Try.func12, Try.ntmps12
  go_wp2_with (((with_reducible refine at_load 29 (.tmp 1) ?_); refine wpList_load_row rfl 29 (.tmp 1) rfl p1 rfl 29 s.cs.toArray (0, 0) _ b1 Try.underlying29 rfl (sizeS _) ?_))
  refine (shared_any p [] s c W2 q HR (by have := HN.out; (try simp only [List.length_nil, Nat.zero_add]); omega)).mono ?_
  rintro e W3 ⟨rfl, q3, k3⟩
  replace b1 := b1.stay k3 (by decide) hq1
  replace HR := HR.stay k3
  replace st := st.trans k3
  replace q := q3
  clear k3 q3
  obtain ⟨A9, n9, c9, q9⟩ := q
  have cz := q9.box.cell 0
  go_wp2
  go_ret
  exact out_end q9 kk hp hpw st (octs_small _)
set_option maxRecDepth 100000 in
set_option maxHeartbeats 4000000 in
theorem cput_any (s : St) (c : Sc) (bl : List Bu) (w : World) (hr : Stat w s c bl) (hf : Fits c bl) : Calls Try.prog 14 #[.agg s.cs.toArray] w (Outs (octs c.ns) w) := by
  have HN := Lib.hid hf.sh
  have HT := Lib.hid (And.intro hf.t4 hr.th.len)
  have HB := Lib.hid (And.intro hf.b4 hr.bu.len)
  have n1 : ∀ x ∈ c.th, (Tc.ns x).length ≤ 5242902 := fun x hx => (hf.t x hx).len
  have n2 : ∀ x ∈ bl, (Bu.ns x).length ≤ 8388609 := fun x hx => bu_len (hf.b x hx)
  have F1 := Lib.hid (flat_le n1)
  have F2 := Lib.hid (flat_le n2)
  have hmf := hmf
  have OP := Lib.hid (octs_put hr.eb)
  obtain ⟨p1, f1⟩ : ∃ p, w.heap.size = p := ⟨_, rfl⟩
  obtain ⟨W1, ea1⟩ : ∃ W, w.alloc (.cells s.cs.toArray 29) = W := ⟨_, rfl⟩
  have ka1 : Below w.heap.size w W1 := by rw [← ea1]; exact (Below.refl _ w).alloc (Nat.le_refl _) _
  have b1 : Blk W1 p1 29 s.cs.toArray := by rw [← ea1]; exact blk_new w _ 29 _ f1
  have kk : Below w.heap.size w W1 := ka1
  obtain ⟨p, fp⟩ : ∃ p, W1.heap.size = p := ⟨_, rfl⟩
  obtain ⟨W2, ea2⟩ : ∃ W, W1.alloc (.cells #[.slice none 0 0] 55) = W := ⟨_, rfl⟩
  have ka2 : Below W1.heap.size W1 W2 := by rw [← ea2]; exact (Below.refl _ W1).alloc (Nat.le_refl _) _
  have bp : Blk W2 p 55 #[.slice none 0 0] := by rw [← ea2]; exact blk_new W1 _ 55 _ fp
  have q := wri_new bp
  have hq1 : p1 ≠ p := by rw [← fp]; exact Nat.ne_of_lt b1.lt
  replace b1 := b1.on ka2
  have hp : w.heap.size ≤ p := by rw [← fp]; exact kk.size
  replace kk := kk.trans (ka2.mono kk.size)
  have hpw := Nat.le_of_lt bp.lt
  clear bp
  have st : Stays p W2 W2 := Stays.refl _ _
  have HR : Firm p (fun W => Stat W s c bl) W2 := firm_of (fun W hW => hr.on hW) kk hp hpw
  have c0 : W2.cell? ⟨p1, 0, none⟩ = some (.slice s.th.A s.th.n s.th.cap) := b1.cell 0
  go_enter Try.func14, Try.ntmps14
  go_wp2_with fail
  refine (threads_any p [] c.th s.th.A s.th.n s.th.cap W2 q (fun W hW => (HR W hW).th) n1 (by have := HN.out; have := F1.out; have := F2.out; obtain ⟨_, _⟩ := HT.out; obtain ⟨_, _⟩ := HB.out; (try simp only [List.length_append, octs_len, many_len, List.length_nil, Nat.zero_add]); omega)).mono ?_
  rintro e W3 ⟨rfl, q3, k3⟩
  clear c0
  replace b1 := b1.stay k3 (by decide) hq1
  replace HR := HR.stay k3
  replace st := st.trans k3
  replace q := q3
  clear k3 q3
  have c1 : W3.cell? ⟨p1, 1, none⟩ = some (.slice s.bu.A s.bu.n s.bu.cap) := b1.cell 1
  go_wp2_with fail
  refine (buffers_any p _ bl s.bu.A s.bu.n s.bu.cap W3 q (fun W hW => (HR W hW).bu) n2 (by have := HN.out; have := F1.out; have := F2.out; obtain ⟨_, _⟩ := HT.out; obtain ⟨_, _⟩ := HB.out; (try simp only [List.length_append, octs_len, many_len, List.length_nil, Nat.zero_add]); omega)).mono ?_
  rintro e W4 ⟨rfl, q4, k4⟩
  clear c1
  replace b1 := b1.stay k4 (by decide) hq1
  replace HR := HR.stay k4
  replace st := st.trans k4
  replace q := q4
  clear k4 q4
  go_wp2_with (((with_reducible refine at_load 29 (.tmp 1) ?_); refine wpList_load_row rfl 29 (.tmp 1) rfl p1 rfl 29 s.cs.toArray (0, 0) _ b1 Try.underlying29 rfl (sizeS _) ?_))
  refine (shared_any p _ s c W4 q (fun W hW => (HR W hW).sh) (by have := HN.out; have := F1.out; have := F2.out; obtain ⟨_, _⟩ := HT.out; obtain ⟨_, _⟩ := HB.out; (try simp only [List.length_append, octs_len, many_len, List.length_nil, Nat.zero_add]); omega)).mono ?_
  rintro e W5 ⟨rfl, q5, k5⟩
  replace b1 := b1.stay k5 (by decide) hq1
  replace HR := HR.stay k5
  replace st := st.trans k5
  replace q := q5
  clear k5 q5
  rw [OP.out] at q
  obtain ⟨A9, n9, c9, q9⟩ := q
  have cz := q9.box.cell 0
  go_wp2
  go_ret
  exact out_end q9 kk hp hpw st (octs_small _)
end Go.Proofs.Ytfmkmmmaoiepmaa
