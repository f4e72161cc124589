/- A cell written; lists of numbers, bags, entries, words, cells, places of free ones, written. Conditions: at most 900000000000 octets. -/
import Derived.Test.YtfmkmmmaoiepmaaLists
namespace Go.Proofs.Ytfmkmmmaoiepmaa
set_option linter.unusedSimpArgs false
set_option linter.unusedVariables false
open Go.RowKit Go.ChangeShapes Go.WideShapes

theorem under70 : Try.prog.underlying 70 = some (.array (Try.prog.arrayLen 70) (Try.prog.elem 70)) := by kernel_rfl
theorem under36 : Try.prog.underlying 36 = some (.array (Try.prog.arrayLen 36) (Try.prog.elem 36)) := by kernel_rfl
theorem len70 : Try.prog.arrayLen 70 = 2 := by kernel_rfl
theorem len36 : Try.prog.arrayLen 36 = 4 := by kernel_rfl
theorem sizeE70 (w : World) : (sizeOf (Try.prog.elem 70)).run Try.prog w = .ok 3 w := by kernel_rfl
theorem sizeE36 (w : World) : (sizeOf (Try.prog.elem 36)).run Try.prog w = .ok 3 w := by kernel_rfl
theorem slc70 (g o : Nat) (w : World) : (Instr.sliceAt 70 (.pointer (some ⟨g, o, none⟩)) none none none).run Try.prog w = .ok (.slice (some ⟨g, o, none⟩) 2 2) w := by
  rw [run_sliceAt_array_all w 70 _ under70, sizeE70, len70]
  simp [Result.andThen, slicedAt, Addr.add]
theorem slc36 (g o : Nat) (w : World) : (Instr.sliceAt 36 (.pointer (some ⟨g, o, none⟩)) none none none).run Try.prog w = .ok (.slice (some ⟨g, o, none⟩) 4 4) w := by
  rw [run_sliceAt_array_all w 36 _ under36, sizeE36, len36]
  simp [Result.andThen, slicedAt, Addr.add]
/-- Words in the midst of a block. -/
theorem firm_words {p g o n : Nat} {t : TypeId} {w : World} {cs : List Value} {l : List Wd} (h : Blk w g t cs.toArray) (ht : t ≠ 5) (hg : g ≠ p) (hl : l.length = n) (hm : (cs.drop o).take (flatW l).length = flatW l) (hn : n ≤ 1000) :
    Firm p (fun W => SeesW W (some ⟨g, o, none⟩) n n l) w := fun _ k =>
  ⟨by unfold flatW; rw [flat_len Wd.len, hl], Nat.le_refl _, by unfold maxLen; omega, fun e => (by cases e), fun ad e _ => by
    cases e
    have h' := h.stay k ht hg
    exact ⟨g, o, rfl, h'.lt, range_part h' o _ hm⟩⟩
def Cel.ws (x : Cel) : List Wd := [⟨x.n0, x.c0, x.g0⟩, ⟨x.n1, x.c1, x.g1⟩]
set_option maxRecDepth 100000 in
set_option maxHeartbeats 4000000 in
theorem cell_any (p b : Nat) (xs : List Int) (x : Cel) (w : World) (h : Wri p xs w) (hb : Firm p (fun W => Blk W b 74 #[.pointer (some ⟨p, 0, none⟩)]) w) (hn : xs.length + 80 ≤ 900000000000) : Calls Try.prog 52 #[.agg x.cs.toArray, .pointer (some ⟨b, 0, none⟩)] w fun e w' => e = .returned (.tuple #[]) ∧ Wri p (xs ++ octs (x.ns)) w' ∧ Stays p w w' := by
  have q := h
  have HN := Lib.hid hn
  clear hn
  have st : Stays p w w := Stays.refl p w
  have HB := hb
  obtain ⟨p1, f1⟩ : ∃ p, w.heap.size = p := ⟨_, rfl⟩
  obtain ⟨W1, ea1⟩ : ∃ W, w.alloc (.cells x.cs.toArray 72) = W := ⟨_, rfl⟩
  have ka1 : Below w.heap.size w W1 := by rw [← ea1]; exact (Below.refl _ w).alloc (Nat.le_refl _) _
  have b1 : Blk W1 p1 72 x.cs.toArray := by rw [← ea1]; exact blk_new w _ 72 _ f1
  have hq1 : p1 ≠ p := by rw [← f1]; exact Nat.ne_of_gt q.lt
  replace HB := HB.on ka1
  replace q := q.on ka1
  replace st := st.on ka1
  clear ka1
  have cb : W1.cell? ⟨b, 0, none⟩ = some (.pointer (some ⟨p, 0, none⟩)) := HB.now.cell 0
  have c0 : W1.cell? ⟨p1, 0, none⟩ = some (.int .i64 x.st) := b1.cell 0
  have c1 : W1.cell? ⟨p1, 1, none⟩ = some (.int .i64 x.gen) := b1.cell 1
  have c2 : W1.cell? ⟨p1, 2, none⟩ = some (.int .i64 x.by_) := b1.cell 2
  have c3 : W1.cell? ⟨p1, 3, none⟩ = some (.int .i64 x.pc) := b1.cell 3
  go_enter Try.func52, Try.ntmps52
  obtain ⟨p2, f2⟩ : ∃ p, W1.heap.size = p := ⟨_, rfl⟩
  obtain ⟨W2, ea2⟩ : ∃ W, W1.alloc (.cells #[.int .i64 x.st, .int .i64 x.gen, .int .i64 x.by_, .int .i64 x.pc] 3) = W := ⟨_, rfl⟩
  have ka2 : Below W1.heap.size W1 W2 := by rw [← ea2]; exact (Below.refl _ W1).alloc (Nat.le_refl _) _
  have b2 : Blk W2 p2 3 #[.int .i64 x.st, .int .i64 x.gen, .int .i64 x.by_, .int .i64 x.pc] := by rw [← ea2]; exact blk_new W1 _ 3 _ f2
  have hq2 : p2 ≠ p := by rw [← f2]; exact Nat.ne_of_gt q.lt
  replace b1 := b1.on ka2
  replace HB := HB.on ka2
  replace q := q.on ka2
  replace st := st.on ka2
  clear ka2
  go_wp2_with fail
  refine (numbers_any p _ [x.st, x.gen, x.by_, x.pc] (some ⟨p2, 0, none⟩) 4 4 W2 q (firm_ints (l := [x.st, x.gen, x.by_, x.pc]) b2 hq2 (by simp)) (by have := HN.out; (try simp only [List.length_append, oct8_len, octs_len, many_len, Wd.nlen, Bg.nlen, Ent.nlen, Cel.nlen, List.length_cons, List.length_nil] at this); (try simp only [List.length_append, oct8_len, octs_len, many_len, Wd.nlen, Bg.nlen, Ent.nlen, Cel.nlen, List.length_cons, List.length_nil]); omega)).mono ?_
  rintro e W3 ⟨rfl, q3, k3⟩
  clear cb c0 c1 c2 c3
  replace b1 := b1.stay k3 (by decide) hq1
  replace b2 := b2.stay k3 (by decide) hq2
  replace HB := HB.stay k3
  replace st := st.trans k3
  replace q := q3
  clear k3 q3
  go_wp2_with fail
  have hsl := fun W => slc70 p1 4 W
  obtain ⟨wd, ed⟩ : ∃ W, W3.drew = W := ⟨_, rfl⟩
  have hd : Below W3.heap.size W3 wd := by rw [← ed]; exact (Below.refl _ _).drew
  replace b1 := b1.on hd
  replace b2 := b2.on hd
  replace HB := HB.on hd
  replace q := q.on hd
  replace st := st.on hd
  clear hd
  have kS : Stays p wd wd := Stays.refl _ _
  have tS : ∀ W, Stays p wd W → W.cell? ⟨b, 0, none⟩ = some (.pointer (some ⟨p, 0, none⟩)) := fun W hW => (HB.stay hW).now.cell 0
  refine wp_region_noPanic ?_
  refine wp_region_held_drew (S := (fun W => Stays p wd W)) (by kernel_rfl) (by rw [ed]; exact kS) (fun hHeld => ?_)
  rw [ed] at hHeld ⊢
  refine wpAnyH_take (i := 0) (oi := ⟨some 14, _, _, _, _, _⟩) (v := ?_) rfl (by kernel_rfl) (by kernel_rfl) (by kernel_rfl) (fun _ _ _ h => h) (Or.inl ⟨by rfl, ?_⟩) (by assumption) ?_
  rotate_left 1
  · (intro W hSw; obtain q0 := tS W hSw; go_simp <;> with_reducible rfl)
  try simp only [Act.put, List.setIfInBounds_toArray, List.set_cons_zero, List.set_cons_succ]
  refine wpAnyH_take (i := 1) (oi := ⟨some 15, _, _, _, _, _⟩) (v := ?_) rfl (by kernel_rfl) (by kernel_rfl) (by kernel_rfl) (fun _ _ _ h => h) (Or.inl ⟨by rfl, ?_⟩) (by assumption) ?_
  rotate_left 1
  · (intro W hSw; go_simp <;> with_reducible rfl)
  try simp only [Act.put, List.setIfInBounds_toArray, List.set_cons_zero, List.set_cons_succ]
  refine wpAnyH_take (i := 2) (oi := ⟨some 16, _, _, _, _, _⟩) (v := ?_) rfl (by kernel_rfl) (by kernel_rfl) (by kernel_rfl) (fun _ _ _ h => h) (Or.inl ⟨by rfl, ?_⟩) (by assumption) ?_
  rotate_left 1
  · (intro W hSw; go_simp <;> with_reducible rfl)
  try simp only [Act.put, List.setIfInBounds_toArray, List.set_cons_zero, List.set_cons_succ]
  refine wpAnyH_ready (rs := [3]) (by kernel_rfl) (by simp) ?_
  refine AllReadyH.cons (o := ⟨some 17, _, _, _, _, _⟩) rfl (fun K hK => ?_) AllReadyH.nil
  go_simp
  have FW : Firm p (fun W => SeesW W (some ⟨p1, 4, none⟩) 2 2 x.ws) wd := firm_words b1 (by decide) hq1 rfl rfl (by decide)
  refine (words_any p _ x.ws (some ⟨p1, 4, none⟩) 2 2 wd q FW (by have := HN.out; (try simp only [List.length_append, oct8_len, octs_len, many_len, Wd.nlen, Bg.nlen, Ent.nlen, Cel.nlen, List.length_cons, List.length_nil] at this); (try simp only [List.length_append, oct8_len, octs_len, many_len, Wd.nlen, Bg.nlen, Ent.nlen, Cel.nlen, List.length_cons, List.length_nil]); omega)).mono ?_
  rintro e w1 ⟨rfl, q1, k1⟩
  have S1 : Stays p wd w1 := k1
  refine hK.out _ _ S1 (fun h1 => ?_)
  clear hHeld hK K
  try simp only [Act.put, List.setIfInBounds_toArray, List.set_cons_zero, List.set_cons_succ]
  refine wpAnyH_done (by kernel_rfl) ?_ _
  refine NoPanic.normal ?_
  go_end0
  exact ⟨rfl, by rw [List.append_assoc, ← octs_app] at q1; exact q1, st.trans k1⟩
set_option maxRecDepth 100000 in
set_option maxHeartbeats 4000000 in
theorem nums_any (p : Nat) (xs : List Int) (l : List Int) (A : Option Addr) (n cap : Nat) (w : World) (h : Wri p xs w) (hs : Firm p (fun W => SeesI W A n cap l) w) (hn : xs.length + 8 + 8 * n ≤ 900000000000) : Calls Try.prog 43 #[.pointer (some ⟨p, 0, none⟩), .slice A n cap, .func (.func 42) #[.pointer (some ⟨p, 0, none⟩)] #[]] w fun e w' => e = .returned (.tuple #[]) ∧ Wri p (xs ++ octs (many one l)) w' ∧ Stays p w w' := by
  have hl := (hs.now).len
  have HL := Lib.hid hl
  have hmx := Sees.most hs.now
  have hrm := Sees.room hs.now
  unfold maxLen at hmx
  have HN := Lib.hid hn
  clear hn hl
  have q := h
  have st : Stays p w w := Stays.refl p w
  have nsl : ∀ x ∈ l, (one x).length ≤ 1 := fun x _ => Nat.le_refl 1
  obtain ⟨p1, f1⟩ : ∃ p, w.heap.size = p := ⟨_, rfl⟩
  obtain ⟨W1, ea1⟩ : ∃ W, w.alloc (.cells #[.int .i64 (n : Int)] 3) = W := ⟨_, rfl⟩
  have ka1 : Below w.heap.size w W1 := by rw [← ea1]; exact (Below.refl _ w).alloc (Nat.le_refl _) _
  have b1 : Blk W1 p1 3 #[.int .i64 (n : Int)] := by rw [← ea1]; exact blk_new w _ 3 _ f1
  have hq1 : p1 ≠ p := by rw [← f1]; exact Nat.ne_of_gt q.lt
  replace q := q.on ka1
  replace st := st.on ka1
  clear ka1
  replace hs := hs.on (show Below w.heap.size w W1 by rw [← ea1]; exact (Below.refl _ _).alloc (Nat.le_refl _) _)
  go_enter Try.func43, Try.ntmps43
  go_wp2_with fail
  refine (numbers_any p _ [(n : Int)] (some ⟨p1, 0, none⟩) 1 1 W1 q (firm_ints (l := [(n : Int)]) b1 hq1 (by simp)) (by have := HN.out; (try simp only [List.length_append, oct8_len, octs_len, many_len, Wd.nlen, Bg.nlen, Ent.nlen, Cel.nlen, List.length_cons, List.length_nil] at this); (try simp only [List.length_append, oct8_len, octs_len, many_len, Wd.nlen, Bg.nlen, Ent.nlen, Cel.nlen, List.length_cons, List.length_nil]); omega)).mono ?_
  rintro e W2 ⟨rfl, q2, k2⟩
  replace b1 := b1.stay k2 (by decide) hq1
  replace hs := hs.stay k2
  replace st := st.trans k2
  replace q := q2
  clear k2 q2
  clear b1 hq1
  go_wp2
  have st0 := st
  replace st : Stays p W2 W2 := Stays.refl _ _
  go_loopw [7, 15] (fun _ i wr => ∃ k : Nat, k ≤ n ∧ i = .int .i64 k ∧ Wri p (xs ++ octs [(n : Int)] ++ octs ((l.take k).flatMap one)) wr ∧ Stays p W2 wr) (fun _ i _ => n - (intOf i).toNat)
  case atStart => exact ⟨0, Nat.zero_le _, rfl, by rw [List.take_zero, List.flatMap_nil, octs_nil, List.append_nil]; exact q, st⟩
  case round =>
    clear q st
    obtain ⟨k, hk, rfl, q, st⟩ := hrel
    by_cases hlt : k < n
    · obtain ⟨g, o, rfl, c0⟩ := (hs.stay st).now.get hlt
      have HT := Lib.hid (take_get l 0 (by rw [HL.out]; exact hlt))
      have hx0 := getD_mem (show k < l.length by rw [HL.out]; exact hlt) 0
      have HX := Lib.hid (nsl _ hx0)
      clear hx0
      have HF := Lib.hid (flat_take nsl k)
      generalize l.getD k 0 = x at c0 HT HX
      have hkI : (k : Int) < (n : Int) := by omega
      have hk0 : (0 : Int) ≤ (k : Int) := by omega
      go_wp2_with fail
      refine (show Calls Try.prog 42 #[.pointer (some ⟨p, 0, none⟩), .int .i64 x] wr _ from (number_any p _ x wr q (by have := HN.out; have := HF.out; have := HX.out; (try simp only [List.length_append, octs_len, List.length_cons, List.length_nil]); omega))).mono ?_
      rintro e w3 ⟨rfl, q3, k3⟩
      go_wp2
      go_roundw
      case rel => exact ⟨k + 1, by omega, by go_num, by rw [HT.out, ← octs_flat]; exact q3, st.trans k3⟩
      case measure => simp [intOf]; omega
    · have hkI : ¬ (k : Int) < (n : Int) := by omega
      go_wp2
      go_end0
      rw [take_all HL.out hlt] at q
      rw [octs_many _ _ HL.out] at q
      exact ⟨rfl, q, st0.trans st⟩
set_option maxRecDepth 100000 in
set_option maxHeartbeats 4000000 in
theorem bags_any (p b : Nat) (xs : List Int) (l : List Bg) (A : Option Addr) (n cap : Nat) (w : World) (h : Wri p xs w) (hb : Firm p (fun W => Blk W b 74 #[.pointer (some ⟨p, 0, none⟩)]) w) (hs : Firm p (fun W => SeesB W A n cap l) w) (hn : xs.length + 8 + 24 * n ≤ 900000000000) : Calls Try.prog 44 #[.pointer (some ⟨p, 0, none⟩), .slice A n cap, .func (.func 45) #[] #[.pointer (some ⟨b, 0, none⟩)]] w fun e w' => e = .returned (.tuple #[]) ∧ Wri p (xs ++ octs (many Bg.ns l)) w' ∧ Stays p w w' := by
  have hl := (hs.now).len
  have HL := Lib.hid hl
  have hmx := Sees.most hs.now
  have hrm := Sees.room hs.now
  unfold maxLen at hmx
  have HN := Lib.hid hn
  clear hn hl
  have q := h
  have st : Stays p w w := Stays.refl p w
  have nsl : ∀ x ∈ l, (Bg.ns x).length ≤ 3 := fun x _ => Nat.le_refl 3
  have HB := hb
  obtain ⟨p1, f1⟩ : ∃ p, w.heap.size = p := ⟨_, rfl⟩
  obtain ⟨W1, ea1⟩ : ∃ W, w.alloc (.cells #[.int .i64 (n : Int)] 3) = W := ⟨_, rfl⟩
  have ka1 : Below w.heap.size w W1 := by rw [← ea1]; exact (Below.refl _ w).alloc (Nat.le_refl _) _
  have b1 : Blk W1 p1 3 #[.int .i64 (n : Int)] := by rw [← ea1]; exact blk_new w _ 3 _ f1
  have hq1 : p1 ≠ p := by rw [← f1]; exact Nat.ne_of_gt q.lt
  replace HB := HB.on ka1
  replace q := q.on ka1
  replace st := st.on ka1
  clear ka1
  replace hs := hs.on (show Below w.heap.size w W1 by rw [← ea1]; exact (Below.refl _ _).alloc (Nat.le_refl _) _)
  go_enter Try.func44, Try.ntmps44
  go_wp2_with fail
  refine (numbers_any p _ [(n : Int)] (some ⟨p1, 0, none⟩) 1 1 W1 q (firm_ints (l := [(n : Int)]) b1 hq1 (by simp)) (by have := HN.out; (try simp only [List.length_append, oct8_len, octs_len, many_len, Wd.nlen, Bg.nlen, Ent.nlen, Cel.nlen, List.length_cons, List.length_nil] at this); (try simp only [List.length_append, oct8_len, octs_len, many_len, Wd.nlen, Bg.nlen, Ent.nlen, Cel.nlen, List.length_cons, List.length_nil]); omega)).mono ?_
  rintro e W2 ⟨rfl, q2, k2⟩
  replace b1 := b1.stay k2 (by decide) hq1
  replace hs := hs.stay k2
  replace HB := HB.stay k2
  replace st := st.trans k2
  replace q := q2
  clear k2 q2
  clear b1 hq1
  go_wp2
  have st0 := st
  replace st : Stays p W2 W2 := Stays.refl _ _
  go_loopw [7, 15] (fun _ i wr => ∃ k : Nat, k ≤ n ∧ i = .int .i64 k ∧ Wri p (xs ++ octs [(n : Int)] ++ octs ((l.take k).flatMap Bg.ns)) wr ∧ Stays p W2 wr) (fun _ i _ => n - (intOf i).toNat)
  case atStart => exact ⟨0, Nat.zero_le _, rfl, by rw [List.take_zero, List.flatMap_nil, octs_nil, List.append_nil]; exact q, st⟩
  case round =>
    clear q st
    obtain ⟨k, hk, rfl, q, st⟩ := hrel
    by_cases hlt : k < n
    · obtain ⟨g, o, rfl, c0⟩ := (hs.stay st).now.get hlt
      have HT := Lib.hid (take_get l noB (by rw [HL.out]; exact hlt))
      have hx0 := getD_mem (show k < l.length by rw [HL.out]; exact hlt) noB
      have HX := Lib.hid (nsl _ hx0)
      clear hx0
      have HF := Lib.hid (flat_take nsl k)
      generalize l.getD k noB = x at c0 HT HX
      have hkI : (k : Int) < (n : Int) := by omega
      have hk0 : (0 : Int) ≤ (k : Int) := by omega
      have HBr := HB.stay st
      obtain ⟨bb, fb⟩ : ∃ p, wr.heap.size = p := ⟨_, rfl⟩
      obtain ⟨w1, e1⟩ : ∃ W, wr.alloc (.cells #[.int .i64 0, .int .i64 0, .int .i64 0] 62) = W := ⟨_, rfl⟩
      have k1 : Below wr.heap.size wr w1 := by rw [← e1]; exact (Below.refl _ wr).alloc (Nat.le_refl _) _
      have bz : Blk w1 bb 62 #[.int .i64 0, .int .i64 0, .int .i64 0] := by rw [← e1]; exact blk_new wr _ 62 _ fb
      obtain ⟨w2, e2⟩ : ∃ W, w1.setRow bb x.cs.toArray = W := ⟨_, rfl⟩
      have bx : Blk w2 bb 62 x.cs.toArray := row_named bz e2
      have k2 : Below wr.heap.size wr w2 := k1.trans (row_below e2 (Nat.le_of_eq fb) k1.size)
      replace q := q.on k2
      replace st := st.on k2
      clear k1
      replace HBr := HBr.on k2
      go_wp2_with (first | ((with_reducible refine at_load 62 (.tmp 17) ?_); refine wpList_mid (by rfl) 62 (.tmp 17) rfl g (o + k * 3) rfl x.cs _ c0 Try.underlying62 rfl size62 ?_) | ((with_reducible refine at_store 62 (.tmp 7) (.tmp 18) ?_); refine wpList_store_row rfl 62 (.tmp 7) (.tmp 18) rfl bb x.cs.toArray rfl rfl 62 #[.int .i64 0, .int .i64 0, .int .i64 0] bz size62 rfl (Bg.onea _) ?_; rw [e2]) | ((with_reducible refine at_load 62 (.tmp 7) ?_); refine wpList_load_row rfl 62 (.tmp 7) rfl bb rfl 62 x.cs.toArray (0, 0) _ bx Try.underlying62 rfl size62 ?_))
      refine (bag_any p b _ x w2 q HBr (by have := HN.out; have := HF.out; have := HX.out; (try simp only [List.length_append, octs_len, List.length_cons, List.length_nil]); omega)).mono ?_
      rintro e w3 ⟨rfl, q3, k3⟩
      go_wp2
      go_roundw
      case rel => exact ⟨k + 1, by omega, by go_num, by rw [HT.out, ← octs_flat]; exact q3, st.trans k3⟩
      case measure => simp [intOf]; omega
    · have hkI : ¬ (k : Int) < (n : Int) := by omega
      go_wp2
      go_end0
      rw [take_all HL.out hlt] at q
      rw [octs_many _ _ HL.out] at q
      exact ⟨rfl, q, st0.trans st⟩
set_option maxRecDepth 100000 in
set_option maxHeartbeats 4000000 in
theorem entries_any (p b : Nat) (xs : List Int) (l : List Ent) (A : Option Addr) (n cap : Nat) (w : World) (h : Wri p xs w) (hb : Firm p (fun W => Blk W b 74 #[.pointer (some ⟨p, 0, none⟩)]) w) (hs : Firm p (fun W => SeesE W A n cap l) w) (hn : xs.length + 8 + 64 * n ≤ 900000000000) : Calls Try.prog 47 #[.pointer (some ⟨p, 0, none⟩), .slice A n cap, .func (.func 48) #[] #[.pointer (some ⟨b, 0, none⟩)]] w fun e w' => e = .returned (.tuple #[]) ∧ Wri p (xs ++ octs (many Ent.ns l)) w' ∧ Stays p w w' := by
  have hl := (hs.now).len
  have HL := Lib.hid hl
  have hmx := Sees.most hs.now
  have hrm := Sees.room hs.now
  unfold maxLen at hmx
  have HN := Lib.hid hn
  clear hn hl
  have q := h
  have st : Stays p w w := Stays.refl p w
  have nsl : ∀ x ∈ l, (Ent.ns x).length ≤ 8 := fun x _ => Nat.le_refl 8
  have HB := hb
  obtain ⟨p1, f1⟩ : ∃ p, w.heap.size = p := ⟨_, rfl⟩
  obtain ⟨W1, ea1⟩ : ∃ W, w.alloc (.cells #[.int .i64 (n : Int)] 3) = W := ⟨_, rfl⟩
  have ka1 : Below w.heap.size w W1 := by rw [← ea1]; exact (Below.refl _ w).alloc (Nat.le_refl _) _
  have b1 : Blk W1 p1 3 #[.int .i64 (n : Int)] := by rw [← ea1]; exact blk_new w _ 3 _ f1
  have hq1 : p1 ≠ p := by rw [← f1]; exact Nat.ne_of_gt q.lt
  replace HB := HB.on ka1
  replace q := q.on ka1
  replace st := st.on ka1
  clear ka1
  replace hs := hs.on (show Below w.heap.size w W1 by rw [← ea1]; exact (Below.refl _ _).alloc (Nat.le_refl _) _)
  go_enter Try.func47, Try.ntmps47
  go_wp2_with fail
  refine (numbers_any p _ [(n : Int)] (some ⟨p1, 0, none⟩) 1 1 W1 q (firm_ints (l := [(n : Int)]) b1 hq1 (by simp)) (by have := HN.out; (try simp only [List.length_append, oct8_len, octs_len, many_len, Wd.nlen, Bg.nlen, Ent.nlen, Cel.nlen, List.length_cons, List.length_nil] at this); (try simp only [List.length_append, oct8_len, octs_len, many_len, Wd.nlen, Bg.nlen, Ent.nlen, Cel.nlen, List.length_cons, List.length_nil]); omega)).mono ?_
  rintro e W2 ⟨rfl, q2, k2⟩
  replace b1 := b1.stay k2 (by decide) hq1
  replace hs := hs.stay k2
  replace HB := HB.stay k2
  replace st := st.trans k2
  replace q := q2
  clear k2 q2
  clear b1 hq1
  go_wp2
  have st0 := st
  replace st : Stays p W2 W2 := Stays.refl _ _
  go_loopw [7, 15] (fun _ i wr => ∃ k : Nat, k ≤ n ∧ i = .int .i64 k ∧ Wri p (xs ++ octs [(n : Int)] ++ octs ((l.take k).flatMap Ent.ns)) wr ∧ Stays p W2 wr) (fun _ i _ => n - (intOf i).toNat)
  case atStart => exact ⟨0, Nat.zero_le _, rfl, by rw [List.take_zero, List.flatMap_nil, octs_nil, List.append_nil]; exact q, st⟩
  case round =>
    clear q st
    obtain ⟨k, hk, rfl, q, st⟩ := hrel
    by_cases hlt : k < n
    · obtain ⟨g, o, rfl, c0⟩ := (hs.stay st).now.get hlt
      have HT := Lib.hid (take_get l noE (by rw [HL.out]; exact hlt))
      have hx0 := getD_mem (show k < l.length by rw [HL.out]; exact hlt) noE
      have HX := Lib.hid (nsl _ hx0)
      clear hx0
      have HF := Lib.hid (flat_take nsl k)
      generalize l.getD k noE = x at c0 HT HX
      have hkI : (k : Int) < (n : Int) := by omega
      have hk0 : (0 : Int) ≤ (k : Int) := by omega
      have HBr := HB.stay st
      obtain ⟨bb, fb⟩ : ∃ p, wr.heap.size = p := ⟨_, rfl⟩
      obtain ⟨w1, e1⟩ : ∃ W, wr.alloc (.cells #[.int .i64 0, .int .i64 0, .int .i64 0, .int .i64 0, .int .i64 0, .int .i64 0, .int .i64 0, .int .i64 0] 67) = W := ⟨_, rfl⟩
      have k1 : Below wr.heap.size wr w1 := by rw [← e1]; exact (Below.refl _ wr).alloc (Nat.le_refl _) _
      have bz : Blk w1 bb 67 #[.int .i64 0, .int .i64 0, .int .i64 0, .int .i64 0, .int .i64 0, .int .i64 0, .int .i64 0, .int .i64 0] := by rw [← e1]; exact blk_new wr _ 67 _ fb
      obtain ⟨w2, e2⟩ : ∃ W, w1.setRow bb x.cs.toArray = W := ⟨_, rfl⟩
      have bx : Blk w2 bb 67 x.cs.toArray := row_named bz e2
      have k2 : Below wr.heap.size wr w2 := k1.trans (row_below e2 (Nat.le_of_eq fb) k1.size)
      replace q := q.on k2
      replace st := st.on k2
      clear k1
      replace HBr := HBr.on k2
      go_wp2_with (first | ((with_reducible refine at_load 67 (.tmp 17) ?_); refine wpList_mid (by rfl) 67 (.tmp 17) rfl g (o + k * 8) rfl x.cs _ c0 Try.underlying67 rfl size67 ?_) | ((with_reducible refine at_store 67 (.tmp 7) (.tmp 18) ?_); refine wpList_store_row rfl 67 (.tmp 7) (.tmp 18) rfl bb x.cs.toArray rfl rfl 67 #[.int .i64 0, .int .i64 0, .int .i64 0, .int .i64 0, .int .i64 0, .int .i64 0, .int .i64 0, .int .i64 0] bz (sizeE _) rfl (Ent.onea _) ?_; rw [e2]) | ((with_reducible refine at_load 67 (.tmp 7) ?_); refine wpList_load_row rfl 67 (.tmp 7) rfl bb rfl 67 x.cs.toArray (0, 0) _ bx Try.underlying67 rfl (sizeE _) ?_))
      refine (entry_any p b _ x w2 q HBr (by have := HN.out; have := HF.out; have := HX.out; (try simp only [List.length_append, octs_len, List.length_cons, List.length_nil]); omega)).mono ?_
      rintro e w3 ⟨rfl, q3, k3⟩
      go_wp2
      go_roundw
      case rel => exact ⟨k + 1, by omega, by go_num, by rw [HT.out, ← octs_flat]; exact q3, st.trans k3⟩
      case measure => simp [intOf]; omega
    · have hkI : ¬ (k : Int) < (n : Int) := by omega
      go_wp2
      go_end0
      rw [take_all HL.out hlt] at q
      rw [octs_many _ _ HL.out] at q
      exact ⟨rfl, q, st0.trans st⟩
set_option maxRecDepth 100000 in
set_option maxHeartbeats 4000000 in
theorem lwords_any (p : Nat) (xs : List Int) (l : List Wd) (A : Option Addr) (n cap : Nat) (w : World) (h : Wri p xs w) (hs : Firm p (fun W => SeesW W A n cap l) w) (hn : xs.length + 8 + 24 * n ≤ 900000000000) : Calls Try.prog 50 #[.pointer (some ⟨p, 0, none⟩), .slice A n cap, .func (.func 49) #[.pointer (some ⟨p, 0, none⟩)] #[]] w fun e w' => e = .returned (.tuple #[]) ∧ Wri p (xs ++ octs (many Wd.ns l)) w' ∧ Stays p w w' := by
  have hl := (hs.now).len
  have HL := Lib.hid hl
  have hmx := Sees.most hs.now
  have hrm := Sees.room hs.now
  unfold maxLen at hmx
  have HN := Lib.hid hn
  clear hn hl
  have q := h
  have st : Stays p w w := Stays.refl p w
  have nsl : ∀ x ∈ l, (Wd.ns x).length ≤ 3 := fun x _ => Nat.le_refl 3
  obtain ⟨p1, f1⟩ : ∃ p, w.heap.size = p := ⟨_, rfl⟩
  obtain ⟨W1, ea1⟩ : ∃ W, w.alloc (.cells #[.int .i64 (n : Int)] 3) = W := ⟨_, rfl⟩
  have ka1 : Below w.heap.size w W1 := by rw [← ea1]; exact (Below.refl _ w).alloc (Nat.le_refl _) _
  have b1 : Blk W1 p1 3 #[.int .i64 (n : Int)] := by rw [← ea1]; exact blk_new w _ 3 _ f1
  have hq1 : p1 ≠ p := by rw [← f1]; exact Nat.ne_of_gt q.lt
  replace q := q.on ka1
  replace st := st.on ka1
  clear ka1
  replace hs := hs.on (show Below w.heap.size w W1 by rw [← ea1]; exact (Below.refl _ _).alloc (Nat.le_refl _) _)
  go_enter Try.func50, Try.ntmps50
  go_wp2_with fail
  refine (numbers_any p _ [(n : Int)] (some ⟨p1, 0, none⟩) 1 1 W1 q (firm_ints (l := [(n : Int)]) b1 hq1 (by simp)) (by have := HN.out; (try simp only [List.length_append, oct8_len, octs_len, many_len, Wd.nlen, Bg.nlen, Ent.nlen, Cel.nlen, List.length_cons, List.length_nil] at this); (try simp only [List.length_append, oct8_len, octs_len, many_len, Wd.nlen, Bg.nlen, Ent.nlen, Cel.nlen, List.length_cons, List.length_nil]); omega)).mono ?_
  rintro e W2 ⟨rfl, q2, k2⟩
  replace b1 := b1.stay k2 (by decide) hq1
  replace hs := hs.stay k2
  replace st := st.trans k2
  replace q := q2
  clear k2 q2
  clear b1 hq1
  go_wp2
  have st0 := st
  replace st : Stays p W2 W2 := Stays.refl _ _
  go_loopw [7, 15] (fun _ i wr => ∃ k : Nat, k ≤ n ∧ i = .int .i64 k ∧ Wri p (xs ++ octs [(n : Int)] ++ octs ((l.take k).flatMap Wd.ns)) wr ∧ Stays p W2 wr) (fun _ i _ => n - (intOf i).toNat)
  case atStart => exact ⟨0, Nat.zero_le _, rfl, by rw [List.take_zero, List.flatMap_nil, octs_nil, List.append_nil]; exact q, st⟩
  case round =>
    clear q st
    obtain ⟨k, hk, rfl, q, st⟩ := hrel
    by_cases hlt : k < n
    · obtain ⟨g, o, rfl, c0⟩ := (hs.stay st).now.get hlt
      have HT := Lib.hid (take_get l noW (by rw [HL.out]; exact hlt))
      have hx0 := getD_mem (show k < l.length by rw [HL.out]; exact hlt) noW
      have HX := Lib.hid (nsl _ hx0)
      clear hx0
      have HF := Lib.hid (flat_take nsl k)
      generalize l.getD k noW = x at c0 HT HX
      have hkI : (k : Int) < (n : Int) := by omega
      have hk0 : (0 : Int) ≤ (k : Int) := by omega
      obtain ⟨bb, fb⟩ : ∃ p, wr.heap.size = p := ⟨_, rfl⟩
      obtain ⟨w1, e1⟩ : ∃ W, wr.alloc (.cells #[.int .i64 0, .int .i64 0, .int .i64 0] 35) = W := ⟨_, rfl⟩
      have k1 : Below wr.heap.size wr w1 := by rw [← e1]; exact (Below.refl _ wr).alloc (Nat.le_refl _) _
      have bz : Blk w1 bb 35 #[.int .i64 0, .int .i64 0, .int .i64 0] := by rw [← e1]; exact blk_new wr _ 35 _ fb
      obtain ⟨w2, e2⟩ : ∃ W, w1.setRow bb x.cs.toArray = W := ⟨_, rfl⟩
      have bx : Blk w2 bb 35 x.cs.toArray := row_named bz e2
      have k2 : Below wr.heap.size wr w2 := k1.trans (row_below e2 (Nat.le_of_eq fb) k1.size)
      replace q := q.on k2
      replace st := st.on k2
      clear k1
      go_wp2_with (first | ((with_reducible refine at_load 35 (.tmp 17) ?_); refine wpList_mid (by rfl) 35 (.tmp 17) rfl g (o + k * 3) rfl x.cs _ c0 Try.underlying35 rfl size35 ?_) | ((with_reducible refine at_store 35 (.tmp 7) (.tmp 18) ?_); refine wpList_store_row rfl 35 (.tmp 7) (.tmp 18) rfl bb x.cs.toArray rfl rfl 35 #[.int .i64 0, .int .i64 0, .int .i64 0] bz size35 rfl (Wd.onea _) ?_; rw [e2]) | ((with_reducible refine at_load 35 (.tmp 7) ?_); refine wpList_load_row rfl 35 (.tmp 7) rfl bb rfl 35 x.cs.toArray (0, 0) _ bx Try.underlying35 rfl size35 ?_))
      refine (word_any p _ x w2 q (by have := HN.out; have := HF.out; have := HX.out; (try simp only [List.length_append, octs_len, List.length_cons, List.length_nil]); omega)).mono ?_
      rintro e w3 ⟨rfl, q3, k3⟩
      go_wp2
      go_roundw
      case rel => exact ⟨k + 1, by omega, by go_num, by rw [HT.out, ← octs_flat]; exact q3, st.trans k3⟩
      case measure => simp [intOf]; omega
    · have hkI : ¬ (k : Int) < (n : Int) := by omega
      go_wp2
      go_end0
      rw [take_all HL.out hlt] at q
      rw [octs_many _ _ HL.out] at q
      exact ⟨rfl, q, st0.trans st⟩
set_option maxRecDepth 100000 in
set_option maxHeartbeats 4000000 in
theorem cells_any (p b : Nat) (xs : List Int) (l : List Cel) (A : Option Addr) (n cap : Nat) (w : World) (h : Wri p xs w) (hb : Firm p (fun W => Blk W b 74 #[.pointer (some ⟨p, 0, none⟩)]) w) (hs : Firm p (fun W => SeesC W A n cap l) w) (hn : xs.length + 8 + 80 * n ≤ 900000000000) : Calls Try.prog 51 #[.pointer (some ⟨p, 0, none⟩), .slice A n cap, .func (.func 52) #[] #[.pointer (some ⟨b, 0, none⟩)]] w fun e w' => e = .returned (.tuple #[]) ∧ Wri p (xs ++ octs (many Cel.ns l)) w' ∧ Stays p w w' := by
  have hl := (hs.now).len
  have HL := Lib.hid hl
  have hmx := Sees.most hs.now
  have hrm := Sees.room hs.now
  unfold maxLen at hmx
  have HN := Lib.hid hn
  clear hn hl
  have q := h
  have st : Stays p w w := Stays.refl p w
  have nsl : ∀ x ∈ l, (Cel.ns x).length ≤ 10 := fun x _ => Nat.le_refl 10
  have HB := hb
  obtain ⟨p1, f1⟩ : ∃ p, w.heap.size = p := ⟨_, rfl⟩
  obtain ⟨W1, ea1⟩ : ∃ W, w.alloc (.cells #[.int .i64 (n : Int)] 3) = W := ⟨_, rfl⟩
  have ka1 : Below w.heap.size w W1 := by rw [← ea1]; exact (Below.refl _ w).alloc (Nat.le_refl _) _
  have b1 : Blk W1 p1 3 #[.int .i64 (n : Int)] := by rw [← ea1]; exact blk_new w _ 3 _ f1
  have hq1 : p1 ≠ p := by rw [← f1]; exact Nat.ne_of_gt q.lt
  replace HB := HB.on ka1
  replace q := q.on ka1
  replace st := st.on ka1
  clear ka1
  replace hs := hs.on (show Below w.heap.size w W1 by rw [← ea1]; exact (Below.refl _ _).alloc (Nat.le_refl _) _)
  go_enter Try.func51, Try.ntmps51
  go_wp2_with fail
  refine (numbers_any p _ [(n : Int)] (some ⟨p1, 0, none⟩) 1 1 W1 q (firm_ints (l := [(n : Int)]) b1 hq1 (by simp)) (by have := HN.out; (try simp only [List.length_append, oct8_len, octs_len, many_len, Wd.nlen, Bg.nlen, Ent.nlen, Cel.nlen, List.length_cons, List.length_nil] at this); (try simp only [List.length_append, oct8_len, octs_len, many_len, Wd.nlen, Bg.nlen, Ent.nlen, Cel.nlen, List.length_cons, List.length_nil]); omega)).mono ?_
  rintro e W2 ⟨rfl, q2, k2⟩
  replace b1 := b1.stay k2 (by decide) hq1
  replace hs := hs.stay k2
  replace HB := HB.stay k2
  replace st := st.trans k2
  replace q := q2
  clear k2 q2
  clear b1 hq1
  go_wp2
  have st0 := st
  replace st : Stays p W2 W2 := Stays.refl _ _
  go_loopw [7, 15] (fun _ i wr => ∃ k : Nat, k ≤ n ∧ i = .int .i64 k ∧ Wri p (xs ++ octs [(n : Int)] ++ octs ((l.take k).flatMap Cel.ns)) wr ∧ Stays p W2 wr) (fun _ i _ => n - (intOf i).toNat)
  case atStart => exact ⟨0, Nat.zero_le _, rfl, by rw [List.take_zero, List.flatMap_nil, octs_nil, List.append_nil]; exact q, st⟩
  case round =>
    clear q st
    obtain ⟨k, hk, rfl, q, st⟩ := hrel
    by_cases hlt : k < n
    · obtain ⟨g, o, rfl, c0⟩ := (hs.stay st).now.get hlt
      have HT := Lib.hid (take_get l noC (by rw [HL.out]; exact hlt))
      have hx0 := getD_mem (show k < l.length by rw [HL.out]; exact hlt) noC
      have HX := Lib.hid (nsl _ hx0)
      clear hx0
      have HF := Lib.hid (flat_take nsl k)
      generalize l.getD k noC = x at c0 HT HX
      have hkI : (k : Int) < (n : Int) := by omega
      have hk0 : (0 : Int) ≤ (k : Int) := by omega
      have HBr := HB.stay st
      obtain ⟨bb, fb⟩ : ∃ p, wr.heap.size = p := ⟨_, rfl⟩
      obtain ⟨w1, e1⟩ : ∃ W, wr.alloc (.cells #[.int .i64 0, .int .i64 0, .int .i64 0, .int .i64 0, .int .i64 0, .int .i64 0, .int .i64 0, .int .i64 0, .int .i64 0, .int .i64 0] 72) = W := ⟨_, rfl⟩
      have k1 : Below wr.heap.size wr w1 := by rw [← e1]; exact (Below.refl _ wr).alloc (Nat.le_refl _) _
      have bz : Blk w1 bb 72 #[.int .i64 0, .int .i64 0, .int .i64 0, .int .i64 0, .int .i64 0, .int .i64 0, .int .i64 0, .int .i64 0, .int .i64 0, .int .i64 0] := by rw [← e1]; exact blk_new wr _ 72 _ fb
      obtain ⟨w2, e2⟩ : ∃ W, w1.setRow bb x.cs.toArray = W := ⟨_, rfl⟩
      have bx : Blk w2 bb 72 x.cs.toArray := row_named bz e2
      have k2 : Below wr.heap.size wr w2 := k1.trans (row_below e2 (Nat.le_of_eq fb) k1.size)
      replace q := q.on k2
      replace st := st.on k2
      clear k1
      replace HBr := HBr.on k2
      go_wp2_with (first | ((with_reducible refine at_load 72 (.tmp 17) ?_); refine wpList_mid (by rfl) 72 (.tmp 17) rfl g (o + k * 10) rfl x.cs _ c0 Try.underlying72 rfl size72 ?_) | ((with_reducible refine at_store 72 (.tmp 7) (.tmp 18) ?_); refine wpList_store_row rfl 72 (.tmp 7) (.tmp 18) rfl bb x.cs.toArray rfl rfl 72 #[.int .i64 0, .int .i64 0, .int .i64 0, .int .i64 0, .int .i64 0, .int .i64 0, .int .i64 0, .int .i64 0, .int .i64 0, .int .i64 0] bz (sizeC _) rfl (Cel.onea _) ?_; rw [e2]) | ((with_reducible refine at_load 72 (.tmp 7) ?_); refine wpList_load_row rfl 72 (.tmp 7) rfl bb rfl 72 x.cs.toArray (0, 0) _ bx Try.underlying72 rfl (sizeC _) ?_))
      refine (cell_any p b _ x w2 q HBr (by have := HN.out; have := HF.out; have := HX.out; (try simp only [List.length_append, octs_len, List.length_cons, List.length_nil]); omega)).mono ?_
      rintro e w3 ⟨rfl, q3, k3⟩
      go_wp2
      go_roundw
      case rel => exact ⟨k + 1, by omega, by go_num, by rw [HT.out, ← octs_flat]; exact q3, st.trans k3⟩
      case measure => simp [intOf]; omega
    · have hkI : ¬ (k : Int) < (n : Int) := by omega
      go_wp2
      go_end0
      rw [take_all HL.out hlt] at q
      rw [octs_many _ _ HL.out] at q
      exact ⟨rfl, q, st0.trans st⟩
set_option maxRecDepth 100000 in
set_option maxHeartbeats 4000000 in
theorem ints_any (p b : Nat) (xs : List Int) (l : List Int) (A : Option Addr) (n cap : Nat) (w : World) (h : Wri p xs w) (hb : Firm p (fun W => Blk W b 74 #[.pointer (some ⟨p, 0, none⟩)]) w) (hs : Firm p (fun W => SeesI W A n cap l) w) (hn : xs.length + 8 + 8 * n ≤ 900000000000) : Calls Try.prog 53 #[.pointer (some ⟨p, 0, none⟩), .slice A n cap, .func (.func 54) #[] #[.pointer (some ⟨b, 0, none⟩)]] w fun e w' => e = .returned (.tuple #[]) ∧ Wri p (xs ++ octs (many one l)) w' ∧ Stays p w w' := by
  have hl := (hs.now).len
  have HL := Lib.hid hl
  have hmx := Sees.most hs.now
  have hrm := Sees.room hs.now
  unfold maxLen at hmx
  have HN := Lib.hid hn
  clear hn hl
  have q := h
  have st : Stays p w w := Stays.refl p w
  have nsl : ∀ x ∈ l, (one x).length ≤ 1 := fun x _ => Nat.le_refl 1
  have HB := hb
  obtain ⟨p1, f1⟩ : ∃ p, w.heap.size = p := ⟨_, rfl⟩
  obtain ⟨W1, ea1⟩ : ∃ W, w.alloc (.cells #[.int .i64 (n : Int)] 3) = W := ⟨_, rfl⟩
  have ka1 : Below w.heap.size w W1 := by rw [← ea1]; exact (Below.refl _ w).alloc (Nat.le_refl _) _
  have b1 : Blk W1 p1 3 #[.int .i64 (n : Int)] := by rw [← ea1]; exact blk_new w _ 3 _ f1
  have hq1 : p1 ≠ p := by rw [← f1]; exact Nat.ne_of_gt q.lt
  replace HB := HB.on ka1
  replace q := q.on ka1
  replace st := st.on ka1
  clear ka1
  replace hs := hs.on (show Below w.heap.size w W1 by rw [← ea1]; exact (Below.refl _ _).alloc (Nat.le_refl _) _)
  go_enter Try.func53, Try.ntmps53
  go_wp2_with fail
  refine (numbers_any p _ [(n : Int)] (some ⟨p1, 0, none⟩) 1 1 W1 q (firm_ints (l := [(n : Int)]) b1 hq1 (by simp)) (by have := HN.out; (try simp only [List.length_append, oct8_len, octs_len, many_len, Wd.nlen, Bg.nlen, Ent.nlen, Cel.nlen, List.length_cons, List.length_nil] at this); (try simp only [List.length_append, oct8_len, octs_len, many_len, Wd.nlen, Bg.nlen, Ent.nlen, Cel.nlen, List.length_cons, List.length_nil]); omega)).mono ?_
  rintro e W2 ⟨rfl, q2, k2⟩
  replace b1 := b1.stay k2 (by decide) hq1
  replace hs := hs.stay k2
  replace HB := HB.stay k2
  replace st := st.trans k2
  replace q := q2
  clear k2 q2
  clear b1 hq1
  go_wp2
  have st0 := st
  replace st : Stays p W2 W2 := Stays.refl _ _
  go_loopw [7, 15] (fun _ i wr => ∃ k : Nat, k ≤ n ∧ i = .int .i64 k ∧ Wri p (xs ++ octs [(n : Int)] ++ octs ((l.take k).flatMap one)) wr ∧ Stays p W2 wr) (fun _ i _ => n - (intOf i).toNat)
  case atStart => exact ⟨0, Nat.zero_le _, rfl, by rw [List.take_zero, List.flatMap_nil, octs_nil, List.append_nil]; exact q, st⟩
  case round =>
    clear q st
    obtain ⟨k, hk, rfl, q, st⟩ := hrel
    by_cases hlt : k < n
    · obtain ⟨g, o, rfl, c0⟩ := (hs.stay st).now.get hlt
      have HT := Lib.hid (take_get l 0 (by rw [HL.out]; exact hlt))
      have hx0 := getD_mem (show k < l.length by rw [HL.out]; exact hlt) 0
      have HX := Lib.hid (nsl _ hx0)
      clear hx0
      have HF := Lib.hid (flat_take nsl k)
      generalize l.getD k 0 = x at c0 HT HX
      have hkI : (k : Int) < (n : Int) := by omega
      have hk0 : (0 : Int) ≤ (k : Int) := by omega
      have HBr := HB.stay st
      go_wp2_with fail
      refine (int_any p b _ x wr q HBr (by have := HN.out; have := HF.out; have := HX.out; (try simp only [List.length_append, octs_len, List.length_cons, List.length_nil]); omega)).mono ?_
      rintro e w3 ⟨rfl, q3, k3⟩
      go_wp2
      go_roundw
      case rel => exact ⟨k + 1, by omega, by go_num, by rw [HT.out, ← octs_flat]; exact q3, st.trans k3⟩
      case measure => simp [intOf]; omega
    · have hkI : ¬ (k : Int) < (n : Int) := by omega
      go_wp2
      go_end0
      rw [take_all HL.out hlt] at q
      rw [octs_many _ _ HL.out] at q
      exact ⟨rfl, q, st0.trans st⟩
end Go.Proofs.Ytfmkmmmaoiepmaa
