/- Words, and lists of anything, written; what the closures write. Conditions: at most 900000000000 octets. -/
import Derived.Test.YtfmkmmmaoiepmaaWords2
namespace Go.Proofs.Ytfmkmmmaoiepmaa
set_option linter.unusedSimpArgs false
set_option linter.unusedVariables false
open Go.RowKit Go.ChangeShapes Go.WideShapes

theorem hmf : ∀ (fn : Fn) (first cap : Array Value) (w : World), (Instr.makeFunc fn first cap).run Try.prog w = .ok (.func fn first cap) w := fun _ _ _ _ => rfl
theorem octs_many {α : Type} (f : α → List Int) (l : List α) {n : Nat} (hl : l.length = n) (xs : List Int) : xs ++ octs [(n : Int)] ++ octs (l.flatMap f) = xs ++ octs (many f l) := by
  rw [List.append_assoc, ← octs_app, many, hl]
  rfl
theorem flat_le {α : Type} {f : α → List Int} {K : Nat} : ∀ {l : List α}, (∀ x ∈ l, (f x).length ≤ K) → (l.flatMap f).length ≤ K * l.length
  | [], _ => by simp
  | x :: l, h => by
    have h1 := h x (by simp)
    have h2 := flat_le (l := l) fun y hy => h y (by simp [hy])
    rw [List.flatMap_cons, List.length_append, List.length_cons, Nat.mul_add]
    omega
theorem flat_take {α : Type} {f : α → List Int} {K : Nat} {l : List α} (h : ∀ x ∈ l, (f x).length ≤ K) (k : Nat) : ((l.take k).flatMap f).length ≤ K * k := by
  have h1 := flat_le (l := l.take k) fun y hy => h y (List.mem_of_mem_take hy)
  have h2 : (l.take k).length ≤ k := by rw [List.length_take]; omega
  exact Nat.le_trans h1 (Nat.mul_le_mul_left K h2)
theorem getD_mem {α : Type} {l : List α} {k : Nat} (hk : k < l.length) (d : α) : l.getD k d ∈ l := by
  simp [List.getD, List.getElem?_eq_getElem hk]
theorem Wd.nlen (x : Wd) : x.ns.length = 3 := rfl
theorem Bg.nlen (x : Bg) : x.ns.length = 3 := rfl
theorem Ent.nlen (x : Ent) : x.ns.length = 8 := rfl
theorem Cel.nlen (x : Cel) : x.ns.length = 10 := rfl
theorem size67 : (Try.prog.info? 67).map (·.size) = some 8 := by kernel_rfl
theorem size72 : (Try.prog.info? 72).map (·.size) = some 10 := by kernel_rfl
theorem size29 : (Try.prog.info? 29).map (·.size) = some 9 := by kernel_rfl
theorem sizeE (x : Ent) : (Try.prog.info? 67).map (·.size) = some x.cs.toArray.size := size67
theorem sizeC (x : Cel) : (Try.prog.info? 72).map (·.size) = some x.cs.toArray.size := size72
theorem sizeS (x : St) : (Try.prog.info? 29).map (·.size) = some x.cs.toArray.size := size29
theorem Bg.size (x : Bg) : x.cs.toArray.size = 3 := rfl
set_option maxRecDepth 100000 in
set_option maxHeartbeats 4000000 in
theorem words_any (p : Nat) (xs : List Int) (l : List Wd) (A : Option Addr) (n cap : Nat) (w : World) (h : Wri p xs w) (hs : Firm p (fun W => SeesW W A n cap l) w) (hn : xs.length + 24 * n ≤ 900000000000) : Calls Try.prog 41 #[.pointer (some ⟨p, 0, none⟩), .slice A n cap] w fun e w' => e = .returned (.tuple #[]) ∧ Wri p (xs ++ octs (l.flatMap Wd.ns)) w' ∧ Stays p w w' := by
  have hl := (hs.now).len
  have HL := Lib.hid hl
  have hmx := Sees.most hs.now
  have hrm := Sees.room hs.now
  unfold maxLen at hmx
  have HN := Lib.hid hn
  clear hn hl
  have q := h
  have st : Stays p w w := Stays.refl p w
  have nsl : ∀ x ∈ l, (Wd.ns x).length ≤ 3 := fun x _ => Nat.le_refl 3
  go_enter Try.func41, Try.ntmps41
  go_wp2
  go_loopw [5, 8] (fun _ i wr => ∃ k : Nat, k ≤ n ∧ i = .int .i64 k ∧ Wri p (xs ++ octs ((l.take k).flatMap Wd.ns)) wr ∧ Stays p w wr) (fun _ i _ => n - (intOf i).toNat)
  case atStart => exact ⟨0, Nat.zero_le _, rfl, by rw [List.take_zero, List.flatMap_nil, octs_nil, List.append_nil]; exact q, st⟩
  case round =>
    clear q st
    obtain ⟨k, hk, rfl, q, st⟩ := hrel
    by_cases hlt : k < n
    · obtain ⟨g, o, rfl, c0⟩ := (hs.stay st).now.get hlt
      have HT := Lib.hid (take_get l noW (by rw [HL.out]; exact hlt))
      have hx0 := getD_mem (show k < l.length by rw [HL.out]; exact hlt) noW
      have HX := Lib.hid (nsl _ hx0)
      clear hx0
      have HF := Lib.hid (flat_take nsl k)
      generalize l.getD k noW = x at c0 HT HX
      have hkI : (k : Int) < (n : Int) := by omega
      have hk0 : (0 : Int) ≤ (k : Int) := by omega
      obtain ⟨bb, fb⟩ : ∃ p, wr.heap.size = p := ⟨_, rfl⟩
      obtain ⟨w1, e1⟩ : ∃ W, wr.alloc (.cells #[.int .i64 0, .int .i64 0, .int .i64 0] 35) = W := ⟨_, rfl⟩
      have k1 : Below wr.heap.size wr w1 := by rw [← e1]; exact (Below.refl _ wr).alloc (Nat.le_refl _) _
      have bz : Blk w1 bb 35 #[.int .i64 0, .int .i64 0, .int .i64 0] := by rw [← e1]; exact blk_new wr _ 35 _ fb
      obtain ⟨w2, e2⟩ : ∃ W, w1.setRow bb x.cs.toArray = W := ⟨_, rfl⟩
      have bx : Blk w2 bb 35 x.cs.toArray := row_named bz e2
      have k2 : Below wr.heap.size wr w2 := k1.trans (row_below e2 (Nat.le_of_eq fb) k1.size)
      replace q := q.on k2
      replace st := st.on k2
      clear k1
      go_wp2_with (first | ((with_reducible refine at_load 35 (.tmp 10) ?_); refine wpList_mid (by rfl) 35 (.tmp 10) rfl g (o + k * 3) rfl x.cs _ c0 Try.underlying35 rfl size35 ?_) | ((with_reducible refine at_store 35 (.tmp 5) (.tmp 11) ?_); refine wpList_store_row rfl 35 (.tmp 5) (.tmp 11) rfl bb x.cs.toArray rfl rfl 35 #[.int .i64 0, .int .i64 0, .int .i64 0] bz size35 rfl (Wd.onea _) ?_; rw [e2]) | ((with_reducible refine at_load 35 (.tmp 5) ?_); refine wpList_load_row rfl 35 (.tmp 5) rfl bb rfl 35 x.cs.toArray (0, 0) _ bx Try.underlying35 rfl size35 ?_))
      refine (word_any p _ x w2 q (by have := HN.out; have := HF.out; have := HX.out; (try simp only [List.length_append, octs_len, List.length_cons, List.length_nil]); omega)).mono ?_
      rintro e w3 ⟨rfl, q3, k3⟩
      go_wp2
      go_roundw
      case rel => exact ⟨k + 1, by omega, by go_num, by rw [HT.out, ← octs_flat]; exact q3, st.trans k3⟩
      case measure => simp [intOf]; omega
    · have hkI : ¬ (k : Int) < (n : Int) := by omega
      go_wp2
      go_end0
      rw [take_all HL.out hlt] at q
      rw [show l.flatMap Wd.ns = l.flatMap Wd.ns from rfl] at q
      exact ⟨rfl, q, st⟩
set_option maxRecDepth 100000 in
set_option maxHeartbeats 4000000 in
theorem bag_any (p b : Nat) (xs : List Int) (x : Bg) (w : World) (h : Wri p xs w) (hb : Firm p (fun W => Blk W b 74 #[.pointer (some ⟨p, 0, none⟩)]) w) (hn : xs.length + 24 ≤ 900000000000) : Calls Try.prog 45 #[.agg x.cs.toArray, .pointer (some ⟨b, 0, none⟩)] w fun e w' => e = .returned (.tuple #[]) ∧ Wri p (xs ++ octs (x.ns)) w' ∧ Stays p w w' := by
  have q := h
  have HN := Lib.hid hn
  clear hn
  have st : Stays p w w := Stays.refl p w
  have HB := hb
  obtain ⟨p1, f1⟩ : ∃ p, w.heap.size = p := ⟨_, rfl⟩
  obtain ⟨W1, ea1⟩ : ∃ W, w.alloc (.cells x.cs.toArray 62) = W := ⟨_, rfl⟩
  have ka1 : Below w.heap.size w W1 := by rw [← ea1]; exact (Below.refl _ w).alloc (Nat.le_refl _) _
  have b1 : Blk W1 p1 62 x.cs.toArray := by rw [← ea1]; exact blk_new w _ 62 _ f1
  have hq1 : p1 ≠ p := by rw [← f1]; exact Nat.ne_of_gt q.lt
  replace HB := HB.on ka1
  replace q := q.on ka1
  replace st := st.on ka1
  clear ka1
  have cb : W1.cell? ⟨b, 0, none⟩ = some (.pointer (some ⟨p, 0, none⟩)) := HB.now.cell 0
  have c0 : W1.cell? ⟨p1, 0, none⟩ = some (.int .i64 x.c) := b1.cell 0
  have c1 : W1.cell? ⟨p1, 1, none⟩ = some (.int .i64 x.g) := b1.cell 1
  go_enter Try.func45, Try.ntmps45
  obtain ⟨p2, f2⟩ : ∃ p, W1.heap.size = p := ⟨_, rfl⟩
  obtain ⟨W2, ea2⟩ : ∃ W, W1.alloc (.cells #[.int .i64 x.c, .int .i64 x.g] 3) = W := ⟨_, rfl⟩
  have ka2 : Below W1.heap.size W1 W2 := by rw [← ea2]; exact (Below.refl _ W1).alloc (Nat.le_refl _) _
  have b2 : Blk W2 p2 3 #[.int .i64 x.c, .int .i64 x.g] := by rw [← ea2]; exact blk_new W1 _ 3 _ f2
  have hq2 : p2 ≠ p := by rw [← f2]; exact Nat.ne_of_gt q.lt
  replace b1 := b1.on ka2
  replace HB := HB.on ka2
  replace q := q.on ka2
  replace st := st.on ka2
  clear ka2
  go_wp2_with fail
  refine (numbers_any p _ [x.c, x.g] (some ⟨p2, 0, none⟩) 2 2 W2 q (firm_ints (l := [x.c, x.g]) b2 hq2 (by simp)) (by have := HN.out; (try simp only [List.length_append, oct8_len, octs_len, many_len, Wd.nlen, Bg.nlen, Ent.nlen, Cel.nlen, List.length_cons, List.length_nil] at this); (try simp only [List.length_append, oct8_len, octs_len, many_len, Wd.nlen, Bg.nlen, Ent.nlen, Cel.nlen, List.length_cons, List.length_nil]); omega)).mono ?_
  rintro e W3 ⟨rfl, q3, k3⟩
  clear cb c0 c1
  replace b1 := b1.stay k3 (by decide) hq1
  replace b2 := b2.stay k3 (by decide) hq2
  replace HB := HB.stay k3
  replace st := st.trans k3
  replace q := q3
  clear k3 q3
  have cb : W3.cell? ⟨b, 0, none⟩ = some (.pointer (some ⟨p, 0, none⟩)) := HB.now.cell 0
  have c2 : W3.cell? ⟨p1, 2, none⟩ = some (.int .i64 x.n) := b1.cell 2
  go_wp2_with fail
  refine (number_any p _ x.n W3 q (by have := HN.out; (try simp only [List.length_append, oct8_len, octs_len, many_len, Wd.nlen, Bg.nlen, Ent.nlen, Cel.nlen, List.length_cons, List.length_nil] at this); (try simp only [List.length_append, oct8_len, octs_len, many_len, Wd.nlen, Bg.nlen, Ent.nlen, Cel.nlen, List.length_cons, List.length_nil]); omega)).mono ?_
  rintro e W4 ⟨rfl, q4, k4⟩
  clear cb c2
  replace b1 := b1.stay k4 (by decide) hq1
  replace b2 := b2.stay k4 (by decide) hq2
  replace HB := HB.stay k4
  replace st := st.trans k4
  replace q := q4
  clear k4 q4
  go_wp2
  go_end0
  rw [List.append_assoc, ← octs_snoc] at q
  exact ⟨rfl, q, st⟩
set_option maxRecDepth 100000 in
set_option maxHeartbeats 4000000 in
theorem entry_any (p b : Nat) (xs : List Int) (x : Ent) (w : World) (h : Wri p xs w) (hb : Firm p (fun W => Blk W b 74 #[.pointer (some ⟨p, 0, none⟩)]) w) (hn : xs.length + 64 ≤ 900000000000) : Calls Try.prog 48 #[.agg x.cs.toArray, .pointer (some ⟨b, 0, none⟩)] w fun e w' => e = .returned (.tuple #[]) ∧ Wri p (xs ++ octs (x.ns)) w' ∧ Stays p w w' := by
  have q := h
  have HN := Lib.hid hn
  clear hn
  have st : Stays p w w := Stays.refl p w
  have HB := hb
  obtain ⟨p1, f1⟩ : ∃ p, w.heap.size = p := ⟨_, rfl⟩
  obtain ⟨W1, ea1⟩ : ∃ W, w.alloc (.cells x.cs.toArray 67) = W := ⟨_, rfl⟩
  have ka1 : Below w.heap.size w W1 := by rw [← ea1]; exact (Below.refl _ w).alloc (Nat.le_refl _) _
  have b1 : Blk W1 p1 67 x.cs.toArray := by rw [← ea1]; exact blk_new w _ 67 _ f1
  have hq1 : p1 ≠ p := by rw [← f1]; exact Nat.ne_of_gt q.lt
  replace HB := HB.on ka1
  replace q := q.on ka1
  replace st := st.on ka1
  clear ka1
  have cb : W1.cell? ⟨b, 0, none⟩ = some (.pointer (some ⟨p, 0, none⟩)) := HB.now.cell 0
  have c0 : W1.cell? ⟨p1, 0, none⟩ = some (.int .i64 x.k) := b1.cell 0
  have c1 : W1.cell? ⟨p1, 1, none⟩ = some (.int .i64 x.i) := b1.cell 1
  have c2 : W1.cell? ⟨p1, 2, none⟩ = some (.int .i64 x.j) := b1.cell 2
  go_enter Try.func48, Try.ntmps48
  obtain ⟨p2, f2⟩ : ∃ p, W1.heap.size = p := ⟨_, rfl⟩
  obtain ⟨W2, ea2⟩ : ∃ W, W1.alloc (.cells #[.int .i64 x.k, .int .i64 x.i, .int .i64 x.j] 3) = W := ⟨_, rfl⟩
  have ka2 : Below W1.heap.size W1 W2 := by rw [← ea2]; exact (Below.refl _ W1).alloc (Nat.le_refl _) _
  have b2 : Blk W2 p2 3 #[.int .i64 x.k, .int .i64 x.i, .int .i64 x.j] := by rw [← ea2]; exact blk_new W1 _ 3 _ f2
  have hq2 : p2 ≠ p := by rw [← f2]; exact Nat.ne_of_gt q.lt
  replace b1 := b1.on ka2
  replace HB := HB.on ka2
  replace q := q.on ka2
  replace st := st.on ka2
  clear ka2
  go_wp2_with fail
  refine (numbers_any p _ [x.k, x.i, x.j] (some ⟨p2, 0, none⟩) 3 3 W2 q (firm_ints (l := [x.k, x.i, x.j]) b2 hq2 (by simp)) (by have := HN.out; (try simp only [List.length_append, oct8_len, octs_len, many_len, Wd.nlen, Bg.nlen, Ent.nlen, Cel.nlen, List.length_cons, List.length_nil] at this); (try simp only [List.length_append, oct8_len, octs_len, many_len, Wd.nlen, Bg.nlen, Ent.nlen, Cel.nlen, List.length_cons, List.length_nil]); omega)).mono ?_
  rintro e W3 ⟨rfl, q3, k3⟩
  clear cb c0 c1 c2
  replace b1 := b1.stay k3 (by decide) hq1
  replace b2 := b2.stay k3 (by decide) hq2
  replace HB := HB.stay k3
  replace st := st.trans k3
  replace q := q3
  clear k3 q3
  have cb : W3.cell? ⟨b, 0, none⟩ = some (.pointer (some ⟨p, 0, none⟩)) := HB.now.cell 0
  have r1 := range_part b1 3 (Wd.cs ⟨x.n, x.c, x.g⟩) rfl
  go_wp2_with (((with_reducible refine at_load 35 (.tmp 16) ?_); refine wpList_mid (by rfl) 35 (.tmp 16) rfl p1 (3) rfl (Wd.cs ⟨x.n, x.c, x.g⟩) _ r1 Try.underlying35 rfl size35 ?_))
  refine (word_any p _ ⟨x.n, x.c, x.g⟩ W3 q (by have := HN.out; (try simp only [List.length_append, oct8_len, octs_len, many_len, Wd.nlen, Bg.nlen, Ent.nlen, Cel.nlen, List.length_cons, List.length_nil] at this); (try simp only [List.length_append, oct8_len, octs_len, many_len, Wd.nlen, Bg.nlen, Ent.nlen, Cel.nlen, List.length_cons, List.length_nil]); omega)).mono ?_
  rintro e W4 ⟨rfl, q4, k4⟩
  clear cb
  replace b1 := b1.stay k4 (by decide) hq1
  replace b2 := b2.stay k4 (by decide) hq2
  replace HB := HB.stay k4
  replace st := st.trans k4
  replace q := q4
  clear k4 q4
  clear r1
  have cb : W4.cell? ⟨b, 0, none⟩ = some (.pointer (some ⟨p, 0, none⟩)) := HB.now.cell 0
  have c6 : W4.cell? ⟨p1, 6, none⟩ = some (.int .i64 x.gen) := b1.cell 6
  have c7 : W4.cell? ⟨p1, 7, none⟩ = some (.int .i64 x.pc) := b1.cell 7
  obtain ⟨p3, f3⟩ : ∃ p, W4.heap.size = p := ⟨_, rfl⟩
  obtain ⟨W5, ea5⟩ : ∃ W, W4.alloc (.cells #[.int .i64 x.gen, .int .i64 x.pc] 3) = W := ⟨_, rfl⟩
  have ka5 : Below W4.heap.size W4 W5 := by rw [← ea5]; exact (Below.refl _ W4).alloc (Nat.le_refl _) _
  have b3 : Blk W5 p3 3 #[.int .i64 x.gen, .int .i64 x.pc] := by rw [← ea5]; exact blk_new W4 _ 3 _ f3
  have hq3 : p3 ≠ p := by rw [← f3]; exact Nat.ne_of_gt q.lt
  replace b1 := b1.on ka5
  replace b2 := b2.on ka5
  replace HB := HB.on ka5
  replace q := q.on ka5
  replace st := st.on ka5
  clear ka5
  go_wp2_with fail
  refine (numbers_any p _ [x.gen, x.pc] (some ⟨p3, 0, none⟩) 2 2 W5 q (firm_ints (l := [x.gen, x.pc]) b3 hq3 (by simp)) (by have := HN.out; (try simp only [List.length_append, oct8_len, octs_len, many_len, Wd.nlen, Bg.nlen, Ent.nlen, Cel.nlen, List.length_cons, List.length_nil] at this); (try simp only [List.length_append, oct8_len, octs_len, many_len, Wd.nlen, Bg.nlen, Ent.nlen, Cel.nlen, List.length_cons, List.length_nil]); omega)).mono ?_
  rintro e W6 ⟨rfl, q6, k6⟩
  clear cb c6 c7
  replace b1 := b1.stay k6 (by decide) hq1
  replace b2 := b2.stay k6 (by decide) hq2
  replace b3 := b3.stay k6 (by decide) hq3
  replace HB := HB.stay k6
  replace st := st.trans k6
  replace q := q6
  clear k6 q6
  go_wp2
  go_end0
  rw [List.append_assoc, List.append_assoc, ← octs_app, ← octs_app] at q
  exact ⟨rfl, q, st⟩
set_option maxRecDepth 100000 in
set_option maxHeartbeats 4000000 in
theorem int_any (p b : Nat) (xs : List Int) (x : Int) (w : World) (h : Wri p xs w) (hb : Firm p (fun W => Blk W b 74 #[.pointer (some ⟨p, 0, none⟩)]) w) (hn : xs.length + 8 ≤ 900000000000) : Calls Try.prog 54 #[.int .i64 x, .pointer (some ⟨b, 0, none⟩)] w fun e w' => e = .returned (.tuple #[]) ∧ Wri p (xs ++ octs (one x)) w' ∧ Stays p w w' := by
  have q := h
  have HN := Lib.hid hn
  clear hn
  have st : Stays p w w := Stays.refl p w
  have HB := hb
  have cb : w.cell? ⟨b, 0, none⟩ = some (.pointer (some ⟨p, 0, none⟩)) := HB.now.cell 0
  go_enter Try.func54, Try.ntmps54
  obtain ⟨p1, f1⟩ : ∃ p, w.heap.size = p := ⟨_, rfl⟩
  obtain ⟨W1, ea1⟩ : ∃ W, w.alloc (.cells #[.int .i64 x] 3) = W := ⟨_, rfl⟩
  have ka1 : Below w.heap.size w W1 := by rw [← ea1]; exact (Below.refl _ w).alloc (Nat.le_refl _) _
  have b1 : Blk W1 p1 3 #[.int .i64 x] := by rw [← ea1]; exact blk_new w _ 3 _ f1
  have hq1 : p1 ≠ p := by rw [← f1]; exact Nat.ne_of_gt q.lt
  replace HB := HB.on ka1
  replace q := q.on ka1
  replace st := st.on ka1
  clear ka1
  go_wp2_with fail
  refine (numbers_any p _ [x] (some ⟨p1, 0, none⟩) 1 1 W1 q (firm_ints (l := [x]) b1 hq1 (by simp)) (by have := HN.out; (try simp only [List.length_append, oct8_len, octs_len, many_len, Wd.nlen, Bg.nlen, Ent.nlen, Cel.nlen, List.length_cons, List.length_nil] at this); (try simp only [List.length_append, oct8_len, octs_len, many_len, Wd.nlen, Bg.nlen, Ent.nlen, Cel.nlen, List.length_cons, List.length_nil]); omega)).mono ?_
  rintro e W2 ⟨rfl, q2, k2⟩
  clear cb
  replace b1 := b1.stay k2 (by decide) hq1
  replace HB := HB.stay k2
  replace st := st.trans k2
  replace q := q2
  clear k2 q2
  go_wp2
  go_end0
  exact ⟨rfl, q, st⟩
end Go.Proofs.Ytfmkmmmaoiepmaa
