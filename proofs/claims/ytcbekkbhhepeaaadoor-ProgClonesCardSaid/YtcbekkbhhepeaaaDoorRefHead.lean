/- The contract of the plain head: a program's first five octets. Conditions: none. -/
import Derived.Test.YtcbekkbhhepeaaaDoorGet
import Derived.StillTailTactics
namespace Go.Proofs.YtcbekkbhhepeaaaDoor
open Go.RowKit
set_option linter.unusedSimpArgs false

/-- A Got as cells. -/
def got (r c s : Int) (A : Option Addr) (n cap : Nat) (a e : Int) : Array Value := #[.int .i64 r, .int .i64 c, .int .i64 s, .slice A n cap, .int .i64 a, .int .i64 e]
theorem info38 : (Tryd.prog.info? 38).map (·.size) = some 6 := by kernel_rfl
theorem got_one (r c s : Int) (A : Option Addr) (n cap : Nat) (a e : Int) : (got r c s A n cap a e).all (·.oneCell') = true := by simp [got, Value.oneCell']
def headP (xs : List Int) : Except (Int × Nat) (Int × Int × Int × Int) :=
  match num1 xs 0 83 83 1 with
  | .error e => .error e
  | .ok _ => match num1 xs 1 0 4 3 with
    | .error e => .error e
    | .ok r => match num1 xs 2 0 6 3 with
      | .error e => .error e
      | .ok c => match num1 xs 3 0 2 3 with
        | .error e => .error e
        | .ok s => match num1 xs 4 1 4 4 with
          | .error e => .error e
          | .ok n => .ok (r, c, s, n)
def Headed (w : World) (p : Except (Int × Nat) (Int × Int × Int × Int)) (e : Ending) (w' : World) : Prop :=
  match p with
  | .ok (r, c, s, _) => e = .returned (.agg (got r c s none 0 0 5 0)) ∧ Below w.heap.size w w'
  | .error err => e = .returned (.agg (got 0 0 0 none 0 0 (err.2 : Int) err.1)) ∧ Below w.heap.size w w'
theorem num1_err {xs : List Int} {i : Nat} {lo hi why : Int} {err : Int × Nat} (h : num1 xs i lo hi why = .error err) : (err = (1, i) ∧ xs.length ≤ i) ∨ ∃ n, xs[i]? = some n ∧ ¬ (lo ≤ n ∧ n ≤ hi) ∧ err = (why, i) := by
  unfold num1 at h
  split at h
  · rename_i hx
    injection h with h
    exact .inl ⟨h.symm, List.getElem?_eq_none_iff.1 hx⟩
  · rename_i n hx
    split at h
    · cases h
    · rename_i hr
      injection h with h
      exact .inr ⟨n, hx, hr, h.symm⟩

theorem headP_0 {xs : List Int} {err : Int × Nat}   (h0 : num1 xs 0 83 83 1 = .error err) : headP xs = .error err := by unfold headP; simp only [h0]
theorem headP_1 {xs : List Int} {err : Int × Nat} {v0 : Int} (h0 : num1 xs 0 83 83 1 = .ok v0) (h1 : num1 xs 1 0 4 3 = .error err) : headP xs = .error err := by unfold headP; simp only [h0, h1]
theorem headP_2 {xs : List Int} {err : Int × Nat} {v0 : Int} {v1 : Int} (h0 : num1 xs 0 83 83 1 = .ok v0) (h1 : num1 xs 1 0 4 3 = .ok v1) (h2 : num1 xs 2 0 6 3 = .error err) : headP xs = .error err := by unfold headP; simp only [h0, h1, h2]
theorem headP_3 {xs : List Int} {err : Int × Nat} {v0 : Int} {v1 : Int} {v2 : Int} (h0 : num1 xs 0 83 83 1 = .ok v0) (h1 : num1 xs 1 0 4 3 = .ok v1) (h2 : num1 xs 2 0 6 3 = .ok v2) (h3 : num1 xs 3 0 2 3 = .error err) : headP xs = .error err := by unfold headP; simp only [h0, h1, h2, h3]
theorem headP_4 {xs : List Int} {err : Int × Nat} {v0 : Int} {v1 : Int} {v2 : Int} {v3 : Int} (h0 : num1 xs 0 83 83 1 = .ok v0) (h1 : num1 xs 1 0 4 3 = .ok v1) (h2 : num1 xs 2 0 6 3 = .ok v2) (h3 : num1 xs 3 0 2 3 = .ok v3) (h4 : num1 xs 4 1 4 4 = .error err) : headP xs = .error err := by unfold headP; simp only [h0, h1, h2, h3, h4]
theorem headP_5 {xs : List Int} {v0 v1 v2 v3 v4 : Int} (h0 : num1 xs 0 83 83 1 = .ok v0) (h1 : num1 xs 1 0 4 3 = .ok v1) (h2 : num1 xs 2 0 6 3 = .ok v2) (h3 : num1 xs 3 0 2 3 = .ok v3) (h4 : num1 xs 4 1 4 4 = .ok v4) : headP xs = .ok (v1, v2, v3, v4) := by unfold headP; simp only [h0, h1, h2, h3, h4]

set_option maxRecDepth 100000 in
set_option maxHeartbeats 4000000 in
theorem head_any {w : World} {A : Option Addr} {n cap : Nat} {xs : List Int} (h : Oct w w.heap.size A n cap xs) :
    Calls Tryd.prog 31 #[.slice A n cap] w (Headed w (headP xs)) := by
  have hlen := Lib.hid h.len
  have hm := len_i64 h.room h.most
  have hsm := Lib.hid h.small
  obtain ⟨W0, eW0⟩ : ∃ W0, W0 = w.alloc (.cells #[.int .i64 0, .int .i64 0, .int .i64 0, .slice none 0 0, .int .i64 0, .int .i64 0] 38) := ⟨_, rfl⟩
  have b0 : Below w.heap.size w W0 := by rw [eW0]; exact (Below.refl _ w).alloc (Nat.le_refl _) _
  have q0 : Blk W0 w.heap.size 38 (got 0 0 0 none 0 0 0 0) := by rw [eW0]; exact heap_alloc_new w _
  have s0 : W0.heap.size = w.heap.size + 1 := by rw [eW0]; simp
  obtain ⟨W1, eW1⟩ : ∃ W1, W1 = W0.alloc (.cells #[.int .i64 83, .int .i64 4, .int .i64 6, .int .i64 2, .int .i64 4] 3) := ⟨_, rfl⟩
  have b1 : Below w.heap.size w W1 := by rw [eW1]; exact b0.alloc b0.size _
  have k1 : Blk W1 (w.heap.size + 1) 3 #[.int .i64 83, .int .i64 4, .int .i64 6, .int .i64 2, .int .i64 4] := by rw [eW1, ← s0]; exact heap_alloc_new W0 _
  have q1 : Blk W1 w.heap.size 38 (got 0 0 0 none 0 0 0 0) := by rw [eW1]; exact q0.below ((Below.refl _ _).alloc (Nat.le_refl _) _) q0.lt
  have hO : Oct W1 w.heap.size A n cap xs := h.below b1
  have m1 : W1.cell? ⟨w.heap.size + 1, 1, none⟩ = some (.int .i64 4) := k1.cell 1
  have m2 : W1.cell? ⟨w.heap.size + 1, 2, none⟩ = some (.int .i64 6) := k1.cell 2
  have m3 : W1.cell? ⟨w.heap.size + 1, 3, none⟩ = some (.int .i64 2) := k1.cell 3
  have HB := Lib.hid b1
  have fin : ∀ (a e : Int), Hid (Below w.heap.size w (W1.setRow w.heap.size (got 0 0 0 none 0 0 a e))) := fun a e => Lib.hid (below_setRow b1 (Nat.le_refl _) _)
  clear s0 k1 b0 q0 h b1
  go_enter Tryd.func31, Tryd.ntmps31
  go_wp2_with fail
  rw [← eW0]
  clear eW0
  go_wp2_with fail
  rw [← eW1]
  clear eW1
  go_wp2_with fail
  refine wp_loop_rounds 6 ?_
  rw [rounds_succ]
  cases h0 : num1 xs 0 83 83 1 with
  | error err =>
    have HE := Lib.hid (headP_0 h0)
    rcases num1_err h0 with ⟨rfl, hl⟩ | ⟨x, hx, hr, rfl⟩
    · have t0 : (n : Int) ≤ 0 := by have := hlen.out; omega
      clear h0 hl
      go_wp2_with (refine wpList_store_row rfl 38 (.tmp 2) (.tmp 16) rfl w.heap.size (got 0 0 0 none 0 0 0 1) rfl rfl 38 (got 0 0 0 none 0 0 0 0) q1 info38 rfl (got_one 0 0 0 none 0 0 0 1) ?_)
      refine bodyPost_ret (results_cell_row (cs := got 0 0 0 none 0 0 0 1) rfl _ _ w.heap.size 38 (0, 0) _ rfl (setRow_heap _ _ _ _ _ _ q1) Tryd.underlying38 rfl info38) rfl ?_
      rw [HE.out]
      exact ⟨rfl, (fin 0 1).out⟩
    · have hjn : 0 < n := by have := (List.getElem?_eq_some_iff.1 hx).1; have := hlen.out; omega
      obtain ⟨ad, rfl⟩ : ∃ ad, A = some ad := by cases A with | none => (have := hO.zero.1; omega) | some ad => exact ⟨ad, rfl⟩
      have t0 : (0 : Int) < (n : Int) := by omega
      have hc := (hO.cell ad rfl 0 hjn).2
      rw [List.getD_eq_getElem?_getD, hx, Option.getD_some] at hc
      rw [show ad.add 0 = ad from rfl] at hc
      have hb := hsm.out.at_ 0
      rw [hx, Option.getD_some] at hb
      obtain ⟨g0, g1⟩ := hb
      have hne : x ≠ 83 := by omega
      clear h0 hx
      clear hr
      go_wp2_with (refine wpList_store_row rfl 38 (.tmp 2) (.tmp 28) rfl w.heap.size (got 0 0 0 none 0 0 0 1) rfl rfl 38 (got 0 0 0 none 0 0 0 0) q1 info38 rfl (got_one 0 0 0 none 0 0 0 1) ?_)
      refine bodyPost_ret (results_cell_row (cs := got 0 0 0 none 0 0 0 1) rfl _ _ w.heap.size 38 (0, 0) _ rfl (setRow_heap _ _ _ _ _ _ q1) Tryd.underlying38 rfl info38) rfl ?_
      rw [HE.out]
      exact ⟨rfl, (fin 0 1).out⟩
  | ok v0 =>
  obtain ⟨lo0, hi0, hx0⟩ := num1_in h0
  have hj0 : 0 < n := by have := (List.getElem?_eq_some_iff.1 hx0).1; have := hlen.out; omega
  obtain ⟨ad, rfl⟩ : ∃ ad, A = some ad := by cases A with | none => (have := hO.zero.1; omega) | some ad => exact ⟨ad, rfl⟩
  obtain rfl : v0 = 83 := by omega
  have t0 : (0 : Int) < (n : Int) := by omega
  have c0 := (hO.cell ad rfl 0 hj0).2
  rw [List.getD_eq_getElem?_getD, hx0, Option.getD_some] at c0
  rw [show ad.add 0 = ad from rfl] at c0
  have H0 := Lib.hid h0
  clear hx0
  go_wp2_with fail
  rw [rounds_succ]
  cases h1 : num1 xs 1 0 4 3 with
  | error err =>
    have HE := Lib.hid (headP_1 h0 h1)
    rcases num1_err h1 with ⟨rfl, hl⟩ | ⟨x, hx, hr, rfl⟩
    · have t0 : (n : Int) ≤ 1 := by have := hlen.out; omega
      clear h0 h1 hl
      go_wp2_with (refine wpList_store_row rfl 38 (.tmp 2) (.tmp 16) rfl w.heap.size (got 0 0 0 none 0 0 1 1) rfl rfl 38 (got 0 0 0 none 0 0 0 0) q1 info38 rfl (got_one 0 0 0 none 0 0 1 1) ?_)
      refine bodyPost_ret (results_cell_row (cs := got 0 0 0 none 0 0 1 1) rfl _ _ w.heap.size 38 (0, 0) _ rfl (setRow_heap _ _ _ _ _ _ q1) Tryd.underlying38 rfl info38) rfl ?_
      rw [HE.out]
      exact ⟨rfl, (fin 1 1).out⟩
    · have hjn : 1 < n := by have := (List.getElem?_eq_some_iff.1 hx).1; have := hlen.out; omega
      have t0 : (1 : Int) < (n : Int) := by omega
      have hc : W1.cell? ⟨ad.block, ad.off + 1, none⟩ = some (.int .u8 (xs.getD 1 0)) := by simpa [Addr.add] using (hO.cell ad rfl 1 hjn).2
      rw [List.getD_eq_getElem?_getD, hx, Option.getD_some] at hc
      have hb := hsm.out.at_ 1
      rw [hx, Option.getD_some] at hb
      obtain ⟨g0, g1⟩ := hb
      have hgt : 4 < x := by omega
      have t1 : decide (((4 : Int)) < x) = true := decide_eq_true hgt
      clear h0 h1 hx
      clear hr
      go_wp2_with (refine wpList_store_row rfl 38 (.tmp 2) (.tmp 44) rfl w.heap.size (got 0 0 0 none 0 0 1 3) rfl rfl 38 (got 0 0 0 none 0 0 0 0) q1 info38 rfl (got_one 0 0 0 none 0 0 1 3) ?_)
      refine bodyPost_ret (results_cell_row (cs := got 0 0 0 none 0 0 1 3) rfl _ _ w.heap.size 38 (0, 0) _ rfl (setRow_heap _ _ _ _ _ _ q1) Tryd.underlying38 rfl info38) rfl ?_
      rw [HE.out]
      exact ⟨rfl, (fin 1 3).out⟩
  | ok v1 =>
  obtain ⟨lo1, hi1, hx1⟩ := num1_in h1
  have hj1 : 1 < n := by have := (List.getElem?_eq_some_iff.1 hx1).1; have := hlen.out; omega
  have t1 : (1 : Int) < (n : Int) := by omega
  have c1 : W1.cell? ⟨ad.block, ad.off + 1, none⟩ = some (.int .u8 (xs.getD 1 0)) := by simpa [Addr.add] using (hO.cell ad rfl 1 hj1).2
  rw [List.getD_eq_getElem?_getD, hx1, Option.getD_some] at c1
  have u1 : decide ((4 : Int) < v1) = false := decide_eq_false (by omega)
  have H1 := Lib.hid h1
  clear hx1
  go_wp2_with fail
  rw [rounds_succ]
  cases h2 : num1 xs 2 0 6 3 with
  | error err =>
    have HE := Lib.hid (headP_2 h0 h1 h2)
    rcases num1_err h2 with ⟨rfl, hl⟩ | ⟨x, hx, hr, rfl⟩
    · have t0 : (n : Int) ≤ 2 := by have := hlen.out; omega
      clear h0 h1 h2 hl
      go_wp2_with (refine wpList_store_row rfl 38 (.tmp 2) (.tmp 16) rfl w.heap.size (got 0 0 0 none 0 0 2 1) rfl rfl 38 (got 0 0 0 none 0 0 0 0) q1 info38 rfl (got_one 0 0 0 none 0 0 2 1) ?_)
      refine bodyPost_ret (results_cell_row (cs := got 0 0 0 none 0 0 2 1) rfl _ _ w.heap.size 38 (0, 0) _ rfl (setRow_heap _ _ _ _ _ _ q1) Tryd.underlying38 rfl info38) rfl ?_
      rw [HE.out]
      exact ⟨rfl, (fin 2 1).out⟩
    · have hjn : 2 < n := by have := (List.getElem?_eq_some_iff.1 hx).1; have := hlen.out; omega
      have t0 : (2 : Int) < (n : Int) := by omega
      have hc : W1.cell? ⟨ad.block, ad.off + 2, none⟩ = some (.int .u8 (xs.getD 2 0)) := by simpa [Addr.add] using (hO.cell ad rfl 2 hjn).2
      rw [List.getD_eq_getElem?_getD, hx, Option.getD_some] at hc
      have hb := hsm.out.at_ 2
      rw [hx, Option.getD_some] at hb
      obtain ⟨g0, g1⟩ := hb
      have hgt : 6 < x := by omega
      have t1 : decide (((6 : Int)) < x) = true := decide_eq_true hgt
      clear h0 h1 h2 hx
      clear hr
      go_wp2_with (refine wpList_store_row rfl 38 (.tmp 2) (.tmp 44) rfl w.heap.size (got 0 0 0 none 0 0 2 3) rfl rfl 38 (got 0 0 0 none 0 0 0 0) q1 info38 rfl (got_one 0 0 0 none 0 0 2 3) ?_)
      refine bodyPost_ret (results_cell_row (cs := got 0 0 0 none 0 0 2 3) rfl _ _ w.heap.size 38 (0, 0) _ rfl (setRow_heap _ _ _ _ _ _ q1) Tryd.underlying38 rfl info38) rfl ?_
      rw [HE.out]
      exact ⟨rfl, (fin 2 3).out⟩
  | ok v2 =>
  obtain ⟨lo2, hi2, hx2⟩ := num1_in h2
  have hj2 : 2 < n := by have := (List.getElem?_eq_some_iff.1 hx2).1; have := hlen.out; omega
  have t2 : (2 : Int) < (n : Int) := by omega
  have c2 : W1.cell? ⟨ad.block, ad.off + 2, none⟩ = some (.int .u8 (xs.getD 2 0)) := by simpa [Addr.add] using (hO.cell ad rfl 2 hj2).2
  rw [List.getD_eq_getElem?_getD, hx2, Option.getD_some] at c2
  have u2 : decide ((6 : Int) < v2) = false := decide_eq_false (by omega)
  have H2 := Lib.hid h2
  clear hx2
  go_wp2_with fail
  rw [rounds_succ]
  cases h3 : num1 xs 3 0 2 3 with
  | error err =>
    have HE := Lib.hid (headP_3 h0 h1 h2 h3)
    rcases num1_err h3 with ⟨rfl, hl⟩ | ⟨x, hx, hr, rfl⟩
    · have t0 : (n : Int) ≤ 3 := by have := hlen.out; omega
      clear h0 h1 h2 h3 hl
      go_wp2_with (refine wpList_store_row rfl 38 (.tmp 2) (.tmp 16) rfl w.heap.size (got 0 0 0 none 0 0 3 1) rfl rfl 38 (got 0 0 0 none 0 0 0 0) q1 info38 rfl (got_one 0 0 0 none 0 0 3 1) ?_)
      refine bodyPost_ret (results_cell_row (cs := got 0 0 0 none 0 0 3 1) rfl _ _ w.heap.size 38 (0, 0) _ rfl (setRow_heap _ _ _ _ _ _ q1) Tryd.underlying38 rfl info38) rfl ?_
      rw [HE.out]
      exact ⟨rfl, (fin 3 1).out⟩
    · have hjn : 3 < n := by have := (List.getElem?_eq_some_iff.1 hx).1; have := hlen.out; omega
      have t0 : (3 : Int) < (n : Int) := by omega
      have hc : W1.cell? ⟨ad.block, ad.off + 3, none⟩ = some (.int .u8 (xs.getD 3 0)) := by simpa [Addr.add] using (hO.cell ad rfl 3 hjn).2
      rw [List.getD_eq_getElem?_getD, hx, Option.getD_some] at hc
      have hb := hsm.out.at_ 3
      rw [hx, Option.getD_some] at hb
      obtain ⟨g0, g1⟩ := hb
      have hgt : 2 < x := by omega
      have t1 : decide (((2 : Int)) < x) = true := decide_eq_true hgt
      clear h0 h1 h2 h3 hx
      clear hr
      go_wp2_with (refine wpList_store_row rfl 38 (.tmp 2) (.tmp 44) rfl w.heap.size (got 0 0 0 none 0 0 3 3) rfl rfl 38 (got 0 0 0 none 0 0 0 0) q1 info38 rfl (got_one 0 0 0 none 0 0 3 3) ?_)
      refine bodyPost_ret (results_cell_row (cs := got 0 0 0 none 0 0 3 3) rfl _ _ w.heap.size 38 (0, 0) _ rfl (setRow_heap _ _ _ _ _ _ q1) Tryd.underlying38 rfl info38) rfl ?_
      rw [HE.out]
      exact ⟨rfl, (fin 3 3).out⟩
  | ok v3 =>
  obtain ⟨lo3, hi3, hx3⟩ := num1_in h3
  have hj3 : 3 < n := by have := (List.getElem?_eq_some_iff.1 hx3).1; have := hlen.out; omega
  have t3 : (3 : Int) < (n : Int) := by omega
  have c3 : W1.cell? ⟨ad.block, ad.off + 3, none⟩ = some (.int .u8 (xs.getD 3 0)) := by simpa [Addr.add] using (hO.cell ad rfl 3 hj3).2
  rw [List.getD_eq_getElem?_getD, hx3, Option.getD_some] at c3
  have u3 : decide ((2 : Int) < v3) = false := decide_eq_false (by omega)
  have H3 := Lib.hid h3
  clear hx3
  go_wp2_with fail
  rw [rounds_succ]
  cases h4 : num1 xs 4 1 4 4 with
  | error err =>
    have HE := Lib.hid (headP_4 h0 h1 h2 h3 h4)
    rcases num1_err h4 with ⟨rfl, hl⟩ | ⟨x, hx, hr, rfl⟩
    · have t0 : (n : Int) ≤ 4 := by have := hlen.out; omega
      clear h0 h1 h2 h3 h4 hl
      go_wp2_with (refine wpList_store_row rfl 38 (.tmp 2) (.tmp 16) rfl w.heap.size (got 0 0 0 none 0 0 4 1) rfl rfl 38 (got 0 0 0 none 0 0 0 0) q1 info38 rfl (got_one 0 0 0 none 0 0 4 1) ?_)
      refine bodyPost_ret (results_cell_row (cs := got 0 0 0 none 0 0 4 1) rfl _ _ w.heap.size 38 (0, 0) _ rfl (setRow_heap _ _ _ _ _ _ q1) Tryd.underlying38 rfl info38) rfl ?_
      rw [HE.out]
      exact ⟨rfl, (fin 4 1).out⟩
    · have hjn : 4 < n := by have := (List.getElem?_eq_some_iff.1 hx).1; have := hlen.out; omega
      have t0 : (4 : Int) < (n : Int) := by omega
      have hc : W1.cell? ⟨ad.block, ad.off + 4, none⟩ = some (.int .u8 (xs.getD 4 0)) := by simpa [Addr.add] using (hO.cell ad rfl 4 hjn).2
      rw [List.getD_eq_getElem?_getD, hx, Option.getD_some] at hc
      have hb := hsm.out.at_ 4
      rw [hx, Option.getD_some] at hb
      obtain ⟨g0, g1⟩ := hb
      clear h0 h1 h2 h3 h4 hx
      rcases (by omega : x = 0 ∨ 4 < x) with rfl | hx4
      · clear hr
        go_wp2_with (refine wpList_store_row rfl 38 (.tmp 2) (.tmp 55) rfl w.heap.size (got 0 0 0 none 0 0 4 4) rfl rfl 38 (got 0 0 0 none 0 0 0 0) q1 info38 rfl (got_one 0 0 0 none 0 0 4 4) ?_)
        refine bodyPost_ret (results_cell_row (cs := got 0 0 0 none 0 0 4 4) rfl _ _ w.heap.size 38 (0, 0) _ rfl (setRow_heap _ _ _ _ _ _ q1) Tryd.underlying38 rfl info38) rfl ?_
        rw [HE.out]
        exact ⟨rfl, (fin 4 4).out⟩
      · have t1 : decide ((4 : Int) < x) = true := decide_eq_true hx4
        clear hr
        go_wp2_with (refine wpList_store_row rfl 38 (.tmp 2) (.tmp 55) rfl w.heap.size (got 0 0 0 none 0 0 4 4) rfl rfl 38 (got 0 0 0 none 0 0 0 0) q1 info38 rfl (got_one 0 0 0 none 0 0 4 4) ?_)
        refine bodyPost_ret (results_cell_row (cs := got 0 0 0 none 0 0 4 4) rfl _ _ w.heap.size 38 (0, 0) _ rfl (setRow_heap _ _ _ _ _ _ q1) Tryd.underlying38 rfl info38) rfl ?_
        rw [HE.out]
        exact ⟨rfl, (fin 4 4).out⟩
  | ok v4 =>
  obtain ⟨lo4, hi4, hx4⟩ := num1_in h4
  have hj4 : 4 < n := by have := (List.getElem?_eq_some_iff.1 hx4).1; have := hlen.out; omega
  have t4 : (4 : Int) < (n : Int) := by omega
  have c4 : W1.cell? ⟨ad.block, ad.off + 4, none⟩ = some (.int .u8 (xs.getD 4 0)) := by simpa [Addr.add] using (hO.cell ad rfl 4 hj4).2
  rw [List.getD_eq_getElem?_getD, hx4, Option.getD_some] at c4
  have u4 : decide ((4 : Int) < v4) = false := decide_eq_false (by omega)
  have u5 : (v4 == 0) = false := by simp; omega
  have H4 := Lib.hid h4
  clear hx4
  go_wp2_with fail
  rw [rounds_succ]
  go_wp2_with fail
  have HE := Lib.hid (headP_5 h0 h1 h2 h3 h4)
  have c1' : W1.drew.cell? ⟨ad.block, ad.off + 1, none⟩ = some (.int .u8 v1) := c1
  have c2' : W1.drew.cell? ⟨ad.block, ad.off + 2, none⟩ = some (.int .u8 v2) := c2
  have c3' : W1.drew.cell? ⟨ad.block, ad.off + 3, none⟩ = some (.int .u8 v3) := c3
  have q1' : Blk W1.drew w.heap.size 38 (got 0 0 0 none 0 0 0 0) := q1
  have fin' : Hid (Below w.heap.size w (W1.drew.setRow w.heap.size (got v1 v2 v3 none 0 0 5 0))) := Lib.hid (below_setRow (HB.out.drew) (Nat.le_refl _) _)
  clear h0 h1 h2 h3 h4 H0 H1 H2 H3 H4 m1 m2 m3 c0 c4 hO fin
  refine wp_region_still_tail 14 (by kernel_rfl) (by kernel_rfl) ?_
  simp only [List.take_succ_cons, List.take_zero, List.drop_succ_cons, List.drop_zero]
  change wpStill _ _ W1.drew (fun a' => wpList _ _ _ _ a' W1.drew) _ _
  clear c1 c2 c3 q1 HB
  generalize W1.drew = v0 at *
  have x1 : IntKind.i64.wrap v1 = v1 := IntWalk.i64_in v1 (by omega)
  have x2 : IntKind.i64.wrap v2 = v2 := IntWalk.i64_in v2 (by omega)
  have x3 : IntKind.i64.wrap v3 = v3 := IntWalk.i64_in v3 (by omega)
  repeat still_step
  try refine wpStill_nil ?_
  refine wpList_store_row rfl 38 (.tmp 2) (.tmp 69) rfl w.heap.size (got v1 v2 v3 none 0 0 5 0) rfl rfl 38 (got 0 0 0 none 0 0 0 0) q1' info38 rfl (got_one v1 v2 v3 none 0 0 5 0) ?_
  go_wp2_with fail
  refine bodyPost_ret (results_cell_row (cs := got v1 v2 v3 none 0 0 5 0) rfl _ _ w.heap.size 38 (0, 0) _ rfl (setRow_heap _ _ _ _ _ _ q1') Tryd.underlying38 rfl info38) rfl ?_
  rw [HE.out]
  exact ⟨rfl, fin'.out⟩
end Go.Proofs.YtcbekkbhhepeaaaDoor
