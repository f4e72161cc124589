/- Two lists of cells, and of numbers, that are the same. Conditions: at most 1000 elements. -/
import Derived.Test.YtdilmapcjmdabaaRef
import Derived.Test.YtdilmapcjmdabaaAsk
import Derived.ChangeKeysEq
namespace Go.Proofs.Ytdilmapcjmdabaa
open Go.ChangeShapes Go.WideShapes Go.RowKit
theorem sees_at {α : Type} {f : α → List Value} {k : Nat} (hf : ∀ x, (f x).length = k) {w : World} {A : Option Addr} {n cap : Nat} {l : List α} (h : Sees w k A n cap (l.flatMap f)) {i : Nat} {x : α} (hx : l[i]? = some x) (hk : 0 < k) :
    ∃ g o, A = some ⟨g, o, none⟩ ∧ w.rangeAt g (o + i * k) (f x) := by
  have hi := (List.getElem?_eq_some_iff.1 hx).1
  have hl : l.length = n := by
    have := h.len
    rw [flat_len hf] at this
    exact Nat.eq_of_mul_eq_mul_right hk this
  cases A with
  | none => have := h.none_ rfl; have := h.room; omega
  | some ad =>
    obtain ⟨g, o, rfl, hg, hr⟩ := h.cell ad rfl
    refine ⟨g, o, rfl, fun j v hv => ?_⟩
    have hj : j < k := by
      have := (List.getElem?_eq_some_iff.1 hv).1
      rw [hf] at this
      exact this
    rw [Nat.add_assoc]
    exact hr (i * k + j) v (by rw [flat_get hf l i x hx j hj, hv])
theorem eq24 (d : Nat) (x1 x2 x3 : Int) (w : World) : (Op.equalIn (d + 2) 24 (.agg #[.int .i64 x1, .int .i64 x2, .int .i64 x3]) (.agg #[.int .i64 x1, .int .i64 x2, .int .i64 x3])).run Try.prog w = .ok true w := by
  go_simp
theorem cells24 : Try.prog.cellsOf 24 = 3 := by kernel_rfl
theorem part0 (a b c d e f : Value) (w : World) : (part 24 #[a, b, c, d, e, f] 0).run Try.prog w = .ok (.agg #[a, b, c]) w := by kernel_rfl
theorem part3 (a b c d e f : Value) (w : World) : (part 24 #[a, b, c, d, e, f] 3).run Try.prog w = .ok (.agg #[d, e, f]) w := by kernel_rfl
theorem eq43 (d : Nat) (x1 x2 x3 y1 y2 y3 : Int) (w : World) : (Op.equalIn (d + 3) 43 (.agg #[.int .i64 x1, .int .i64 x2, .int .i64 x3, .int .i64 y1, .int .i64 y2, .int .i64 y3]) (.agg #[.int .i64 x1, .int .i64 x2, .int .i64 x3, .int .i64 y1, .int .i64 y2, .int .i64 y3])).run Try.prog w = .ok true w := by
  obtain ⟨_, hi, _⟩ := Option.map_eq_some_iff.1 size24
  rw [run_equalIn_array w (d + 2) _ _ Try.underlying43 hi, cells24]
  simp only [show List.range 2 = [0, 1] from rfl, Op.eqItems, Sem.run_bind, Nat.zero_mul, part0, Result.andThen_ok, eq24]
  simp [part3, eq24]
theorem neq45 (c : Cel) (w : World) : (binOp BinOp.neq 45 (.agg c.cs.toArray) (.agg c.cs.toArray)).run Try.prog w = .ok (.bool false) w := by
  obtain ⟨s, g, b, p, ⟨x1, x2, x3⟩, ⟨y1, y2, y3⟩⟩ := c
  have h := eq43 9996 x1 x2 x3 y1 y2 y3
  unfold Cel.cs
  go_simp
set_option maxRecDepth 100000 in
set_option maxHeartbeats 1000000 in
theorem ints_same {w : World} {A A' : Option Addr} {n cap cap' : Nat} {xs : List Int} (h : Sees w 1 A n cap (ints xs)) (h' : Sees w 1 A' n cap' (ints xs)) (hn : n ≤ 1000) :
    Calls Try.prog 35 #[.slice A n cap, .slice A' n cap'] w fun e w' => e = .returned (.bool true) ∧ Below w.heap.size w w' := by
  have hl : xs.length = n := by
    have := h.len
    unfold ints at this
    rw [flat_len int_len] at this
    omega
  go_enter Try.func35, Try.ntmps35
  go_wp2_with fail
  go_loopw [5] (fun i wr => ∃ j : Nat, i = .int .i64 j ∧ j ≤ n ∧ Below w.heap.size w wr) (fun i _ => n - (intOf i).toNat)
  case atStart => exact ⟨0, rfl, Nat.zero_le _, Below.refl _ _⟩
  case round =>
    obtain ⟨j, rfl, hj, hb⟩ := hrel
    by_cases hlt : j < n
    · obtain ⟨x, hx⟩ : ∃ x, xs[j]? = some x := ⟨_, List.getElem?_eq_getElem (by omega)⟩
      obtain ⟨g, o, rfl, hr⟩ := sees_at int_len (h.below hb) hx (by omega)
      obtain ⟨g', o', rfl, hr'⟩ := sees_at int_len (h'.below hb) hx (by omega)
      have t0 : decide ((j : Int) < (n : Int)) = true := decide_eq_true (by omega)
      have c0 : wr.drew.cell? ⟨g, o + j, none⟩ = some (.int .i64 x) := by have := hr 0 _ rfl; simpa using this
      have c1 : wr.drew.cell? ⟨g', o' + j, none⟩ = some (.int .i64 x) := by have := hr' 0 _ rfl; simpa using this
      have HB := Lib.hid hb
      clear h h' hr hr' hb hx
      go_wp2_with fail
      go_region
      go_wp2
      go_roundw
      case rel => exact ⟨j + 1, by simp, by omega, HB.out.drew⟩
      case measure => simp [intOf]; omega
    · obtain rfl : j = n := by omega
      have t0 : decide ((j : Int) < (j : Int)) = false := decide_eq_false (by omega)
      go_wp2
      go_ret
      exact ⟨rfl, hb⟩
set_option maxRecDepth 100000 in
set_option maxHeartbeats 1000000 in
theorem cells_same {w : World} {A A' : Option Addr} {n cap cap' : Nat} {C : List Cel} (h : Sees w 10 A n cap (flatC C)) (h' : Sees w 10 A' n cap' (flatC C)) (hn : n ≤ 1000) :
    Calls Try.prog 34 #[.slice A n cap, .slice A' n cap'] w fun e w' => e = .returned (.bool true) ∧ Below w.heap.size w w' := by
  have hl : C.length = n := by
    have := h.len
    unfold flatC at this
    rw [flat_len Cel.len] at this
    omega
  go_enter Try.func34, Try.ntmps34
  go_wp2_with fail
  go_loopw [5] (fun i wr => ∃ j : Nat, i = .int .i64 j ∧ j ≤ n ∧ Below w.heap.size w wr) (fun i _ => n - (intOf i).toNat)
  case atStart => exact ⟨0, rfl, Nat.zero_le _, Below.refl _ _⟩
  case round =>
    obtain ⟨j, rfl, hj, hb⟩ := hrel
    by_cases hlt : j < n
    · obtain ⟨c, hx⟩ : ∃ x, C[j]? = some x := ⟨_, List.getElem?_eq_getElem (by omega)⟩
      obtain ⟨g, o, rfl, hr⟩ := sees_at Cel.len (h.below hb) hx (by omega)
      obtain ⟨g', o', rfl, hr'⟩ := sees_at Cel.len (h'.below hb) hx (by omega)
      have t0 : decide ((j : Int) < (n : Int)) = true := decide_eq_true (by omega)
      have hf0 : wr.drew.rangeAt g (o + j * 10) c.cs ∧ wr.drew.rangeAt g' (o' + j * 10) c.cs := ⟨hr, hr'⟩
      have hne := neq45 c
      have HB := Lib.hid hb
      clear h h' hr hr' hb hx
      go_wp2_with fail
      refine wp_region_noPanic ?_
      refine wp_region_held_drew (S := fun W => W.rangeAt g (o + j * 10) c.cs ∧ W.rangeAt g' (o' + j * 10) c.cs) (by kernel_rfl) hf0 (fun hHeld => ?_)
      refine wpAnyH_take (i := 0) (oi := ⟨some 17, _, _, _, _, _⟩) (v := ?_) rfl (by kernel_rfl) (by kernel_rfl) (by kernel_rfl) (fun _ _ _ h => h) (Or.inl ⟨by rfl, ?_⟩) (by assumption) ?_
      rotate_left 1
      · (intro W hSw; go_simp <;> with_reducible rfl)
      try simp only [Act.put, List.setIfInBounds_toArray, List.set_cons_zero, List.set_cons_succ]
      refine wpAnyH_take (i := 1) (oi := ⟨some 18, _, _, _, _, _⟩) (v := ?_) rfl (by kernel_rfl) (by kernel_rfl) (by kernel_rfl) (fun _ _ _ h => h) (Or.inl ⟨by rfl, ?_⟩) (by assumption) ?_
      rotate_left 1
      · (intro W hSw; go_simp <;> with_reducible rfl)
      try simp only [Act.put, List.setIfInBounds_toArray, List.set_cons_zero, List.set_cons_succ]
      refine wpAnyH_take (i := 2) (oi := ⟨some 19, _, _, _, _, _⟩) (v := ?_) rfl (by kernel_rfl) (by kernel_rfl) (by kernel_rfl) (fun _ _ _ h => h) (Or.inl ⟨by rfl, ?_⟩) (by assumption) ?_
      rotate_left 1
      · (intro W hSw; go_simp <;> with_reducible rfl)
      try simp only [Act.put, List.setIfInBounds_toArray, List.set_cons_zero, List.set_cons_succ]
      refine wpAnyH_take (i := 3) (oi := ⟨some 20, _, _, _, _, _⟩) (v := .agg c.cs.toArray) rfl (by kernel_rfl) (by kernel_rfl) (by kernel_rfl) (fun _ _ _ h => h) (yieldsIf_load_mid (by rfl) 45 (.tmp 19) rfl g (o + j * 10) rfl c.cs _ (fun W hW => hW.1) Try.underlying45 rfl (load45 c)) (by assumption) ?_
      try simp only [Act.put, List.setIfInBounds_toArray, List.set_cons_zero, List.set_cons_succ]
      refine wpAnyH_take (i := 4) (oi := ⟨some 21, _, _, _, _, _⟩) (v := ?_) rfl (by kernel_rfl) (by kernel_rfl) (by kernel_rfl) (fun _ _ _ h => h) (Or.inl ⟨by rfl, ?_⟩) (by assumption) ?_
      rotate_left 1
      · (intro W hSw; go_simp <;> with_reducible rfl)
      try simp only [Act.put, List.setIfInBounds_toArray, List.set_cons_zero, List.set_cons_succ]
      refine wpAnyH_take (i := 5) (oi := ⟨some 22, _, _, _, _, _⟩) (v := ?_) rfl (by kernel_rfl) (by kernel_rfl) (by kernel_rfl) (fun _ _ _ h => h) (Or.inl ⟨by rfl, ?_⟩) (by assumption) ?_
      rotate_left 1
      · (intro W hSw; go_simp <;> with_reducible rfl)
      try simp only [Act.put, List.setIfInBounds_toArray, List.set_cons_zero, List.set_cons_succ]
      refine wpAnyH_take (i := 6) (oi := ⟨some 23, _, _, _, _, _⟩) (v := ?_) rfl (by kernel_rfl) (by kernel_rfl) (by kernel_rfl) (fun _ _ _ h => h) (Or.inl ⟨by rfl, ?_⟩) (by assumption) ?_
      rotate_left 1
      · (intro W hSw; go_simp <;> with_reducible rfl)
      try simp only [Act.put, List.setIfInBounds_toArray, List.set_cons_zero, List.set_cons_succ]
      refine wpAnyH_take (i := 7) (oi := ⟨some 24, _, _, _, _, _⟩) (v := .agg c.cs.toArray) rfl (by kernel_rfl) (by kernel_rfl) (by kernel_rfl) (fun _ _ _ h => h) (yieldsIf_load_mid (by rfl) 45 (.tmp 23) rfl g' (o' + j * 10) rfl c.cs _ (fun W hW => hW.2) Try.underlying45 rfl (load45 c)) (by assumption) ?_
      try simp only [Act.put, List.setIfInBounds_toArray, List.set_cons_zero, List.set_cons_succ]
      refine wpAnyH_take (i := 8) (oi := ⟨some 25, _, _, _, _, _⟩) (v := ?_) rfl (by kernel_rfl) (by kernel_rfl) (by kernel_rfl) (fun _ _ _ h => h) (Or.inl ⟨by rfl, ?_⟩) (by assumption) ?_
      rotate_left 1
      · (intro W hSw; go_simp <;> with_reducible rfl)
      try simp only [Act.put, List.setIfInBounds_toArray, List.set_cons_zero, List.set_cons_succ]
      refine wpAnyH_done (by kernel_rfl) ?_ _
      refine NoPanic.normal ?_
      go_wp2
      go_roundw
      case rel => exact ⟨j + 1, by simp, by omega, HB.out.drew⟩
      case measure => simp [intOf]; omega
    · obtain rfl : j = n := by omega
      have t0 : decide ((j : Int) < (j : Int)) = false := decide_eq_false (by omega)
      go_wp2
      go_ret
      exact ⟨rfl, hb⟩
end Go.Proofs.Ytdilmapcjmdabaa
