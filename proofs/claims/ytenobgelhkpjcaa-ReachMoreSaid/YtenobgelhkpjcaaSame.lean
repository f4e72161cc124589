/- Two lists of bools, and of keys, that are the same; a slice cut to eight. Conditions: at most 1000 elements. -/
import Derived.Test.YtenobgelhkpjcaaCompact
import Derived.Test.YtenobgelhkpjcaaRounds
namespace Go.Proofs.Ytenobgelhkpjcaa
open Go.ChangeShapes Go.WideShapes Go.RowKit
set_option maxRecDepth 100000 in
set_option maxHeartbeats 1000000 in
theorem bools_same {w : World} {A A' : Option Addr} {n cap cap' : Nat} {xs : List Bool} (h : Sees w 1 A n cap (bools xs)) (h' : Sees w 1 A' n cap' (bools xs)) (hn : n ≤ 1000) :
    Calls Try.prog 9 #[.slice A n cap, .slice A' n cap'] w fun e w' => e = .returned (.bool true) ∧ Below w.heap.size w w' := by
  have hl : xs.length = n := by
    have := h.len
    unfold bools at this
    rw [flat_len bool_len] at this
    omega
  go_enter Try.func9, Try.ntmps9
  go_wp2_with fail
  go_loopw [5] (fun i wr => ∃ j : Nat, i = .int .i64 j ∧ j ≤ n ∧ Below w.heap.size w wr) (fun i _ => n - (intOf i).toNat)
  case atStart => exact ⟨0, rfl, Nat.zero_le _, Below.refl _ _⟩
  case round =>
    obtain ⟨j, rfl, hj, hb⟩ := hrel
    by_cases hlt : j < n
    · obtain ⟨x, hx⟩ : ∃ x, xs[j]? = some x := ⟨_, List.getElem?_eq_getElem (by omega)⟩
      obtain ⟨g, o, rfl, hr⟩ := sees_at bool_len (h.below hb) hx (by omega)
      obtain ⟨g', o', rfl, hr'⟩ := sees_at bool_len (h'.below hb) hx (by omega)
      have t0 : decide ((j : Int) < (n : Int)) = true := decide_eq_true (by omega)
      have c0 : wr.drew.cell? ⟨g, o + j, none⟩ = some (.bool x) := by have := hr 0 _ rfl; simpa using this
      have c1 : wr.drew.cell? ⟨g', o' + j, none⟩ = some (.bool x) := by have := hr' 0 _ rfl; simpa using this
      have HB := Lib.hid hb
      clear h h' hr hr' hb hx
      go_wp2_with fail
      go_region
      cases x <;> (
        go_wp2
        go_roundw
        case rel => exact ⟨j + 1, by simp, by omega, HB.out.drew⟩
        case measure => simp [intOf]; omega)
    · obtain rfl : j = n := by omega
      have t0 : decide ((j : Int) < (j : Int)) = false := decide_eq_false (by omega)
      go_wp2
      go_ret
      exact ⟨rfl, hb⟩
set_option maxRecDepth 100000 in
set_option maxHeartbeats 1000000 in
theorem keys_same {w : World} {A A' : Option Addr} {n cap cap' : Nat} {C : List Ky} (h : Sees w 3 A n cap (flatK C)) (h' : Sees w 3 A' n cap' (flatK C)) (hn : n ≤ 1000) :
    Calls Try.prog 12 #[.slice A n cap, .slice A' n cap'] w fun e w' => e = .returned (.bool true) ∧ Below w.heap.size w w' := by
  have hl : C.length = n := by
    have := h.len
    unfold flatK at this
    rw [flat_len Ky.len] at this
    omega
  go_enter Try.func12, Try.ntmps12
  go_wp2_with fail
  go_loopw [5] (fun i wr => ∃ j : Nat, i = .int .i64 j ∧ j ≤ n ∧ Below w.heap.size w wr) (fun i _ => n - (intOf i).toNat)
  case atStart => exact ⟨0, rfl, Nat.zero_le _, Below.refl _ _⟩
  case round =>
    obtain ⟨j, rfl, hj, hb⟩ := hrel
    by_cases hlt : j < n
    · obtain ⟨c, hx⟩ : ∃ x, C[j]? = some x := ⟨_, List.getElem?_eq_getElem (by omega)⟩
      obtain ⟨g, o, rfl, hr⟩ := sees_at Ky.len (h.below hb) hx (by omega)
      obtain ⟨g', o', rfl, hr'⟩ := sees_at Ky.len (h'.below hb) hx (by omega)
      have t0 : decide ((j : Int) < (n : Int)) = true := decide_eq_true (by omega)
      have hf0 : wr.drew.rangeAt g (o + j * 3) c.cs ∧ wr.drew.rangeAt g' (o' + j * 3) c.cs := ⟨hr, hr'⟩
      have hne := neq41 c c
      rw [decide_eq_true rfl] at hne
      have HB := Lib.hid hb
      clear h h' hr hr' hb hx
      go_wp2_with fail
      refine wp_region_noPanic ?_
      refine wp_region_held_drew (S := (fun W => W.rangeAt g (o + j * 3) c.cs ∧ W.rangeAt g' (o' + j * 3) c.cs)) (by kernel_rfl) hf0 (fun hHeld => ?_)
      refine wpAnyH_take (i := 0) (oi := ⟨some 17, _, _, _, _, _⟩) (v := ?_) rfl (by kernel_rfl) (by kernel_rfl) (by kernel_rfl) (fun _ _ _ h => h) (Or.inl ⟨by rfl, ?_⟩) (by assumption) ?_
      rotate_left 1
      · (intro W hSw; go_simp <;> with_reducible rfl)
      try simp only [Act.put, List.setIfInBounds_toArray, List.set_cons_zero, List.set_cons_succ]
      refine wpAnyH_take (i := 1) (oi := ⟨some 18, _, _, _, _, _⟩) (v := ?_) rfl (by kernel_rfl) (by kernel_rfl) (by kernel_rfl) (fun _ _ _ h => h) (Or.inl ⟨by rfl, ?_⟩) (by assumption) ?_
      rotate_left 1
      · (intro W hSw; go_simp <;> with_reducible rfl)
      try simp only [Act.put, List.setIfInBounds_toArray, List.set_cons_zero, List.set_cons_succ]
      refine wpAnyH_take (i := 2) (oi := ⟨some 19, _, _, _, _, _⟩) (v := ?_) rfl (by kernel_rfl) (by kernel_rfl) (by kernel_rfl) (fun _ _ _ h => h) (Or.inl ⟨by rfl, ?_⟩) (by assumption) ?_
      rotate_left 1
      · (intro W hSw; go_simp <;> with_reducible rfl)
      try simp only [Act.put, List.setIfInBounds_toArray, List.set_cons_zero, List.set_cons_succ]
      refine wpAnyH_take (i := 3) (oi := ⟨some 20, _, _, _, _, _⟩) (v := .agg (List.toArray (c.cs))) rfl (by kernel_rfl) (by kernel_rfl) (by kernel_rfl) (fun _ _ _ h => h) (yieldsIf_load_mid (by rfl) 41 (.tmp 19) rfl g (o + j * 3) rfl (c.cs) _ (fun W hW => hW.1) Try.underlying41 rfl (load41 c)) (by assumption) ?_
      try simp only [Act.put, List.setIfInBounds_toArray, List.set_cons_zero, List.set_cons_succ]
      refine wpAnyH_take (i := 4) (oi := ⟨some 21, _, _, _, _, _⟩) (v := ?_) rfl (by kernel_rfl) (by kernel_rfl) (by kernel_rfl) (fun _ _ _ h => h) (Or.inl ⟨by rfl, ?_⟩) (by assumption) ?_
      rotate_left 1
      · (intro W hSw; go_simp <;> with_reducible rfl)
      try simp only [Act.put, List.setIfInBounds_toArray, List.set_cons_zero, List.set_cons_succ]
      refine wpAnyH_take (i := 5) (oi := ⟨some 22, _, _, _, _, _⟩) (v := ?_) rfl (by kernel_rfl) (by kernel_rfl) (by kernel_rfl) (fun _ _ _ h => h) (Or.inl ⟨by rfl, ?_⟩) (by assumption) ?_
      rotate_left 1
      · (intro W hSw; go_simp <;> with_reducible rfl)
      try simp only [Act.put, List.setIfInBounds_toArray, List.set_cons_zero, List.set_cons_succ]
      refine wpAnyH_take (i := 6) (oi := ⟨some 23, _, _, _, _, _⟩) (v := ?_) rfl (by kernel_rfl) (by kernel_rfl) (by kernel_rfl) (fun _ _ _ h => h) (Or.inl ⟨by rfl, ?_⟩) (by assumption) ?_
      rotate_left 1
      · (intro W hSw; go_simp <;> with_reducible rfl)
      try simp only [Act.put, List.setIfInBounds_toArray, List.set_cons_zero, List.set_cons_succ]
      refine wpAnyH_take (i := 7) (oi := ⟨some 24, _, _, _, _, _⟩) (v := .agg (List.toArray (c.cs))) rfl (by kernel_rfl) (by kernel_rfl) (by kernel_rfl) (fun _ _ _ h => h) (yieldsIf_load_mid (by rfl) 41 (.tmp 23) rfl g' (o' + j * 3) rfl (c.cs) _ (fun W hW => hW.2) Try.underlying41 rfl (load41 c)) (by assumption) ?_
      try simp only [Act.put, List.setIfInBounds_toArray, List.set_cons_zero, List.set_cons_succ]
      refine wpAnyH_take (i := 8) (oi := ⟨some 25, _, _, _, _, _⟩) (v := ?_) rfl (by kernel_rfl) (by kernel_rfl) (by kernel_rfl) (fun _ _ _ h => h) (Or.inl ⟨by rfl, ?_⟩) (by assumption) ?_
      rotate_left 1
      · (intro W hSw; go_simp <;> with_reducible rfl)
      try simp only [Act.put, List.setIfInBounds_toArray, List.set_cons_zero, List.set_cons_succ]
      refine wpAnyH_done (by kernel_rfl) ?_ _
      refine NoPanic.normal ?_
      go_wp2
      go_roundw
      case rel => exact ⟨j + 1, by simp, by omega, HB.out.drew⟩
      case measure => simp [intOf]; omega
    · obtain rfl : j = n := by omega
      have t0 : decide ((j : Int) < (j : Int)) = false := decide_eq_false (by omega)
      go_wp2
      go_ret
      exact ⟨rfl, hb⟩
/-- The first so many. -/
theorem Sees.first {α : Type} {f : α → List Value} {k : Nat} (hf : ∀ x, (f x).length = k) {w : World} {A : Option Addr} {n cap : Nat} {l : List α} (h : Sees w k A n cap (l.flatMap f)) (m : Nat) (hm : m ≤ n) (hk : 0 < k) : Sees w k A m cap ((l.take m).flatMap f) := by
  have hl : l.length = n := by
    have := h.len
    rw [flat_len hf] at this
    exact Nat.eq_of_mul_eq_mul_right hk this
  refine ⟨by rw [flat_len hf, List.length_take]; congr 1; omega, Nat.le_trans hm h.room, h.most, h.none_, fun ad ha h0 => ?_⟩
  obtain ⟨g, o, e, hg, hr⟩ := h.cell ad ha (by omega)
  refine ⟨g, o, e, hg, fun j v hv => hr j v ?_⟩
  have hj := (List.getElem?_eq_some_iff.1 hv).1
  have e2 : l.flatMap f = (l.take m).flatMap f ++ (l.drop m).flatMap f := by rw [← List.flatMap_append, List.take_append_drop]
  rw [e2, List.getElem?_append_left hj, hv]
theorem under22 : Try.prog.underlying 22 = some (.slice (Try.prog.elem 22)) := by kernel_rfl
theorem sizeE22 (w : World) : (sizeOf (Try.prog.elem 22)).run Try.prog w = .ok 3 w := by kernel_rfl
theorem cut22 (A : Option Addr) (n cap k : Nat) (hc : k ≤ cap) (w : World) :
    (Instr.slice 22 (.slice A n cap) none (some (.int .i64 (k : Int))) none).run Try.prog w = .ok (.slice A k cap) w := by
  rw [run_slice_h w 22 A n cap under22 .i64 _ (by omega) (by omega), sizeE22]
  simp only [Result.andThen, sliced, Int.toNat_natCast, Nat.sub_zero, Nat.zero_mul]
  rcases A with _ | ad
  · split <;> rfl
  · split <;> simp [Addr.add]
theorem under23 : Try.prog.underlying 23 = some (.slice (Try.prog.elem 23)) := by kernel_rfl
theorem sizeE23 (w : World) : (sizeOf (Try.prog.elem 23)).run Try.prog w = .ok 10 w := by kernel_rfl
theorem cut23 (A : Option Addr) (n cap k : Nat) (hc : k ≤ cap) (w : World) :
    (Instr.slice 23 (.slice A n cap) none (some (.int .i64 (k : Int))) none).run Try.prog w = .ok (.slice A k cap) w := by
  rw [run_slice_h w 23 A n cap under23 .i64 _ (by omega) (by omega), sizeE23]
  simp only [Result.andThen, sliced, Int.toNat_natCast, Nat.sub_zero, Nat.zero_mul]
  rcases A with _ | ad
  · split <;> rfl
  · split <;> simp [Addr.add]
theorem few_any {w : World} {A : Option Addr} {n cap : Nat} {l : List Wd} (h : Sees w 3 A n cap (flatW l)) : Calls Try.prog 7 #[.slice A n cap] w fun e w' => ∃ m, e = .returned (.slice A m cap) ∧ m ≤ 8 ∧ Sees w 3 A m cap (flatW (l.take m)) ∧ w = w' := by
  have hroom := h.room
  by_cases h8 : 8 < n
  · have t0 : decide ((8 : Int) < (n : Int)) = true := decide_eq_true (by omega)
    have hs := h.first Wd.len 8 (by omega) (by omega)
    have hsl := cut22 A n cap 8 (by omega)
    clear h
    go_enter Try.func7, Try.ntmps7
    go_wp2
    go_ret
    exact ⟨8, rfl, Nat.le_refl _, hs, rfl⟩
  · have t0 : decide ((8 : Int) < (n : Int)) = false := decide_eq_false (by omega)
    have hs := h.first Wd.len n (Nat.le_refl _) (by omega)
    clear h
    go_enter Try.func7, Try.ntmps7
    go_wp2
    go_ret
    exact ⟨n, rfl, by omega, hs, rfl⟩
theorem some_any {w : World} {A : Option Addr} {n cap : Nat} {l : List Cel} (h : Sees w 10 A n cap (flatC l)) : Calls Try.prog 8 #[.slice A n cap] w fun e w' => ∃ m, e = .returned (.slice A m cap) ∧ m ≤ 8 ∧ Sees w 10 A m cap (flatC (l.take m)) ∧ w = w' := by
  have hroom := h.room
  by_cases h8 : 8 < n
  · have t0 : decide ((8 : Int) < (n : Int)) = true := decide_eq_true (by omega)
    have hs := h.first Cel.len 8 (by omega) (by omega)
    have hsl := cut23 A n cap 8 (by omega)
    clear h
    go_enter Try.func8, Try.ntmps8
    go_wp2
    go_ret
    exact ⟨8, rfl, Nat.le_refl _, hs, rfl⟩
  · have t0 : decide ((8 : Int) < (n : Int)) = false := decide_eq_false (by omega)
    have hs := h.first Cel.len n (Nat.le_refl _) (by omega)
    clear h
    go_enter Try.func8, Try.ntmps8
    go_wp2
    go_ret
    exact ⟨n, rfl, by omega, hs, rfl⟩
end Go.Proofs.Ytenobgelhkpjcaa
