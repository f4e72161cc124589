/- Contracts of a source's octet and number: what is read, or the panic that tells where, and what, is wrong. Conditions: at most 2000 octets. -/
import Derived.Test.YtcbekkbhhepeaaaDoorClones
import Derived.WalkLawsBesides
namespace Go.Proofs.YtcbekkbhhepeaaaDoor
open Go.RowKit

/-- What is wrong, and where, as a value. -/
def fault (err : Int × Nat) : Value := .iface 59 (.agg #[.int .i64 (err.2 : Int), .int .i64 err.1])
/-- The call ends by a panic with the fault; the reader in block g may have moved. -/
def Fails (err : Int × Nat) (g : Nat) (w : World) (e : Ending) (w' : World) : Prop := e = .panicked [{ v := fault err, recovered := false }] ∧ w.grownBy w' (some g)
theorem grown_alloc (w : World) (o : Obj) (r : Option Nat) : w.grownBy (w.alloc o) r :=
  ⟨rfl, rfl, rfl, by simp, fun k hk _ => heap_alloc_old w o hk⟩
theorem at_any {w : World} {g : Nat} {xs : List Int} {a : Nat} {good : Bool} (h : Rd w g xs a good) : Calls Tryd.prog 30 #[.pointer (some ⟨g, 0, none⟩)] w fun e w' => e = .returned (.int .i64 (a : Int)) ∧ w = w' := by
  obtain ⟨⟨A, cap, hk, ho⟩, hm, hl⟩ := h
  have c1 : w.cell? ⟨g, 1, none⟩ = some (.int .i64 (a : Int)) := hk.cell 1
  go_enter Tryd.func30, Tryd.ntmps30
  go_wp2
  go_ret
  exact ⟨rfl, rfl⟩
theorem val_one {xs : List Int} {a : Nat} {x : Int} (hx : xs[a]? = some x) (hs : Small xs) : wrap64 (val ((xs.drop a).take 1)) = x := by
  obtain ⟨ha, rfl⟩ := List.getElem?_eq_some_iff.1 hx
  have hb := hs _ (List.getElem_mem ha)
  rw [List.drop_eq_getElem_cons ha, List.take_succ_cons, List.take_zero]
  generalize xs[a] = x at hb
  simp only [val, List.foldl_cons, List.foldl_nil]
  unfold wrap64
  omega
theorem Rd.small {w : World} {g : Nat} {xs : List Int} {a : Nat} {good : Bool} (h : Rd w g xs a good) : Small xs := h.ex.choose_spec.choose_spec.2.small

set_option maxRecDepth 100000 in
theorem octet_yes {w : World} {g : Nat} {xs : List Int} {a : Nat} {x : Int} (h : Rd w g xs a true) (hx : xs[a]? = some x) :
    Calls Tryd.prog 53 #[.agg #[.pointer (some ⟨g, 0, none⟩)]] w fun e w' => e = .returned (.int .i64 x) ∧ Rd w' g xs (a + 1) true ∧ w.grownBy w' (some g) := by
  have ha := (List.getElem?_eq_some_iff.1 hx).1
  obtain ⟨W0, eW0⟩ : ∃ W0, W0 = w.alloc (.cells #[.pointer (some ⟨g, 0, none⟩)] 57) := ⟨_, rfl⟩
  have b0 : Below w.heap.size w W0 := by rw [eW0]; exact (Below.refl _ w).alloc (Nat.le_refl _) _
  have g0 : w.grownBy W0 (some g) := by rw [eW0]; exact grown_alloc w _ _
  have c0 : W0.cell? ⟨w.heap.size, 0, none⟩ = some (.pointer (some ⟨g, 0, none⟩)) := by rw [eW0]; exact Blk.cell (heap_alloc_new w _) 0
  have hN := num_yes (h.below b0 h.lt) (k := 1) (by omega) (by omega) (by omega)
  rw [val_one hx h.small] at hN
  go_enter Tryd.func53, Tryd.ntmps53
  go_wp2_with fail
  rw [← eW0]
  clear eW0
  go_wp2_with fail
  refine hN.mono ?_
  rintro e w1 ⟨rfl, hr1, hg1⟩
  have HQ := Lib.hid (And.intro hr1 (grown_trans g0 hg1))
  clear hr1 hg1 g0 hN
  go_wp2
  go_ret
  exact ⟨rfl, HQ.out.1, HQ.out.2⟩
set_option maxRecDepth 100000 in
theorem octet_no {w : World} {g : Nat} {xs : List Int} {a : Nat} (h : Rd w g xs a true) (ha : xs.length = a) :
    Calls Tryd.prog 53 #[.agg #[.pointer (some ⟨g, 0, none⟩)]] w (Fails (1, a) g w) := by
  obtain ⟨W0, eW0⟩ : ∃ W0, W0 = w.alloc (.cells #[.pointer (some ⟨g, 0, none⟩)] 57) := ⟨_, rfl⟩
  have b0 : Below w.heap.size w W0 := by rw [eW0]; exact (Below.refl _ w).alloc (Nat.le_refl _) _
  have g0 : w.grownBy W0 (some g) := by rw [eW0]; exact grown_alloc w _ _
  have c0 : W0.cell? ⟨w.heap.size, 0, none⟩ = some (.pointer (some ⟨g, 0, none⟩)) := by rw [eW0]; exact Blk.cell (heap_alloc_new w _) 0
  have hlt := h.lt
  have hN := num_no (k := 1) (h.below b0 h.lt) (.inr (.inr (.inr (by omega))))
  go_enter Tryd.func53, Tryd.ntmps53
  go_wp2_with fail
  rw [← eW0]
  clear eW0
  go_wp2_with fail
  refine hN.mono ?_
  rintro e w1 ⟨rfl, hr1, hg1⟩
  have c1 : w1.cell? ⟨w.heap.size, 0, none⟩ = some (.pointer (some ⟨g, 0, none⟩)) := (cell_same (hg1.block _ (World.block_lt_of_cell? _ _ c0) (by intro e; simp at e; omega)) 0).trans c0
  have hA := at_any hr1
  have HQ := Lib.hid (grown_trans g0 hg1)
  clear hr1 hg1 g0 hN c0
  go_wp2_with fail
  refine hA.mono ?_
  rintro e w' ⟨rfl, rfl⟩
  go_wp2
  exact ⟨rfl, rfl, HQ.out⟩

/-- A number of one octet, from lo to hi; else what is wrong, and where. -/
def num1 (xs : List Int) (i : Nat) (lo hi why : Int) : Except (Int × Nat) Int :=
  match xs[i]? with
  | none => .error (1, i)
  | some n => if lo ≤ n ∧ n ≤ hi then .ok n else .error (why, i)
def Nums (xs : List Int) (g a : Nat) (w : World) (r : Except (Int × Nat) Int) (e : Ending) (w' : World) : Prop :=
  match r with
  | .ok n => e = .returned (.int .i64 n) ∧ Rd w' g xs (a + 1) true ∧ w.grownBy w' (some g)
  | .error err => Fails err g w e w'

set_option maxRecDepth 100000 in
theorem number_out {w : World} {g : Nat} {xs : List Int} {a : Nat} (lo hi why : Int) (h : Rd w g xs a true) (ha : xs.length = a) :
    Calls Tryd.prog 42 #[.agg #[.pointer (some ⟨g, 0, none⟩)], .int .i64 lo, .int .i64 hi, .int .i64 why] w (Fails (1, a) g w) := by
  obtain ⟨W0, eW0⟩ : ∃ W0, W0 = w.alloc (.cells #[.pointer (some ⟨g, 0, none⟩)] 57) := ⟨_, rfl⟩
  have b0 : Below w.heap.size w W0 := by rw [eW0]; exact (Below.refl _ w).alloc (Nat.le_refl _) _
  have g0 : w.grownBy W0 (some g) := by rw [eW0]; exact grown_alloc w _ _
  have c0 : W0.cell? ⟨w.heap.size, 0, none⟩ = some (.pointer (some ⟨g, 0, none⟩)) := by rw [eW0]; exact Blk.cell (heap_alloc_new w _) 0
  have hA := at_any (h.below b0 h.lt)
  have hO := octet_no (h.below b0 h.lt) ha
  go_enter Tryd.func42, Tryd.ntmps42
  go_wp2_with fail
  rw [← eW0]
  clear eW0
  go_wp2_with fail
  refine hA.mono ?_
  rintro e w' ⟨rfl, rfl⟩
  clear hA
  go_wp2_with fail
  refine hO.mono ?_
  rintro e w1 ⟨rfl, hg1⟩
  have HQ := Lib.hid (grown_trans g0 hg1)
  clear hg1 g0 hO c0
  go_wp2
  exact ⟨rfl, rfl, HQ.out⟩
set_option maxRecDepth 100000 in
theorem number_ok {w : World} {g : Nat} {xs : List Int} {a : Nat} {x lo hi : Int} (why : Int) (h : Rd w g xs a true) (hx : xs[a]? = some x) (hr : lo ≤ x ∧ x ≤ hi) :
    Calls Tryd.prog 42 #[.agg #[.pointer (some ⟨g, 0, none⟩)], .int .i64 lo, .int .i64 hi, .int .i64 why] w fun e w' => e = .returned (.int .i64 x) ∧ Rd w' g xs (a + 1) true ∧ w.grownBy w' (some g) := by
  obtain ⟨W0, eW0⟩ : ∃ W0, W0 = w.alloc (.cells #[.pointer (some ⟨g, 0, none⟩)] 57) := ⟨_, rfl⟩
  have b0 : Below w.heap.size w W0 := by rw [eW0]; exact (Below.refl _ w).alloc (Nat.le_refl _) _
  have g0 : w.grownBy W0 (some g) := by rw [eW0]; exact grown_alloc w _ _
  have c0 : W0.cell? ⟨w.heap.size, 0, none⟩ = some (.pointer (some ⟨g, 0, none⟩)) := by rw [eW0]; exact Blk.cell (heap_alloc_new w _) 0
  have hA := at_any (h.below b0 h.lt)
  have hO := octet_yes (h.below b0 h.lt) hx
  have hI := in_any x lo hi
  rw [decide_eq_true hr] at hI
  clear hr
  go_enter Tryd.func42, Tryd.ntmps42
  go_wp2_with fail
  rw [← eW0]
  clear eW0
  go_wp2_with fail
  refine hA.mono ?_
  rintro e w' ⟨rfl, rfl⟩
  clear hA
  go_wp2_with fail
  refine hO.mono ?_
  rintro e w1 ⟨rfl, hr1, hg1⟩
  have HQ := Lib.hid (And.intro hr1 (grown_trans g0 hg1))
  clear hg1 g0 hO c0 hr1
  go_wp2_with fail
  refine (hI _).mono ?_
  rintro e w' ⟨rfl, rfl⟩
  go_wp2
  go_ret
  exact ⟨rfl, HQ.out.1, HQ.out.2⟩
set_option maxRecDepth 100000 in
theorem number_bad {w : World} {g : Nat} {xs : List Int} {a : Nat} {x lo hi : Int} (why : Int) (h : Rd w g xs a true) (hx : xs[a]? = some x) (hr : ¬ (lo ≤ x ∧ x ≤ hi)) :
    Calls Tryd.prog 42 #[.agg #[.pointer (some ⟨g, 0, none⟩)], .int .i64 lo, .int .i64 hi, .int .i64 why] w (Fails (why, a) g w) := by
  obtain ⟨W0, eW0⟩ : ∃ W0, W0 = w.alloc (.cells #[.pointer (some ⟨g, 0, none⟩)] 57) := ⟨_, rfl⟩
  have b0 : Below w.heap.size w W0 := by rw [eW0]; exact (Below.refl _ w).alloc (Nat.le_refl _) _
  have g0 : w.grownBy W0 (some g) := by rw [eW0]; exact grown_alloc w _ _
  have c0 : W0.cell? ⟨w.heap.size, 0, none⟩ = some (.pointer (some ⟨g, 0, none⟩)) := by rw [eW0]; exact Blk.cell (heap_alloc_new w _) 0
  have hA := at_any (h.below b0 h.lt)
  have hO := octet_yes (h.below b0 h.lt) hx
  have hI := in_any x lo hi
  rw [decide_eq_false hr] at hI
  clear hr
  go_enter Tryd.func42, Tryd.ntmps42
  go_wp2_with fail
  rw [← eW0]
  clear eW0
  go_wp2_with fail
  refine hA.mono ?_
  rintro e w' ⟨rfl, rfl⟩
  clear hA
  go_wp2_with fail
  refine hO.mono ?_
  rintro e w1 ⟨rfl, hr1, hg1⟩
  have HQ := Lib.hid (grown_trans g0 hg1)
  clear hg1 g0 hO c0 hr1
  go_wp2_with fail
  refine (hI _).mono ?_
  rintro e w' ⟨rfl, rfl⟩
  go_wp2
  exact ⟨rfl, rfl, HQ.out⟩
theorem number_any {w : World} {g : Nat} {xs : List Int} {a : Nat} (lo hi why : Int) (h : Rd w g xs a true) :
    Calls Tryd.prog 42 #[.agg #[.pointer (some ⟨g, 0, none⟩)], .int .i64 lo, .int .i64 hi, .int .i64 why] w (Nums xs g a w (num1 xs a lo hi why)) := by
  unfold num1
  cases hx : xs[a]? with
  | none =>
    have := List.getElem?_eq_none_iff.1 hx
    exact number_out lo hi why h (by have := h.le; omega)
  | some x =>
    by_cases hr : lo ≤ x ∧ x ≤ hi
    · simp only [hr, and_self, if_true]
      exact number_ok why h hx hr
    · simp only [hr, if_false]
      exact number_bad why h hx hr
end Go.Proofs.YtcbekkbhhepeaaaDoor
