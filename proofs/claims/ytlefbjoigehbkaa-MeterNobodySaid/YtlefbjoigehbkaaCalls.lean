/- The calls of a meter: contracts. Conditions: none. -/
import Derived.Test.YtlefbjoigehbkaaChan
namespace Go.Proofs.Ytlefbjoigehbkaa
open Go.RowKit Go.Conc

theorem len_chan (w : World) (c cap k : Nat) (h : Holds w c cap k) (ty : TypeId) : (Builtin.len_ #[28] ty #[.chan (some c)]).run Try.prog w = .ok (.int .i64 (k : Int)) w := by
  obtain ⟨buf, s, r, hc, hk⟩ := h.block
  have := run_len_chan (P := Try.prog) (w := w) 28 ty Try.underlying28 hc
  simpa [goInt, hk] using this
theorem cap_chan (w : World) (c cap k : Nat) (h : Holds w c cap k) (ty : TypeId) : (Builtin.cap_ #[28] ty #[.chan (some c)]).run Try.prog w = .ok (.int .i64 (cap : Int)) w := by
  obtain ⟨buf, s, r, hc, hk⟩ := h.block
  have := run_cap_chan (P := Try.prog) (w := w) 28 ty Try.underlying28 hc
  simpa [goInt] using this
theorem len_nil (w : World) (ty : TypeId) : (Builtin.len_ #[28] ty #[.chan none]).run Try.prog w = .ok (.int .i64 0) w := by
  simp [Builtin.len_, run_underlying Try.underlying28, goInt]
theorem cap_nil (w : World) (ty : TypeId) : (Builtin.cap_ #[28] ty #[.chan none]).run Try.prog w = .ok (.int .i64 0) w := by
  simp [Builtin.cap_, run_underlying Try.underlying28, goInt]

/-- The meter at block p has cap tokens, of which k were spent: they lie in the channel c. -/
structure Mtr (w : World) (p c cap k : Nat) : Prop where
  box : w.heap[p]? = some (.cells #[.chan (some c)] 30 (0, 0))
  holds : Holds w c cap k
  most : cap ≤ 1048576
section
variable {w w' : World} {p c cap k : Nat}
theorem Mtr.lt (h : Mtr w p c cap k) : p < w.heap.size := (Array.getElem?_eq_some_iff.1 h.box).1
theorem Mtr.apart (h : Mtr w p c cap k) : p ≠ c := by
  intro e
  obtain ⟨buf, s, r, hc, _⟩ := h.holds.block
  rw [← e, h.box] at hc
  cases hc
theorem Mtr.turned {j : Nat} (h : Mtr w p c cap k) (hg : w.grownBy w' (some c)) (hh : Holds w' c cap j) : Mtr w' p c cap j :=
  ⟨(hg.block p h.lt (by simpa using h.apart)).trans h.box, hh, h.most⟩
theorem Mtr.below (h : Mtr w p c cap k) (hb : Below w.heap.size w w') : Mtr w' p c cap k :=
  ⟨(hb.block p h.lt).trans h.box, h.holds.below hb, h.most⟩
theorem Mtr.gone (h : Mtr w p c cap k) : Calls Try.prog 12 #[.pointer (some ⟨p, 0, none⟩)] w fun e w' => e = .returned (.chan (some c)) ∧ w = w' :=
  gone_any p (some c) w (cell_of_row w p 0 _ 30 (0, 0) h.box)
end

theorem left_any (p c cap k : Nat) (w : World) (h : Mtr w p c cap k) :
    Calls Try.prog 8 #[.pointer (some ⟨p, 0, none⟩)] w fun e w' => e = .returned (.int .i64 ((cap : Int) - k)) ∧ w = w' := by
  have hg := h.gone
  have hm := h.most
  have hf := h.holds.fits
  have h1 := len_chan w c cap k h.holds
  have h2 := cap_chan w c cap k h.holds
  clear h
  go_enter Try.func8, Try.ntmps8
  go_wp2_with (go_at_call 12; refine hg.mono ?_; rintro e w' ⟨rfl, rfl⟩)
  go_ret
  exact ⟨by simp, rfl⟩
theorem spent_any (p c cap k : Nat) (w : World) (h : Mtr w p c cap k) :
    Calls Try.prog 9 #[.pointer (some ⟨p, 0, none⟩)] w fun e w' => e = .returned (.int .i64 (k : Int)) ∧ w = w' := by
  have hg := h.gone
  have h1 := len_chan w c cap k h.holds
  clear h
  go_enter Try.func9, Try.ntmps9
  go_wp2_with (go_at_call 12; refine hg.mono ?_; rintro e w' ⟨rfl, rfl⟩)
  go_ret
  exact ⟨rfl, rfl⟩
/-- How many were spent behind one call more. -/
def more (cap k : Nat) : Nat := if k < cap then k + 1 else k
theorem spend_any (p c cap k : Nat) (w : World) (h : Mtr w p c cap k) :
    Calls Try.prog 10 #[.pointer (some ⟨p, 0, none⟩)] w fun e w' => e = .returned (.bool (decide (k < cap))) ∧ Mtr w' p c cap (more cap k) ∧ w.grownBy w' (some c) := by
  unfold more
  by_cases hr : k < cap
  · simp only [hr, decide_true, if_true]
    exact (spend_room _ c cap k w h.holds hr h.gone).mono fun e w' ⟨he, hh, hg⟩ => ⟨he, h.turned hg hh, hg⟩
  · simp only [hr, decide_false, if_false]
    exact (spend_full _ c cap k w h.holds (by omega) h.gone).mono fun e w' ⟨he, hw⟩ => by
      subst hw
      exact ⟨he, h, grown_below (Below.refl _ w) _⟩

/-- nil, or a meter that New did not make. -/
def Nob (w : World) (v : Value) : Prop := v = .pointer none ∨ ∃ p, v = .pointer (some ⟨p, 0, none⟩) ∧ w.cell? ⟨p, 0, none⟩ = some (.chan none)
theorem gone_nob (v : Value) (w : World) (h : Nob w v) : Calls Try.prog 12 #[v] w fun e w' => e = .returned (.chan none) ∧ w = w' := by
  rcases h with rfl | ⟨p, rfl, hp⟩
  · exact gone_nil w
  · exact gone_any p none w hp
theorem left_nob (v : Value) (w : World) (h : Nob w v) : Calls Try.prog 8 #[v] w fun e w' => e = .returned (.int .i64 0) ∧ w = w' := by
  have hg := gone_nob v w h
  have h1 := len_nil w
  have h2 := cap_nil w
  clear h
  go_enter Try.func8, Try.ntmps8
  go_wp2_with (go_at_call 12; refine hg.mono ?_; rintro e w' ⟨rfl, rfl⟩)
  go_ret
  exact ⟨rfl, rfl⟩
theorem spent_nob (v : Value) (w : World) (h : Nob w v) : Calls Try.prog 9 #[v] w fun e w' => e = .returned (.int .i64 0) ∧ w = w' := by
  have hg := gone_nob v w h
  have h1 := len_nil w
  clear h
  go_enter Try.func9, Try.ntmps9
  go_wp2_with (go_at_call 12; refine hg.mono ?_; rintro e w' ⟨rfl, rfl⟩)
  go_ret
  exact ⟨rfl, rfl⟩
theorem spend_nob (v : Value) (w : World) (h : Nob w v) : Calls Try.prog 10 #[v] w fun e w' => e = .returned (.bool false) ∧ w = w' :=
  spend_nil v w (gone_nob v w h)

/-- The nearest number within the bounds. -/
def near (n lo hi : Int) : Int := if n < lo then lo else if hi < n then hi else n
theorem clamp_any (n lo hi : Int) (w : World) : Calls Try.prog 11 #[.int .i64 n, .int .i64 lo, .int .i64 hi] w fun e w' => e = .returned (.int .i64 (near n lo hi)) ∧ w = w' := by
  by_cases h1 : n < lo
  · have e : near n lo hi = lo := by simp [near, h1]
    rw [e]
    go_enter Try.func11, Try.ntmps11
    go_wp2
    go_ret
    exact ⟨rfl, rfl⟩
  · have h3 : decide (n < lo) = false := by simp; omega
    by_cases h2 : hi < n
    · have e : near n lo hi = hi := by simp [near, h1, h2]
      rw [e]
      clear h1
      go_enter Try.func11, Try.ntmps11
      go_wp2
      go_ret
      exact ⟨rfl, rfl⟩
    · have e : near n lo hi = n := by simp [near, h1, h2]
      rw [e]
      have h4 : decide (hi < n) = false := by simp; omega
      clear h1 h2
      go_enter Try.func11, Try.ntmps11
      go_wp2
      go_ret
      exact ⟨rfl, rfl⟩
theorem near_any (n lo hi : Int) (w : World) : Calls Try.prog 7 #[.int .i64 n, .int .i64 lo, .int .i64 hi] w fun e w' => e = .returned (.int .i64 (near n lo hi)) ∧ w = w' := by
  by_cases h1 : n < lo
  · have e : near n lo hi = lo := by simp [near, h1]
    rw [e]
    go_enter Try.func7, Try.ntmps7
    go_wp2
    go_ret
    exact ⟨rfl, rfl⟩
  · have h3 : decide (n < lo) = false := by simp; omega
    by_cases h2 : hi < n
    · have e : near n lo hi = hi := by simp [near, h1, h2]
      rw [e]
      clear h1
      go_enter Try.func7, Try.ntmps7
      go_wp2
      go_ret
      exact ⟨rfl, rfl⟩
    · have e : near n lo hi = n := by simp [near, h1, h2]
      rw [e]
      have h4 : decide (hi < n) = false := by simp; omega
      clear h1 h2
      go_enter Try.func7, Try.ntmps7
      go_wp2
      go_ret
      exact ⟨rfl, rfl⟩
theorem near_nat (n : Int) (m : Nat) : ∃ k : Nat, near n 0 m = k ∧ k ≤ m := by
  unfold near
  split
  · exact ⟨0, rfl, by omega⟩
  · split
    · exact ⟨m, rfl, Nat.le_refl _⟩
    · exact ⟨n.toNat, by omega, by omega⟩

theorem make_chan (k : Nat) (hk : k ≤ 1048576) (w : World) : (Instr.makeChan 28 (.int .i64 (k : Int))).run Try.prog w = .ok (.chan (some w.heap.size)) (w.alloc (.chan k #[] false 0 0 false)) := by
  have h : (Try.prog.info? 34).map (·.bytes) = some 0 := by kernel_rfl
  obtain ⟨i, hi, hb⟩ := Option.map_eq_some_iff.1 h
  exact run_makeChan (P := Try.prog) (w := w) Try.underlying28 hi .i64 k (by omega) (by rw [hb]; omega)

theorem new_any (n : Int) (k : Nat) (hk : near n 0 1048576 = k) (hm : k ≤ 1048576) (w : World) : Calls Try.prog 6 #[.int .i64 n] w fun e w' => ∃ p c, e = .returned (.pointer (some ⟨p, 0, none⟩)) ∧ Mtr w' p c k 0 ∧ w.heap.size ≤ p ∧ w.heap.size ≤ c ∧ Below w.heap.size w w' := by
  have hc := clamp_any n 0 1048576 w
  rw [hk] at hc
  have hmc := make_chan k hm
  go_enter Try.func6, Try.ntmps6
  go_wp2_with (go_at_call 11; refine hc.mono ?_; rintro e w' ⟨rfl, rfl⟩)
  go_ret
  have hb1 : Below w.heap.size w (w.alloc (.chan k #[] false 0 0 false)) := (Below.refl _ w).alloc (Nat.le_refl _) _
  have hs := hb1.size
  have hb2 := (Below.refl (w.alloc (.chan k #[] false 0 0 false)).heap.size (w.alloc (.chan k #[] false 0 0 false))).alloc (Nat.le_refl _) (.cells #[.chan (some w.heap.size)] 30)
  have hh : Holds (w.alloc (.chan k #[] false 0 0 false)) w.heap.size k 0 := ⟨⟨#[], 0, 0, heap_alloc_new w _, rfl⟩, Nat.zero_le _⟩
  refine ⟨w.heap.size + 1, w.heap.size, by simp, ⟨by simpa using heap_alloc_new (w.alloc (.chan k #[] false 0 0 false)) (.cells #[.chan (some w.heap.size)] 30), hh.below hb2, hm⟩, by omega, Nat.le_refl _, hb1.trans (hb2.mono hs)⟩
end Go.Proofs.Ytlefbjoigehbkaa
