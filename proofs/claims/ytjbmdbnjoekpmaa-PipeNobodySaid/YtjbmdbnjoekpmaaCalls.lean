/- The small calls of a pipe: contracts. Conditions: none. -/
import Derived.Test.YtjbmdbnjoekpmaaChan
import Derived.WalkSpells
import Derived.Lib.Hide
import Derived.Conc.LoneSelectN
namespace Go.Proofs.Ytjbmdbnjoekpmaa
open Go.RowKit Go.Conc

theorem len_chan (w : World) (c cap : Nat) (xs : List Int) (h : Holds w c cap xs) (o : Obj) (ty : TypeId) : (Builtin.len_ #[36] ty #[.chan (some c)]).run Try.prog (w.alloc o) = .ok (.int .i64 (xs.length : Int)) (w.alloc o) := by
  obtain ⟨s, r, hc⟩ := h.block
  have := run_len_chan (P := Try.prog) (w := w.alloc o) 36 ty Try.underlying36 ((Below.heap_alloc w o c h.lt).trans hc)
  simpa [ints, goInt] using this
theorem cap_chan (w : World) (c cap : Nat) (xs : List Int) (h : Holds w c cap xs) (o : Obj) (ty : TypeId) : (Builtin.cap_ #[36] ty #[.chan (some c)]).run Try.prog (w.alloc o) = .ok (.int .i64 (cap : Int)) (w.alloc o) := by
  obtain ⟨s, r, hc⟩ := h.block
  have := run_cap_chan (P := Try.prog) (w := w.alloc o) 36 ty Try.underlying36 ((Below.heap_alloc w o c h.lt).trans hc)
  simpa [goInt] using this
theorem len_nil (w : World) (ty : TypeId) : (Builtin.len_ #[36] ty #[.chan none]).run Try.prog w = .ok (.int .i64 0) w := by
  simp [Builtin.len_, run_underlying Try.underlying36, goInt]
theorem cap_nil (w : World) (ty : TypeId) : (Builtin.cap_ #[36] ty #[.chan none]).run Try.prog w = .ok (.int .i64 0) w := by
  simp [Builtin.cap_, run_underlying Try.underlying36, goInt]

theorem length_any (c cap : Nat) (xs : List Int) (w : World) (h : Holds w c cap xs) :
    Calls Try.prog 25 #[.agg #[.chan (some c)]] w fun e w' => e = .returned (.int .i64 (xs.length : Int)) ∧ Below w.heap.size w w' := by
  have hl := len_chan w c cap xs h
  go_enter Try.func25, Try.ntmps25
  go_wp2
  go_ret
  exact ⟨rfl, (Below.refl _ w).alloc (Nat.le_refl _) _⟩
theorem size_any (c cap : Nat) (xs : List Int) (w : World) (h : Holds w c cap xs) :
    Calls Try.prog 22 #[.agg #[.chan (some c)]] w fun e w' => e = .returned (.int .i64 (cap : Int)) ∧ Below w.heap.size w w' := by
  have hl := cap_chan w c cap xs h
  go_enter Try.func22, Try.ntmps22
  go_wp2
  go_ret
  exact ⟨rfl, (Below.refl _ w).alloc (Nat.le_refl _) _⟩
theorem length_nil (w : World) :
    Calls Try.prog 25 #[.agg #[.chan none]] w fun e w' => e = .returned (.int .i64 0) ∧ Below w.heap.size w w' := by
  have hl := len_nil
  go_enter Try.func25, Try.ntmps25
  go_wp2
  go_ret
  exact ⟨rfl, (Below.refl _ w).alloc (Nat.le_refl _) _⟩
theorem size_nil (w : World) :
    Calls Try.prog 22 #[.agg #[.chan none]] w fun e w' => e = .returned (.int .i64 0) ∧ Below w.heap.size w w' := by
  have hl := cap_nil
  go_enter Try.func22, Try.ntmps22
  go_wp2
  go_ret
  exact ⟨rfl, (Below.refl _ w).alloc (Nat.le_refl _) _⟩
theorem neq_chan (o : Option Nat) (w : World) : (binOp .neq 36 (.chan o) (.chan none)).run Try.prog w = .ok (.bool o.isSome) w := by
  have he : ∀ d, (Op.equalIn (d + 1) 36 (.chan o) (.chan none)).run Try.prog w = .ok (o.isNone) w := by
    intro d
    cases o <;> simp [Op.equalIn, run_underlying Try.underlying36]
  have he' : (Op.equal 36 (.chan o) (.chan none)).run Try.prog w = .ok (o.isNone) w := by
    unfold Op.equal
    exact he _
  cases o <;> simp_all [binOp, go_sem]
theorem made_any (c : Nat) (w : World) :
    Calls Try.prog 21 #[.agg #[.chan (some c)]] w fun e w' => e = .returned (.bool true) ∧ Below w.heap.size w w' := by
  have hn := neq_chan (some c)
  simp only [Option.isSome_some] at hn
  go_enter Try.func21, Try.ntmps21
  go_wp2
  go_ret
  exact ⟨rfl, (Below.refl _ w).alloc (Nat.le_refl _) _⟩
theorem made_nil (w : World) :
    Calls Try.prog 21 #[.agg #[.chan none]] w fun e w' => e = .returned (.bool false) ∧ Below w.heap.size w w' := by
  have hn := neq_chan none
  simp only [Option.isSome_none] at hn
  go_enter Try.func21, Try.ntmps21
  go_wp2
  go_ret
  exact ⟨rfl, (Below.refl _ w).alloc (Nat.le_refl _) _⟩
theorem row_nil (w : World) :
    Calls Try.prog 20 #[.pointer none] w fun e w' => e = .returned (.agg #[.chan none]) ∧ Below w.heap.size w w' := by
  go_enter Try.func20, Try.ntmps20
  go_wp2
  refine bodyPost_ret (results_cell_row (cs := #[.chan none]) rfl _ _ w.heap.size 38 (0, 0) _ rfl (heap_alloc_new w _) Try.underlying38 rfl (by kernel_rfl)) rfl ?_
  exact ⟨rfl, (Below.refl _ w).alloc (Nat.le_refl _) _⟩
theorem row_any (p : Nat) (o : Option Nat) (w : World) (h : w.cell? ⟨p, 0, none⟩ = some (.chan o)) :
    Calls Try.prog 20 #[.pointer (some ⟨p, 0, none⟩)] w fun e w' => e = .returned (.agg #[.chan o]) ∧ Below w.heap.size w w' := by
  have hlt := World.block_lt_of_cell? w _ h
  go_enter Try.func20, Try.ntmps20
  go_wp2
  refine bodyPost_ret (results_cell_row (cs := #[.chan o]) rfl _ _ w.heap.size 38 (0, 0) _ rfl (heap_alloc_new w _) Try.underlying38 rfl (by kernel_rfl)) rfl ?_
  exact ⟨rfl, (Below.refl _ w).alloc (Nat.le_refl _) _⟩

/-- The pipe at block p has room for cap numbers in the channel c, and xs wait in it. -/
structure Pip (w : World) (p c cap : Nat) (xs : List Int) : Prop where
  box : w.heap[p]? = some (.cells #[.chan (some c)] 40 (0, 0))
  holds : Holds w c cap xs
  most : cap ≤ 256
section
variable {w w' : World} {p c cap : Nat} {xs : List Int}
theorem Pip.lt (h : Pip w p c cap xs) : p < w.heap.size := (Array.getElem?_eq_some_iff.1 h.box).1
theorem Pip.apart (h : Pip w p c cap xs) : p ≠ c := by
  intro e
  obtain ⟨s, r, hc⟩ := h.holds.block
  rw [← e, h.box] at hc
  cases hc
theorem Pip.kept {row : Option Nat} (h : Pip w p c cap xs) (hg : w.grownBy w' row) (hp : some p ≠ row) (hc : some c ≠ row) : Pip w' p c cap xs :=
  ⟨(hg.block p h.lt hp).trans h.box, h.holds.kept hg hc, h.most⟩
theorem Pip.below (h : Pip w p c cap xs) (hb : Below w.heap.size w w') : Pip w' p c cap xs := h.kept (grown_below hb none) (by simp) (by simp)
theorem Pip.turned {ys : List Int} (h : Pip w p c cap xs) (hg : w.grownBy w' (some c)) (hh : Holds w' c cap ys) : Pip w' p c cap ys :=
  ⟨(hg.block p h.lt (by simpa using h.apart)).trans h.box, hh, h.most⟩
theorem Pip.cell (h : Pip w p c cap xs) : w.cell? ⟨p, 0, none⟩ = some (.chan (some c)) := cell_of_row w p 0 _ 40 (0, 0) h.box
theorem Pip.row (h : Pip w p c cap xs) : Calls Try.prog 20 #[.pointer (some ⟨p, 0, none⟩)] w fun e w' => e = .returned (.agg #[.chan (some c)]) ∧ Below w.heap.size w w' ∧ Pip w' p c cap xs :=
  (row_any p (some c) w h.cell).mono fun _ _ ⟨he, hb⟩ => ⟨he, hb, h.below hb⟩
end
theorem below_grown {a b c : World} {row : Option Nat} (h : Below a.heap.size a b) (k : b.grownBy c row) : a.grownBy c row := (grown_below h row).trans k

theorem take_pipe (p c cap : Nat) (xs : List Int) (w : World) (h : Pip w p c cap xs) :
    Calls Try.prog 12 #[.pointer (some ⟨p, 0, none⟩)] w fun e w' => e = .returned (.tuple #[.int .i64 (xs.headD 0), .bool (!xs.isEmpty)]) ∧ Pip w' p c cap xs.tail ∧ w.grownBy w' (some c) := by
  go_enter Try.func12, Try.ntmps12
  go_wp2_with (first
    | (go_at_call 20; refine h.row.mono ?_; rintro e w1 ⟨rfl, hb1, h1⟩)
    | (go_at_call 23; refine (take_any c cap xs _ h1.holds).mono ?_; rintro e w2 ⟨rfl, h2, hg2⟩))
  go_ret2
  exact ⟨by simp, h1.turned hg2 h2, below_grown hb1 hg2⟩
theorem put_pipe (p c cap : Nat) (x : Int) (xs : List Int) (w : World) (h : Pip w p c cap xs) :
    Calls Try.prog 13 #[.pointer (some ⟨p, 0, none⟩), .int .i64 x] w fun e w' => e = .returned (.bool (decide (xs.length < cap))) ∧ Pip w' p c cap (putN cap xs x) ∧ w.grownBy w' (some c) := by
  go_enter Try.func13, Try.ntmps13
  go_wp2_with (first
    | (go_at_call 20; refine h.row.mono ?_; rintro e w1 ⟨rfl, hb1, h1⟩)
    | (go_at_call 24; refine (put_any c cap x xs _ h1.holds).mono ?_; rintro e w2 ⟨rfl, h2, hg2⟩))
  go_ret
  exact ⟨rfl, h1.turned hg2 h2, below_grown hb1 hg2⟩
theorem len_pipe (p c cap : Nat) (xs : List Int) (w : World) (h : Pip w p c cap xs) :
    Calls Try.prog 14 #[.pointer (some ⟨p, 0, none⟩)] w fun e w' => e = .returned (.int .i64 (xs.length : Int)) ∧ Below w.heap.size w w' := by
  go_enter Try.func14, Try.ntmps14
  go_wp2_with (first
    | (go_at_call 20; refine h.row.mono ?_; rintro e w1 ⟨rfl, hb1, h1⟩)
    | (go_at_call 25; refine (length_any c cap xs _ h1.holds).mono ?_; rintro e w2 ⟨rfl, hb2⟩))
  go_ret
  exact ⟨rfl, hb1.trans (hb2.mono hb1.size)⟩
theorem room_pipe (p c cap : Nat) (xs : List Int) (w : World) (h : Pip w p c cap xs) :
    Calls Try.prog 15 #[.pointer (some ⟨p, 0, none⟩)] w fun e w' => e = .returned (.int .i64 ((cap : Int) - xs.length)) ∧ Below w.heap.size w w' := by
  have hm := h.most
  have hf := h.holds.fits
  go_enter Try.func15, Try.ntmps15
  go_wp2_with (fail)
  refine h.row.mono ?_; rintro e w1 ⟨rfl, hb1, h1⟩
  go_wp2_with (first
    | (go_at_call 22; refine (size_any c cap xs _ h1.holds).mono ?_; rintro e w2 ⟨rfl, hb2⟩)
    | (go_at_call 20; refine (h1.below hb2).row.mono ?_; rintro e w3 ⟨rfl, hb3, h3⟩)
    | (go_at_call 25; refine (length_any c cap xs _ h3.holds).mono ?_; rintro e w4 ⟨rfl, hb4⟩))
  go_ret
  exact ⟨by simp, ((hb1.trans (hb2.mono hb1.size)).trans (hb3.mono (Nat.le_trans hb1.size hb2.size))).trans (hb4.mono (Nat.le_trans (Nat.le_trans hb1.size hb2.size) hb3.size))⟩
end Go.Proofs.Ytjbmdbnjoekpmaa
