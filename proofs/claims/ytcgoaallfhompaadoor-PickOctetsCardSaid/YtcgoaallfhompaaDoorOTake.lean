/- The contract of a reader's take: the next octets, or none, and the reader is bad. Conditions: at most 2000 octets. -/
import Derived.Test.YtcgoaallfhompaaDoorOReader
namespace Go.Proofs.YtcgoaallfhompaaDoor.O
set_option linter.unusedSimpArgs false
set_option linter.unusedVariables false
open Go.RowKit
theorem _root_.Go.Proofs.YtcgoaallfhompaaDoor.Rd.drewN {w : World} {g : Nat} {xs : List Int} {a : Nat} {good : Bool} (h : Rd w g xs a good) (q : Nat) : Rd (w.drewN q) g xs a good := by
  obtain ⟨⟨A, cap, hk, ho⟩, hm, hl⟩ := h
  exact ⟨⟨A, cap, hk, ho.keep fun p _ => by simp⟩, hm, hl⟩
theorem _root_.Go.Proofs.YtcgoaallfhompaaDoor.grown_drewN {w w' : World} {r : Option Nat} (h : w.grownBy w' r) (q : Nat) : w.grownBy (w'.drewN q) r := ⟨h.os, h.tape, h.output, h.size, h.block⟩
theorem _root_.Go.Proofs.YtcgoaallfhompaaDoor.below_drew {B : Nat} {a w : World} (h : Below B a w) (n : Nat) : Below B a (w.drewN n) := ⟨h.os, h.tape, h.output, h.size, h.block⟩
theorem _root_.Go.Proofs.YtcgoaallfhompaaDoor.grown_set {w w' : World} {g i : Nat} (h : w.grownBy w' (some g)) (u : Value) : w.grownBy (w'.setCell ⟨g, i, none⟩ u) (some g) :=
  ⟨h.os, h.tape, h.output, by simpa [World.setCell] using h.size, fun k hk hne => (Below.heap_setCell w' _ u k (fun e => hne (by rw [e]))).trans (h.block k hk hne)⟩
theorem _root_.Go.Proofs.YtcgoaallfhompaaDoor.grown_trans {w w1 w2 : World} {r : Option Nat} (h : w.grownBy w1 r) (k : w1.grownBy w2 r) : w.grownBy w2 r :=
  ⟨k.os.trans h.os, k.tape.trans h.tape, k.output.trans h.output, Nat.le_trans h.size k.size, fun i hi hne => (k.block i (Nat.lt_of_lt_of_le hi h.size) hne).trans (h.block i hi hne)⟩
theorem _root_.Go.Proofs.YtcgoaallfhompaaDoor.Rd.moved {w : World} {g : Nat} {xs : List Int} {a : Nat} {good : Bool} (h : Rd w g xs a good) {b : Nat} (hb : b ≤ xs.length) : Rd (w.setCell ⟨g, 1, none⟩ (.int .i64 (b : Int))) g xs b good := by
  obtain ⟨⟨A, cap, hk, ho⟩, hm, hl⟩ := h
  refine ⟨⟨A, cap, hk.set_ 1 _, ho.keep fun p hp => World.cell?_setCell_other w _ p _ (fun e => ?_)⟩, hm, hb⟩
  subst e
  exact Nat.lt_irrefl _ hp
theorem _root_.Go.Proofs.YtcgoaallfhompaaDoor.Rd.spoilt {w : World} {g : Nat} {xs : List Int} {a : Nat} {good : Bool} (h : Rd w g xs a good) : Rd (w.setCell ⟨g, 2, none⟩ (.bool false)) g xs a false := by
  obtain ⟨⟨A, cap, hk, ho⟩, hm, hl⟩ := h
  refine ⟨⟨A, cap, hk.set_ 2 _, ho.keep fun p hp => World.cell?_setCell_other w _ p _ (fun e => ?_)⟩, hm, hl⟩
  subst e
  exact Nat.lt_irrefl _ hp
/-- What take answers: k octets from a on. -/
def _root_.Go.Proofs.YtcgoaallfhompaaDoor.Took (xs : List Int) (g a k : Nat) (w : World) (e : Ending) (w' : World) : Prop :=
  ∃ A cap, e = .returned (.tuple #[.slice A k cap, .bool true]) ∧ Oct w' w'.heap.size A k cap ((xs.drop a).take k) ∧ Rd w' g xs (a + k) true ∧ w.grownBy w' (some g)
/-- None. -/
def _root_.Go.Proofs.YtcgoaallfhompaaDoor.TookNone (xs : List Int) (g a : Nat) (w : World) (e : Ending) (w' : World) : Prop :=
  e = .returned (.tuple #[.slice none 0 0, .bool false]) ∧ Rd w' g xs a false ∧ w.grownBy w' (some g)
theorem _root_.Go.Proofs.YtcgoaallfhompaaDoor.under_structSchemeintOrderintThresholdintFuelintDepthint : Tryd.prog.underlying 23 = some (.slice (Tryd.prog.elem 23)) := by kernel_rfl
theorem _root_.Go.Proofs.YtcgoaallfhompaaDoor.size_structSchemeintOrderintThresholdintFuelintDepthint (w : World) : (sizeOf (Tryd.prog.elem 23)).run Tryd.prog w = .ok 1 w := by kernel_rfl
theorem _root_.Go.Proofs.YtcgoaallfhompaaDoor.cut3 (A : Option Addr) (n cap a k : Nat) (h1 : 1 ≤ k) (hc : a + k ≤ cap) (w : World) :
    (Instr.slice 23 (.slice A n cap) (some (.int .i64 (a : Int))) (some (.int .i64 ((a : Int) + k))) (some (.int .i64 ((a : Int) + k)))).run Tryd.prog w = .ok (.slice (A.map (·.add a)) k k) w := by
  rw [run_slice_lhm w 23 A n cap under_structSchemeintOrderintThresholdintFuelintDepthint .i64 .i64 .i64 _ _ _ (by omega) (by omega) (by omega) (by omega), size_structSchemeintOrderintThresholdintFuelintDepthint]
  have e1 : ((a : Int) + k).toNat = a + k := by omega
  have e2 : a + k - a = k := by omega
  have e3 : ¬ a + k = a := by omega
  simp only [Result.andThen, sliced, e1, e2, Int.toNat_natCast, if_neg e3, Nat.mul_one]
theorem _root_.Go.Proofs.YtcgoaallfhompaaDoor.took_end {w : World} {g : Nat} {xs : List Int} {a k cap : Nat} {A : Option Addr} (h : Rd w g xs a true) (h1 : 1 ≤ k) (hak : a + k ≤ xs.length) (hl : g < w.heap.size) (ho : Oct w g A xs.length cap xs) (q : Nat) :
    Took xs g a k w (.returned (.tuple #[.slice (A.map (·.add a)) k k, .bool true])) ((w.drewN q).setCell ⟨g, 1, none⟩ (.int .i64 ((a : Int) + k))) := by
  have e : (a : Int) + k = ((a + k : Nat) : Int) := by omega
  have hr := (h.drewN q).moved (b := a + k) hak
  rw [← e] at hr
  refine ⟨_, k, rfl, ?_, hr, grown_set (grown_drewN (World.grownBy.refl w _) q) _⟩
  have h63 := h.most
  have hw := ho.window (l := a) (k := k) (c := k) (by omega) hak (Nat.le_refl _) (by unfold maxLen; omega)
  have hk : Oct ((w.drewN q).setCell ⟨g, 1, none⟩ (.int .i64 ((a : Int) + k))) g (A.map (·.add a)) k k ((xs.drop a).take k) := hw.keep fun p hp => by
    rw [World.cell?_setCell_other _ _ p _ (fun e => by subst e; exact Nat.lt_irrefl _ hp)]
    simp
  exact hk.more (by simp [World.setCell]; omega)
set_option maxRecDepth 100000 in
set_option maxHeartbeats 1000000 in
theorem _root_.Go.Proofs.YtcgoaallfhompaaDoor.take_yes {w : World} {g : Nat} {xs : List Int} {a k : Nat} (h : Rd w g xs a true) (h1 : 1 ≤ k) (h8 : k ≤ 8) (hak : a + k ≤ xs.length) :
    Calls Tryd.prog 36 #[.pointer (some ⟨g, 0, none⟩), .int .i64 (k : Int)] w (Took xs g a k w) := by
  obtain ⟨⟨A, cap, hk, ho⟩, hm, hl⟩ := id h
  have c0 : w.cell? ⟨g, 0, none⟩ = some (.slice A xs.length cap) := hk.cell 0
  have c1 : w.cell? ⟨g, 1, none⟩ = some (.int .i64 (a : Int)) := hk.cell 1
  have f1 := hk.free 1
  have b1 : (1 : Int) ≤ (k : Int) := by omega
  have b2 : (k : Int) ≤ 8 := by omega
  have b3 : (a : Int) + k ≤ (xs.length : Int) := by omega
  have b4 : (xs.length : Int) ≤ 2000 := by omega
  have hroom := ho.room
  have b5 : (xs.length : Int) ≤ (cap : Int) := by omega
  have b6 : (0 : Int) ≤ (a : Int) := by omega
  have t1 : decide ((k : Int) > (xs.length : Int) - a) = false := by simp; omega
  have hw := Lib.hid (IntWalk.i64_in ((a : Int) + k) (by omega))
  go_enter Tryd.func36, Tryd.ntmps36
  go_wp2_with (first
    | (go_at_call 42; refine (bad_any h).mono ?_; rintro e w' ⟨rfl, rfl⟩)
    | (go_at_call 32; refine (fits_yes _ b1 b2 _).mono ?_; rintro e w' ⟨rfl, rfl⟩)
    | (go_at_call 31; refine (left_any h).mono ?_; rintro e w' ⟨rfl, q, rfl⟩))
  have hsl := cut3 A xs.length cap a k h1 (by omega)
  have hw' := hw.out
  go_quiet (fail)
  clear hw'
  go_wp2
  go_ret2
  exact took_end h h1 hak hk.lt ho _
theorem _root_.Go.Proofs.YtcgoaallfhompaaDoor.none_end {w : World} {g : Nat} {xs : List Int} {a : Nat} {good : Bool} (h : Rd w g xs a good) (q : Nat) :
    TookNone xs g a w (.returned (.tuple #[.slice none 0 0, .bool false])) ((w.drewN q).setCell ⟨g, 2, none⟩ (.bool false)) :=
  ⟨rfl, (h.drewN q).spoilt, grown_set (grown_drewN (World.grownBy.refl w _) q) _⟩
set_option maxRecDepth 100000 in
set_option maxHeartbeats 1000000 in
theorem _root_.Go.Proofs.YtcgoaallfhompaaDoor.take_odd {w : World} {g : Nat} {xs : List Int} {a : Nat} {k : Int} (h : Rd w g xs a true) (hk : k < 1 ∨ 8 < k) :
    Calls Tryd.prog 36 #[.pointer (some ⟨g, 0, none⟩), .int .i64 k] w (TookNone xs g a w) := by
  obtain ⟨⟨A, cap, hb, ho⟩, hm, hl⟩ := id h
  have c2 : w.cell? ⟨g, 2, none⟩ = some (.bool true) := hb.cell 2
  have f2 := hb.free 2
  have HK := Lib.hid hk
  clear hk
  go_enter Tryd.func36, Tryd.ntmps36
  go_wp2_with (first
    | (go_at_call 42; refine (bad_any h).mono ?_; rintro e w' ⟨rfl, rfl⟩)
    | (go_at_call 32; refine (fits_no _ HK.out _).mono ?_; rintro e w' ⟨rfl, rfl⟩)
    | (go_at_call 31; refine (left_any h).mono ?_; rintro e w' ⟨rfl, q, rfl⟩))
  go_ret2
  exact none_end h 0
set_option maxRecDepth 100000 in
set_option maxHeartbeats 1000000 in
theorem _root_.Go.Proofs.YtcgoaallfhompaaDoor.take_over {w : World} {g : Nat} {xs : List Int} {a : Nat} {k : Int} (h : Rd w g xs a true) (h1 : 1 ≤ k) (h8 : k ≤ 8) (hak : (xs.length : Int) < a + k) :
    Calls Tryd.prog 36 #[.pointer (some ⟨g, 0, none⟩), .int .i64 k] w (TookNone xs g a w) := by
  obtain ⟨⟨A, cap, hb, ho⟩, hm, hl⟩ := id h
  have c2 : w.cell? ⟨g, 2, none⟩ = some (.bool true) := hb.cell 2
  have f2 := hb.free 2
  have b4 : (xs.length : Int) - a < k := by omega
  go_enter Tryd.func36, Tryd.ntmps36
  go_wp2_with (first
    | (go_at_call 42; refine (bad_any h).mono ?_; rintro e w' ⟨rfl, rfl⟩)
    | (go_at_call 32; refine (fits_yes _ h1 h8 _).mono ?_; rintro e w' ⟨rfl, rfl⟩)
    | (go_at_call 31; refine (left_any h).mono ?_; rintro e w' ⟨rfl, q, rfl⟩))
  go_ret2
  exact none_end h _
set_option maxRecDepth 100000 in
theorem _root_.Go.Proofs.YtcgoaallfhompaaDoor.take_bad {w : World} {g : Nat} {xs : List Int} {a : Nat} {k : Int} (h : Rd w g xs a false) :
    Calls Tryd.prog 36 #[.pointer (some ⟨g, 0, none⟩), .int .i64 k] w (TookNone xs g a w) := by
  go_enter Tryd.func36, Tryd.ntmps36
  go_wp2_with (first
    | (go_at_call 42; refine (bad_any h).mono ?_; rintro e w' ⟨rfl, rfl⟩))
  go_ret2
  exact ⟨rfl, h, World.grownBy.refl w _⟩
set_option maxRecDepth 100000 in
theorem _root_.Go.Proofs.YtcgoaallfhompaaDoor.take_nil {w : World} {k : Int} :
    Calls Tryd.prog 36 #[.pointer none, .int .i64 k] w fun e w' => e = .returned (.tuple #[.slice none 0 0, .bool false]) ∧ w = w' := by
  go_enter Tryd.func36, Tryd.ntmps36
  go_wp2_with (first
    | (go_at_call 42; refine (bad_nil _).mono ?_; rintro e w' ⟨rfl, rfl⟩))
  go_ret2
  exact ⟨rfl, rfl⟩
/-- Whatever is not taken. -/
theorem _root_.Go.Proofs.YtcgoaallfhompaaDoor.take_no {w : World} {g : Nat} {xs : List Int} {a : Nat} {good : Bool} {k : Int} (h : Rd w g xs a good) (hk : good = false ∨ k < 1 ∨ 8 < k ∨ (xs.length : Int) < a + k) :
    Calls Tryd.prog 36 #[.pointer (some ⟨g, 0, none⟩), .int .i64 k] w (TookNone xs g a w) := by
  cases good with
  | false => exact take_bad h
  | true =>
    by_cases h1 : k < 1 ∨ 8 < k
    · exact take_odd h h1
    · refine take_over h (by omega) (by omega) ?_
      rcases hk with hk | hk
      · cases hk
      · omega
end Go.Proofs.YtcgoaallfhompaaDoor.O
