/- What Ints, Few, Switches and Without answer. Conditions: lists have room for a copy. -/
import Derived.Test.YtcgoaallfhompaaDoorPure
import Derived.Test.YtcgoaallfhompaaDoorName
import Derived.Deep.QuietTactic
import Derived.Deep.RegionHeld3
namespace Go.Proofs.YtcgoaallfhompaaDoor
open Go.RowKit Go.ChangeShapes Go.WideShapes
set_option linter.unusedSimpArgs false
set_option linter.unusedVariables false

theorem room_most {w : World} {A : Option Addr} {n cap : Nat} {l : List Int} (h : SeesI w A n cap l) : n ≤ 140737488355328 ∨ True := .inr trivial
theorem getI_at (l : List Int) (k : Nat) (h : k < l.length) : l[k]? = some (l.getD k 0) := by simp [List.getD, List.getElem?_eq_getElem h]
theorem list_ne {xs ys : List Int} (hl : xs.length = ys.length) (h : xs ≠ ys) : ∃ k, k < xs.length ∧ xs.getD k 0 ≠ ys.getD k 0 ∧ xs.take k = ys.take k := by
  induction xs generalizing ys with
  | nil => cases ys with
    | nil => exact absurd rfl h
    | cons y ys => simp at hl
  | cons x xs ih =>
    cases ys with
    | nil => simp at hl
    | cons y ys =>
      by_cases e : x = y
      · subst e
        obtain ⟨k, hk, hn, ht⟩ := ih (ys := ys) (by simpa using hl) (fun e => h (by rw [e]))
        exact ⟨k + 1, by simpa using hk, by simpa using hn, by simpa using ht⟩
      · exact ⟨0, by simp, by simpa using e, rfl⟩
set_option maxRecDepth 100000 in
theorem ints_same (A A' : Option Addr) (n cap cap' : Nat) (xs : List Int) (w : World) (h : SeesI w A n cap xs) (h' : SeesI w A' n cap' xs) :
    Calls Tryd.prog 13 #[.slice A n cap, .slice A' n cap'] w fun e w' => e = .returned (.bool true) ∧ Below w.heap.size w w' := by
  have hmx := Sees.most h
  have hrm := Sees.room h
  unfold maxLen at hmx
  go_enter Tryd.func13, Tryd.ntmps13
  go_wp2
  go_loopw [5] (fun i wr => ∃ k : Nat, k ≤ n ∧ i = .int .i64 k ∧ Below w.heap.size w wr) (fun i _ => n - (intOf i).toNat)
  case atStart => exact ⟨0, Nat.zero_le _, rfl, Below.refl _ _⟩
  case round =>
    obtain ⟨k, hk, rfl, hb⟩ := hrel
    by_cases hlt : k < n
    · obtain ⟨g, o, rfl, c0⟩ := (h.on hb).get hlt
      obtain ⟨g', o', rfl, d0⟩ := (h'.on hb).get hlt
      generalize xs.getD k 0 = x at c0 d0
      have hkI : (k : Int) < (n : Int) := by omega
      have hk0 : (0 : Int) ≤ (k : Int) := by omega
      go_wp2
      go_quiet (fail)
      go_wp2
      go_roundw
      case rel => exact ⟨k + 1, by omega, by go_num, below_dn hb _⟩
      case measure => simp [intOf]; omega
    · go_wp2
      go_ret
      exact ⟨rfl, hb⟩
set_option maxRecDepth 100000 in
theorem few_any {w : World} {A : Option Addr} {n cap : Nat} {l : List Int} (h : SeesI w A n cap l) : Calls Tryd.prog 10 #[.slice A n cap] w fun e w' => (∃ m, e = .returned (.slice A m cap) ∧ SeesI w A m cap (l.take 80) ∧ m ≤ 80) ∧ w = w' := by
  have hmx := Sees.most h
  have hrm := Sees.room h
  have hno := Sees.none_ h
  unfold maxLen at hmx
  by_cases hc : 80 < n
  · have hs := upto_Lint64 A n cap 80 (by omega) hno
    have t0 : decide ((80 : Int) < (n : Int)) = true := decide_eq_true (by omega)
    have HF := Lib.hid (Sees.first int1_len h 80 (by omega) (by omega))
    obtain ⟨m, em⟩ : ∃ m : Nat, m = 80 := ⟨_, rfl⟩
    have hs' : ∀ w : World, (Instr.slice 28 (.slice A n cap) none (some (.int .i64 80)) none).run Tryd.prog w = .ok (.slice A m cap) w := by rw [em]; exact hs
    clear hs h
    have HM := Lib.hid em
    clear em
    go_enter Tryd.func10, Tryd.ntmps10
    go_wp2
    go_ret
    exact ⟨⟨m, rfl, by rw [HM.out]; exact HF.out, by rw [HM.out]; exact Nat.le_refl _⟩, rfl⟩
  · have t0 : decide ((80 : Int) < (n : Int)) = false := decide_eq_false (by omega)
    have hl := h.len
    go_enter Tryd.func10, Tryd.ntmps10
    go_wp2
    go_ret
    exact ⟨⟨n, rfl, by rw [List.take_of_length_le (by omega)]; exact h, by omega⟩, rfl⟩
set_option maxRecDepth 100000 in
set_option maxHeartbeats 2000000 in
theorem switches_any {w : World} {A : Option Addr} {n cap : Nat} {l : List Int} (h : SeesI w A n cap l) (hn : n ≤ 100000000000) : Calls Tryd.prog 14 #[.slice A n cap] w fun e w' => e = .returned (.int .i64 (swL l : Int)) ∧ Below w.heap.size w w' := by
  have hl := h.len
  have hsl := sw_len l
  have hw0 : IntKind.i64.wrap ((n : Int) - 1) = (n : Int) - 1 := by rw [IntKind.wrap_i64]; omega
  have HE := Lib.hid hl
  clear hl
  go_enter Tryd.func14, Tryd.ntmps14
  go_wp2
  go_loopw [3, 4, 8] (fun s _ i wr => ∃ (k c : Nat), i = .int .i64 k ∧ (k : Int) ≤ n ∧ s = .int .i64 c ∧ c + swL (l.drop k) = swL l ∧ Below w.heap.size w wr) (fun _ _ i _ => n - (intOf i).toNat)
  case atStart => exact ⟨0, 0, rfl, by omega, rfl, by simp, Below.refl _ _⟩
  case round =>
    obtain ⟨k, c, rfl, hk, rfl, hc, hb⟩ := hrel
    by_cases hlt : (k : Int) < (n : Int) - 1
    · have hkn : k + 1 < n := by omega
      have hkl : k + 1 < l.length := by rw [HE.out]; exact hkn
      have t0 : decide ((k : Int) < (n : Int) - 1) = true := decide_eq_true hlt
      have hst := sw_step l k hkl
      obtain ⟨g, o, rfl, c0⟩ := (h.on hb).get (k := k) (by omega)
      obtain ⟨g', o', e', d0⟩ := (h.on hb).get (k := k + 1) hkn
      injection e' with e'
      injection e' with e1 e2 _
      subst e1 e2
      have hk1 : IntKind.i64.wrap ((k : Int) + 1) = ((k + 1 : Nat) : Int) := by rw [IntKind.wrap_i64]; omega
      have hcb : c ≤ l.length := by omega
      have hcn : c ≤ 100000000000 := by rw [HE.out] at hcb; omega
      have hc1 : IntKind.i64.wrap ((c : Int) + 1) = ((c + 1 : Nat) : Int) := by rw [IntKind.wrap_i64]; omega
      generalize l.getD k 0 = x at c0 hst
      generalize l.getD (k + 1) 0 = y at d0 hst
      have hk0 : (0 : Int) ≤ (k : Int) := by omega
      have hkI : (k : Int) < (n : Int) := by omega
      have hkJ : ((k + 1 : Nat) : Int) < (n : Int) := by omega
      by_cases exy : x = y
      · have t1 : (x != y) = false := by simp [exy]
        rw [if_pos exy] at hst
        have HX := Lib.hid (And.intro exy (And.intro hst (And.intro hc hb)))
        clear exy hst hc
        go_wp2
        go_quiet (fail)
        go_wp2
        go_roundw
        case rel => exact ⟨k + 1, c, by simp, by omega, rfl, by have := HX.out.2.1; have := HX.out.2.2.1; omega, below_dn hb _⟩
        case measure => simp [intOf]; omega
      · have t1 : (x != y) = true := by simp [exy]
        rw [if_neg exy] at hst
        have HX := Lib.hid (And.intro exy (And.intro hst (And.intro hc hb)))
        clear exy hst hc
        go_wp2
        go_quiet (fail)
        go_wp2
        go_roundw
        case rel => exact ⟨k + 1, c + 1, by simp, by omega, by simp, by have := HX.out.2.1; have := HX.out.2.2.1; omega, below_dn hb _⟩
        case measure => simp [intOf]; omega
    · have t0 : decide ((k : Int) < (n : Int) - 1) = false := decide_eq_false hlt
      have hge : (n : Int) - 1 ≤ (k : Int) := by omega
      have hz := sw_last l k (by rw [HE.out]; omega)
      have hcc : c = swL l := by omega
      have HX := Lib.hid hcc
      clear hcc hc hz
      go_wp2
      go_ret
      exact ⟨by first | rfl | (rw [HX.out]; rfl), hb⟩

/-- A slice behind its first k. -/
def tailA (A : Option Addr) (k cap : Nat) : Option Addr := if cap = k then A else A.map (·.add k)
theorem from28 (A : Option Addr) (n cap k : Nat) (hk : k ≤ n) (w : World) :
    (Instr.slice 28 (.slice A n cap) (some (.int .i64 (k : Int))) none none).run Tryd.prog w = .ok (.slice (tailA A k cap) (n - k) (cap - k)) w := by
  rw [run_slice_l w 28 A n cap under_Lint64 .i64 _ (by omega) (by omega), sizeE_Lint64]
  simp only [Result.andThen, sliced, Int.toNat_natCast, Nat.mul_one, tailA]
theorem SeesI.rest {w : World} {A : Option Addr} {n cap : Nat} {l : List Int} (h : SeesI w A n cap l) {k : Nat} (hk : k ≤ n) : SeesI w (tailA A k cap) (n - k) (cap - k) (l.drop k) := by
  have hl := h.len
  have hr := Sees.room h
  have hm := Sees.most h
  refine ⟨by rw [ints_len, List.length_drop]; omega, by omega, by omega, fun e => ?_, fun ad ha h0 => ?_⟩
  · unfold tailA at e
    split at e
    · omega
    · have := Sees.none_ h (by cases A with
        | none => rfl
        | some a => simp at e)
      omega
  · unfold tailA at ha
    rw [if_neg (by omega)] at ha
    obtain ⟨a, rfl, rfl⟩ := Option.map_eq_some_iff.1 ha
    obtain ⟨g, o, e, hg, hrg⟩ := Sees.cell h a rfl (by omega)
    subst e
    refine ⟨g, o + k, by unfold Addr.add; split <;> simp_all, hg, fun j v hv => ?_⟩
    have := hrg (k + j) v (by
      rw [← List.take_append_drop k l, ints_app, List.getElem?_append_right (by rw [ints_len, List.length_take]; omega), ints_len, List.length_take]
      rw [show k + j - min k l.length * 1 = j by omega]
      exact hv)
    rw [show o + (k + j) = o + k + j by omega] at this
    exact this
theorem headI_two {w W : World} {g : Nat} {A A2 : Option Addr} {n cap n2 cap2 : Nat} {l l2 : List Int} (eg : w.heap.size = g) (eW : W = w.alloc (.cells #[.slice A n cap, .slice A2 n2 cap2] 28)) (h : SeesI w A n cap l) (h2 : SeesI w A2 n2 cap2 l2) :
    HeadI W g [(⟨A, n, cap⟩, l), (⟨A2, n2, cap2⟩, l2)] := by
  subst eg
  have hb1 : Below w.heap.size w W := by rw [eW]; exact (Below.refl _ w).alloc (Nat.le_refl _) _
  exact ⟨by rw [eW]; exact heap_alloc_new w _, fun x hx => by
    rcases List.mem_cons.1 hx with rfl | hx
    · exact h.on hb1
    · rw [List.mem_singleton] at hx
      subst hx
      exact h2.on hb1⟩
theorem own_base {w : World} {B B' k n : Nat} {t : TypeId} {v : Value} {vs : List Value} (h : w.ownsRow B t k v n vs) (hB : B' ≤ B) : w.ownsRow B' t k v n vs := by
  refine ⟨h.1, ?_⟩
  rcases h.2 with h2 | ⟨g, cap, cur, e, hb, r⟩
  · exact .inl h2
  · exact .inr ⟨g, cap, cur, e, Nat.le_trans hB hb, r⟩
/-- What is answered is a list of the call's own. -/
def OwnL (ys : List Int) (w : World) (e : Ending) (w' : World) : Prop :=
  ∃ A c, e = .returned (.slice A ys.length c) ∧ w'.ownsRow w.heap.size 3 1 (.slice A ys.length c) ys.length (ints ys) ∧ Below w.heap.size w w'
theorem concat1 {w : World} {A : Option Addr} {n cap : Nat} {l : List Int} (h : SeesI w A n cap l) (hn : n * 8 ≤ 140737488355328) :
    Calls Tryd.prog 21 #[.slice (some ⟨w.heap.size, 0, none⟩) 1 1] (w.alloc (.cells #[.slice A n cap] 28)) (OwnL l (w.alloc (.cells #[.slice A n cap] 28))) := by
  have hl := h.len
  refine (concatI_one (headI_one rfl rfl h) hn).mono ?_
  rintro e w' ⟨A', c', rfl, ho, hb⟩
  subst hl
  exact ⟨A', c', rfl, ho, hb⟩
theorem concat2 {w : World} {A A2 : Option Addr} {n cap n2 cap2 : Nat} {l l2 : List Int} (h : SeesI w A n cap l) (h2 : SeesI w A2 n2 cap2 l2) (hn : (l ++ l2).length * 8 ≤ 140737488355328) :
    Calls Tryd.prog 21 #[.slice (some ⟨w.heap.size, 0, none⟩) 2 2] (w.alloc (.cells #[.slice A n cap, .slice A2 n2 cap2] 28)) (OwnL (l ++ l2) (w.alloc (.cells #[.slice A n cap, .slice A2 n2 cap2] 28))) := by
  refine (concatI_any (headI_two rfl rfl h h2) (L := l ++ l2) (by simp) hn (by simp)).mono ?_
  rintro e w' ⟨A', c', rfl, ho, hb⟩
  exact ⟨A', c', rfl, ho, hb⟩
theorem OwnL.base {ys : List Int} {w w1 : World} {e : Ending} {w' : World} (h : OwnL ys w1 e w') (hb : Below w.heap.size w w1) : OwnL ys w e w' := by
  obtain ⟨A, c, rfl, ho, k⟩ := h
  exact ⟨A, c, rfl, own_base ho hb.size, hb.trans (k.mono hb.size)⟩
set_option maxRecDepth 100000 in
set_option maxHeartbeats 2000000 in
theorem without_all {w : World} {A : Option Addr} {n cap : Nat} {l : List Int} (h : SeesI w A n cap l) (hn : n ≤ 100000000000) (i k : Int) (ho : ¬ outB l i k) : Calls Tryd.prog 11 #[.slice A n cap, .int .i64 i, .int .i64 k] w (OwnL l w) := by
  have hl := h.len
  have hw0 : IntKind.i64.wrap ((n : Int) - 1) = (n : Int) - 1 := by rw [IntKind.wrap_i64]; omega
  have hi := fun W => in_any i 0 ((n : Int) - 1) W
  have hc := concat1 h (by omega)
  have hb : Below w.heap.size w (w.alloc (.cells #[.slice A n cap] 28)) := (Below.refl _ w).alloc (Nat.le_refl _) _
  have HB := Lib.hid hb
  clear hb
  have hi2 : ¬ (1 ≤ k) ∨ inB i 0 ((n : Int) - 1) = false := by
    by_cases h1 : k < 1
    · exact .inl (by omega)
    · refine .inr ?_
      unfold inB outB at *
      by_cases q : 0 ≤ i
      · rw [decide_eq_false (by omega : ¬ i ≤ (n : Int) - 1), Bool.and_false]
      · rw [decide_eq_false q]; rfl
  obtain ⟨L, eL⟩ : ∃ L, l.length = L := ⟨_, rfl⟩
  clear ho hl eL L
  by_cases h1 : k < 1
  · have t0 : decide (k < 1) = true := decide_eq_true h1
    go_enter Tryd.func11, Tryd.ntmps11
    go_wp2_with fail
    refine hc.mono ?_
    intro e w1 hw
    have hw2 := hw.base HB.out
    obtain ⟨A1, c1, rfl, ho1, hb1⟩ := hw2
    go_wp2
    go_ret
    exact ⟨A1, c1, rfl, ho1, hb1⟩
  · have t0 : decide (k < 1) = false := decide_eq_false h1
    have hin : inB i 0 ((n : Int) - 1) = false := by
      rcases hi2 with q | q
      · omega
      · exact q
    rw [hin] at hi
    clear hin hi2
    go_enter Tryd.func11, Tryd.ntmps11
    go_wp2_with fail
    refine (hi _).mono ?_
    rintro e w' ⟨rfl, rfl⟩
    go_wp2_with fail
    refine hc.mono ?_
    intro e w1 hw
    have hw2 := hw.base HB.out
    obtain ⟨A1, c1, rfl, ho1, hb1⟩ := hw2
    go_wp2
    go_ret
    exact ⟨A1, c1, rfl, ho1, hb1⟩
end Go.Proofs.YtcgoaallfhompaaDoor
