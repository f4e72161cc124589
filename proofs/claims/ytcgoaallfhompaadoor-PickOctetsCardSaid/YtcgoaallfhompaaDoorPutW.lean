/- What Put answers: a schedule as octets. Conditions: at most 1000 picks. -/
import Derived.Test.YtcgoaallfhompaaDoorName
import Derived.Test.YtcgoaallfhompaaDoorPure
import Derived.Test.YtcgoaallfhompaaDoorORead
namespace Go.Proofs.YtcgoaallfhompaaDoor
open Go.RowKit Go.ChangeShapes Go.WideShapes
set_option linter.unusedSimpArgs false
set_option linter.unusedVariables false

/-- All are agents. -/
def Fine (l : List Int) : Prop := ∀ x ∈ l, 0 ≤ x ∧ x ≤ 7
theorem fine_in {x : Int} (h : 0 ≤ x ∧ x ≤ 7) : inB x 0 7 = true := by
  unfold inB
  rw [decide_eq_true h.1, decide_eq_true h.2]
  rfl
theorem fine_not {x : Int} (h : ¬ (0 ≤ x ∧ x ≤ 7)) : inB x 0 7 = false := by
  unfold inB
  by_cases q : 0 ≤ x
  · rw [decide_eq_false (by omega : ¬ x ≤ 7), Bool.and_false]
  · rw [decide_eq_false q]; rfl
/-- A schedule's octets. -/
def octP (l : List Int) : List Int := digs l.length 2 ++ l
theorem dig_one {x : Int} (h : 0 ≤ x ∧ x ≤ 7) : digs x 1 = [x] := by
  unfold digs dig digs
  congr 1
  simp
  omega
theorem fine_small {l : List Int} (h : Fine l) : Small l := fun x hx => ⟨(h x hx).1, by have := (h x hx).2; omega⟩
theorem take_more (l : List Int) (k : Nat) (h : k < l.length) : l.take (k + 1) = l.take k ++ [l.getD k 0] := take_snoc l k h
theorem getD_mem (l : List Int) (k : Nat) (h : k < l.length) : l.getD k 0 ∈ l := by
  simp [List.getD, List.getElem?_eq_getElem h]
/-- What Put answers of a schedule that may be. -/
def PutsL (l : List Int) (w : World) (e : Ending) (w' : World) : Prop :=
  ∃ A n c, e = .returned (.tuple #[.slice A n c, .int .i64 0]) ∧ Oct w' w'.heap.size A n c (octP l) ∧ Below w.heap.size w w' ∧ w'.ownsRow w.heap.size 5 1 (.slice A n c) n (nums (octP l))
theorem oct_of {w : World} {B n : Nat} {v : Value} {xs : List Int} (h : w.ownsRow B 5 1 v n (nums xs)) (hx : Small xs) : ∃ A c, v = .slice A n c ∧ Oct w w.heap.size A n c xs := Oct.own h hx
set_option maxRecDepth 100000 in
set_option maxHeartbeats 2000000 in
theorem pput_any {w : World} {A : Option Addr} {n cap : Nat} {l : List Int} (h : SeesI w A n cap l) (hn : n ≤ 1000) :
    Calls Tryd.prog 17 #[.slice A n cap] w fun e w' => (Fine l ∧ PutsL l w e w') ∨ (¬ Fine l ∧ e = .returned (.tuple #[.slice none 0 0, .int .i64 3]) ∧ Below w.heap.size w w') := by
  have hl := h.len
  have t0 : decide ((4096 : Int) < (n : Int)) = false := decide_eq_false (by omega)
  have hp := fun W => put_yes [] none 0 0 (n : Int) 2 W (Oct.nil _ _) (by omega) (by omega) (by omega)
  have HN := Lib.hid hl
  clear hl
  go_enter Tryd.func17, Tryd.ntmps17
  go_wp2_with fail
  refine (hp _).mono ?_
  rintro e w1 ⟨A1, n1, c1, rfl, ho1, hb1, hw1⟩
  have hn1 : n1 = 2 := by have := ho1.len; rw [List.nil_append, digs_len] at this; omega
  subst hn1
  rw [List.nil_append] at hw1
  clear ho1
  go_wp2_with fail
  go_loopw [4, 6, 15] (fun b _ i wr => ∃ k : Nat, i = .int .i64 k ∧ k ≤ n ∧ Fine (l.take k) ∧ wr.ownsRow w.heap.size 5 1 b (2 + k) (nums (digs (n : Int) 2 ++ l.take k)) ∧ Below w.heap.size w wr) (fun _ _ i _ => n - (intOf i).toNat)
  case atStart => exact ⟨0, rfl, Nat.zero_le _, fun x hx => by simp at hx, by simpa using hw1, hb1⟩
  case round =>
    obtain ⟨k, rfl, hk, hf, ho, hb⟩ := hrel
    by_cases hlt : k < n
    · have t1 : decide ((k : Int) < (n : Int)) = true := decide_eq_true (by omega)
      obtain ⟨g, o, rfl, c0⟩ := (h.on hb).get hlt
      have hm := getD_mem l k (by rw [HN.out]; exact hlt)
      have hts := take_more l k (by rw [HN.out]; exact hlt)
      generalize l.getD k 0 = x at c0 hm hts
      have hk0 : (0 : Int) ≤ (k : Int) := by omega
      have hkI : (k : Int) < (n : Int) := by omega
      have hk1 : IntKind.i64.wrap ((k : Int) + 1) = ((k + 1 : Nat) : Int) := by rw [IntKind.wrap_i64]; omega
      have hi := fun W => in_any x 0 7 W
      by_cases hx : 0 ≤ x ∧ x ≤ 7
      · rw [fine_in hx] at hi
        have hpx := fun W => put_yes [] none 0 0 x 1 W (Oct.nil _ _) (by omega) (by omega) (by omega)
        rw [dig_one hx] at hpx
        have HX := Lib.hid (And.intro hx (And.intro hm (And.intro hts hf)))
        clear hx hm hts hf
        go_wp2_with fail
        refine (hi _).mono ?_
        rintro e w' ⟨rfl, rfl⟩
        go_wp2_with fail
        refine (hpx _).mono ?_
        rintro e w2 ⟨A2, n2, c2, rfl, ho2, hb2, _⟩
        have hn2 : n2 = 1 := by have := ho2.len; simpa using this.symm
        subst hn2
        have how : w2.ownsRow w.heap.size 5 1 u4 (2 + k) (nums (digs (n : Int) 2 ++ l.take k)) := ho.kept (row := none) ⟨hb2.os, hb2.tape, hb2.output, hb2.size, fun q hq _ => hb2.block q hq⟩ (by cases u4.ownBlock <;> simp)
        go_wp2_with (at_builtin; refine wpList_append_octets rfl _ _ rfl w.heap.size u4 (2 + k) _ rfl how w2.heap.size A2 1 c2 _ rfl ho2 (by omega) (by have := hb.size; have := hb2.size; omega) ?_; intro v3 w3 ho3 hg3)
        go_roundw
        case rel =>
          refine ⟨k + 1, by simp, by omega, ?_, ?_, ?_⟩
          · rw [HX.out.2.2.1]
            intro y hy
            rcases List.mem_append.1 hy with hy | hy
            · exact HX.out.2.2.2 y hy
            · rw [List.mem_singleton] at hy
              subst hy
              exact HX.out.1
          · rw [HX.out.2.2.1, ← List.append_assoc]
            simpa [Nat.add_assoc] using ho3
          · exact (hb.trans (hb2.mono hb.size)).grown hg3 (Nat.le_trans hb.size hb2.size) (fun q hq => (how.lt q hq).1)
        case measure => simp [intOf]; omega
      · rw [fine_not hx] at hi
        have HX := Lib.hid (And.intro hx hm)
        clear hx hm hts hf
        go_wp2_with fail
        refine (hi _).mono ?_
        rintro e w' ⟨rfl, rfl⟩
        go_wp2
        go_ret2
        exact .inr ⟨fun q => HX.out.1 (q x HX.out.2), rfl, hb⟩
    · obtain rfl : k = n := by omega
      have t1 : decide ((k : Int) < (k : Int)) = false := decide_eq_false (by omega)
      have hf' : Fine l := by rwa [List.take_of_length_le (by rw [HN.out]; exact Nat.le_refl _)] at hf
      rw [List.take_of_length_le (by rw [HN.out]; exact Nat.le_refl _)] at ho
      have hsm : Small (digs (k : Int) 2 ++ l) := (digs_small _ _).app (fine_small hf')
      obtain ⟨A9, c9, rfl, h9⟩ := oct_of ho hsm
      have e9 : digs (k : Int) 2 ++ l = octP l := by unfold octP; rw [HN.out]
      rw [e9] at ho h9
      have HX := Lib.hid (And.intro hf' (And.intro ho (And.intro h9 hb)))
      clear hf' hf ho h9 hsm e9
      go_wp2
      go_ret2
      exact .inl ⟨HX.out.1, A9, 2 + k, c9, rfl, HX.out.2.2.1, hb, HX.out.2.1⟩
end Go.Proofs.YtcgoaallfhompaaDoor
