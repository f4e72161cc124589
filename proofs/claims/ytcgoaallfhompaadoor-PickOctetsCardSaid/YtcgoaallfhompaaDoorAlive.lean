/- The statements' own trial answers true. Conditions: none. -/
import Derived.Test.YtcgoaallfhompaaDoorWrongW
import Derived.Test.YtcgoaallfhompaaDoorAgent
import Derived.Test.YtcgoaallfhompaaDoorSw
namespace Go.Proofs.YtcgoaallfhompaaDoor
open Go.RowKit Go.ChangeShapes Go.WideShapes
set_option linter.unusedSimpArgs false
set_option linter.unusedVariables false

theorem sees_lit {w : World} {g n : Nat} {l : List Int} (h : Blk w g 3 (ints l).toArray) (hl : l.length = n) (hn : n ≤ 1000) : SeesI w (some ⟨g, 0, none⟩) n n l := by
  refine ⟨by rw [ints_len, hl], Nat.le_refl _, by unfold maxLen; omega, (fun e => by cases e), fun ad ha _ => ?_⟩
  injection ha with ha
  subst ha
  exact ⟨_, 0, rfl, h.lt, range_blk (t := 3) h⟩
theorem fine03 : Fine [0, 3] := by
  intro x hx
  simp at hx
  omega
theorem wrong03 : wrongP [0, 2, 0, 3] = (4, 0) := by decide +kernel
theorem got03 : gotL [0, 2, 0, 3] = [0, 3] := by decide +kernel
theorem octs03 : octP [0, 3] = [0, 2, 0, 3] := by decide +kernel
theorem name32 : nameT 3 2 = (⟨#[102, 49]⟩ : ByteArray) := rfl
theorem agN2 : agN 2 = 4 := rfl
theorem agent32 {a : Int} {ok : Bool} (h : AgentP ⟨#[102, 49]⟩ 2 a ok) : a = 3 ∧ ok = true := by
  rcases h with ⟨h1, h2, h3, h4⟩ | ⟨_, _, h⟩
  · exact ⟨nameT_inj h2 h3 (b := 3) (by omega) (by decide) (by rw [h4, name32]), h1⟩
  · exact absurd name32 (h 3 (by omega) (by decide))
theorem oct_text {w : World} {B n c : Nat} {A : Option Addr} {xs : List Int} (h : Oct w B A n c xs) : (convert 23 9 (.slice A n c)).run Tryd.prog w = .ok (.string (strOfNums xs)) w :=
  h.text 23 9 5 Tryd.underlying23 Tryd.underlying5 Tryd.underlying9
theorem str03 : strOfNums [0, 2, 0, 3] = (⟨#[0, 2, 0, 3]⟩ : ByteArray) := rfl
def Trial (w : World) (e : Ending) (w' : World) : Prop := e = .returned (.bool true) ∧ Below w.heap.size w w'
set_option maxRecDepth 100000 in
set_option maxHeartbeats 4000000 in
theorem alive_any (w : World) : Calls Tryd.prog 7 #[] w (Trial w) := by
  obtain ⟨p1, f1⟩ : ∃ p, w.heap.size = p := ⟨_, rfl⟩
  obtain ⟨W1, e1⟩ : ∃ W, w.alloc (.cells #[.int .i64 0, .int .i64 3] 3) = W := ⟨_, rfl⟩
  have b1 : Blk W1 p1 3 (ints [0, 3]).toArray := by rw [← e1, ← f1]; exact heap_alloc_new w _
  have k1 : Below w.heap.size w W1 := by rw [← e1]; exact (Below.refl _ w).alloc (Nat.le_refl _) _
  have hput := pput_any (sees_lit (n := 2) b1 rfl (by omega)) (by omega)
  have HP := Lib.hid (And.intro b1 k1)
  clear b1 k1
  go_enter Tryd.func7, Tryd.ntmps7
  go_wp2_with fail
  refine hput.mono ?_
  rintro e W2 (⟨hf, A2, n2, c2, rfl, ho2, hb2, _⟩ | ⟨hf, _⟩)
  · rw [octs03] at ho2
    have hn2 : n2 = 4 := by have := ho2.len; simpa using this.symm
    subst hn2
    have hget := get_any ho2 (by omega)
    unfold GetsP at hget
    rw [wrong03, got03] at hget
    have HO := Lib.hid (And.intro hf (And.intro ho2 hb2))
    clear hf ho2 hb2 hput
    go_wp2_with fail
    refine hget.mono ?_
    rintro e W3 ⟨A3, c3, rfl, hs3, hb3⟩
    go_wp2_with fail
    refine (agent_any ⟨#[102, 49]⟩ 2 _).mono ?_
    rintro e W4 ⟨a, ok, rfl, ha, hb4⟩
    obtain ⟨rfl, rfl⟩ := agent32 ha
    obtain ⟨p5, f5⟩ : ∃ p, W4.heap.size = p := ⟨_, rfl⟩
    obtain ⟨W5, e5⟩ : ∃ W, W4.alloc (.cells #[.int .i64 0, .int .i64 0, .int .i64 1, .int .i64 0] 3) = W := ⟨_, rfl⟩
    have b5 : Blk W5 p5 3 (ints [0, 0, 1, 0]).toArray := by rw [← e5, ← f5]; exact heap_alloc_new W4 _
    have k5 : Below W4.heap.size W4 W5 := by rw [← e5]; exact (Below.refl _ W4).alloc (Nat.le_refl _) _
    have hsw := switches_any (sees_lit (n := 4) b5 rfl (by omega)) (by omega)
    have hsv : swL [0, 0, 1, 0] = 2 := rfl
    rw [hsv] at hsw
    have HB := Lib.hid (And.intro ha (And.intro hb3 (And.intro hb4 (And.intro k5 b5))))
    clear ha hb3 hb4 k5 b5 hsv
    go_wp2_with fail
    refine hsw.mono ?_
    rintro e W6 ⟨rfl, hb6⟩
    have kA : Below W2.heap.size W2 W4 := HB.out.2.1.trans (HB.out.2.2.1.mono HB.out.2.1.size)
    have kB : Below W2.heap.size W2 W5 := kA.trans (HB.out.2.2.2.1.mono kA.size)
    have kC : Below W2.heap.size W2 W6 := kB.trans (hb6.mono kB.size)
    have ht := oct_text (HO.out.2.1.below kC)
    rw [str03] at ht
    have hnm := name_some 3 2 (by decide) W6
    rw [show nameT ((3 : Nat) : Int) 2 = (⟨#[102, 49]⟩ : ByteArray) from rfl] at hnm
    have HC := Lib.hid (And.intro kC hb6)
    clear kA kB kC hb6
    go_wp2_with fail
    refine hnm.mono ?_
    rintro e W7 ⟨rfl, hb7⟩
    go_wp2
    go_ret
    refine ⟨?_, ?_⟩
    · simp
    · have x1 := HP.out.2
      have x2 := x1.trans (HO.out.2.2.mono x1.size)
      have x3 := x2.trans (HC.out.1.mono x2.size)
      exact x3.trans (hb7.mono x3.size)
  · exact absurd fine03 hf
end Go.Proofs.YtcgoaallfhompaaDoor
