/- A quotient, times the divisor, and a rest of less size and of the sign of the first one, are the first one; by 0 there is none: the law 'NumDivides' returns true for every two int64, and turns no argument. Conditions: none. -/
import Derived.Test.YtdigpaflfihbmaaRows
import Derived.WalkKit
import Derived.ProofKit
import Derived.OpenShut
import Derived.Test.YtdigpaflfihbmaaNumDivCalls
namespace Go.Proofs.Ytdigpaflfihbmaa.numDivides
open Go.ChangeShapes Go.WideShapes Go.ChangeAt Go.RowKit
set_option linter.unusedVariables false      -- a walk need not use every 'w<i>' (that an integer argument fits its kind)

theorem own : ownKnob Try.prog.godebug = none := by kernel_rfl

/-! ### STEP 1: THE WALK: the Go text returns true. 'Grown w w'': the world has at most new blocks (Derived/RowKit3.lean). Part the cases AHEAD of 'go_enter' where a test parts the walk; take each callee by a contract of your own. -/
theorem walk (a0 : Int) (a1 : Int) (w0 : (Lit.int .i64 a0).wf = true) (w1 : (Lit.int .i64 a1).wf = true) (w : World) :
    Calls Try.prog 4 #[.int .i64 a0, .int .i64 a1] w fun e w' => e = .returned (.bool true) ∧ Grown w w' := by
  have ha := in64 w0
  have hb := in64 w1
  by_cases h0 : a1 = 0
  · subst h0; exact by_zero a0 w
  by_cases h1 : a1 = -1
  · subst h1
    have e : a0.tdiv (-1) = -a0 := by rw [Int.tdiv_neg, Int.tdiv_one]
    refine by_less a0 _ (Lib.hid rfl) ?_ ?_ w
    · rw [e]; exact beq_iff_eq.2 rfl
    · rw [e]; refine beq_iff_eq.2 ?_; unfold wrap64; omega
  obtain ⟨q, m, r, hq, hm, hr, s1, s2, s3⟩ := reckoned a0 a1 ha h0 h1
  have kind : r = 0 ∨ (r < 0 ∧ a0 < 0) ∨ (0 < r ∧ 0 ≤ a0) := by omega
  have bf : ∀ {x : Int}, x ≠ 0 → (x == 0) = false := fun h => beq_eq_false_iff_ne.2 h
  have df : ∀ {x : Int}, 0 ≤ x → decide (x < 0) = false := fun h => decide_eq_false (by omega)
  by_cases hp : 0 < a1
  · have ht : wrap64 (-a1) = -a1 := IntWalk.wrap64_in _ (by omega)
    rcases kind with rfl | ⟨k1, k2⟩ | ⟨k1, k2⟩
    · exact above_none a0 a1 q m _ hp (Lib.hid hq) hm hr ht (by omega) w
    · exact above_less a0 a1 q m r _ hp (Lib.hid hq) hm hr ht (by omega) (by omega) (bf (by omega)) k1 k2 w
    · exact above_more a0 a1 q m r _ hp (Lib.hid hq) hm hr ht (by omega) (by omega) (bf (by omega)) (df (by omega)) (df k2) w
  have hn : a1 < -1 := by omega
  by_cases hl : a1 = -9223372036854775808
  · have hs : wrap64 (-a1) = a1 := by rw [hl]; decide +kernel
    rcases kind with rfl | ⟨k1, k2⟩ | ⟨k1, k2⟩
    · exact least_none a0 a1 q m _ hn (Lib.hid hq) hm hr hs (by omega) w
    · exact least_less a0 a1 q m r _ hn (Lib.hid hq) hm hr hs (by omega) (bf (by omega)) k1 k2 w
    · exact least_more a0 a1 q m r _ hn (Lib.hid hq) hm hr hs (by omega) (bf (by omega)) (df (by omega)) (df k2) w
  · have hs : wrap64 (-a1) = -a1 := IntWalk.wrap64_in _ (by omega)
    have ht : wrap64 (-(-a1)) = a1 := by rw [Int.neg_neg]; exact IntWalk.wrap64_in _ hb
    rcases kind with rfl | ⟨k1, k2⟩ | ⟨k1, k2⟩
    · exact below_none a0 a1 q m _ _ hn (Lib.hid hq) hm hr hs ht (by omega) (by omega) (by omega) w
    · exact below_less a0 a1 q m r _ _ hn (Lib.hid hq) hm hr hs ht (by omega) (by omega) (by omega) (bf (by omega)) k1 k2 w
    · exact below_more a0 a1 q m r _ _ hn (Lib.hid hq) hm hr hs ht (by omega) (by omega) (by omega) (bf (by omega)) (df (by omega)) (df k2) w

/-! ### THE ROW's STEP: WRITTEN OUT: LEAVE IT -/
set_option maxRecDepth 100000 in
theorem lifted (os : Os) (started : os.Started) (H : Type) (enc : TypeId × Value → H) :
    ReturnsInHanded {} Try.checked os 4 .any (Rows.numDividesSpec.pre6 enc Try.prog Try.f4 Rows.numDividesRow.domain false) (Rows.numDividesSpec.post enc Try.prog Try.f4 false true false false) := by
  refine returnsInHanded_of_change (C := Try.checked) own started (by kernel_rfl) Try.func4
    (ChangeSpec.witness6 (enc := enc) (C := Try.checked) false ⟨#[], #[.int .i64 0, .int .i64 0], []⟩ 8 (by kernel_rfl) (by kernel_rfl) (by kernel_rfl) (by kernel_rfl)) ?_
  intro W base args ds gs before hval0 hW hcnd _
  have hval : ∀ (j : Nat) t v, Try.f4.params[j]? = some t → args[j]? = some v → Value.okWide Try.prog W .any base t v := hval0
  have hW' := hW
  obtain ⟨p, q, hA0, hV, rfl, hfz, hnd⟩ := hW
  have hA : DataW.TrodAll enc Try.prog W 0 (fun _ => true) true Try.f4.params.toList args.toList ds p := hA0
  rw [Try.params4] at hA hval
  obtain ⟨v0, vs0, d0, ds0, p0, q0, hargs, rfl, rfl, h0, r0⟩ := trodAll_cons hA
  obtain ⟨v1, vs1, d1, ds1, p1, q1, rfl, rfl, rfl, h1, r1⟩ := trodAll_cons r0
  obtain ⟨rfl, rfl, rfl⟩ := trodAll_nil r1
  obtain rfl : args = #[v0, v1] := by cases args; simp_all
  obtain ⟨rfl, rfl⟩ := trodVars_none hV
  obtain ⟨a0, rfl, rfl, rfl, w0⟩ := open_int Try.underlying2 (hval 0 2 v0 rfl rfl) h0
  obtain ⟨a1, rfl, rfl, rfl, w1⟩ := open_int Try.underlying2 (hval 1 2 v1 rfl rfl) h1
  clear hA0 hval0
  simp only [List.append_nil] at hW'
  refine (walk a0 a1 w0 w1 W).mono fun e W' ⟨he, hg⟩ => ?_
  subst he
  exact ⟨_, rfl, post_of_same (pa := []) (pv := []) hW' (fun _ _ _ => (trodAll_cons_mk (shut_bool Try.underlying4 _) trodAll_mk0)) (fun sp _ => (trodAll_cons_mk (shut_int Try.underlying2 w0) (trodAll_cons_mk (shut_int Try.underlying2 w1) trodAll_mk0))) (fun _ _ => rfl) rfl
    (hg.frame _) hg.2.1 (ok_one (by kernel_rfl) rfl (okWide_bool_mk Try.underlying4 _))⟩

theorem over : Rows.numDividesRow.holds Try.pinned (OpenSpec.ofChange Rows.numDividesSpec) :=
  OpenClaim.holds_of_wide 4 Try.f4 rfl rfl rfl rfl rfl rfl rfl ⟨rfl, rfl, rfl, rfl, rfl⟩ rfl rfl rfl rfl rfl (by kernel_rfl) Try.func4 (by kernel_rfl)
    (of_decide_eq_true (by kernel_rfl)) (by unfold Func.isWrapper; first | (rw [if_pos (by decide +kernel)]; kernel_rfl) | (rw [if_neg (by decide +kernel)]; exact ⟨rfl, rfl⟩))
    (fun os started H enc _ => lifted os started H enc)

/-- ████ THE STATEMENT ████ -/
theorem proved : Rows.NumDividesSaid :=
  over
#print axioms proved
end Go.Proofs.Ytdigpaflfihbmaa.numDivides
