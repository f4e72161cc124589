/- What Agent answers: the agent of a name, if there is one. Conditions: none. -/
import Derived.Test.YtcgoaallfhompaaDoorName
namespace Go.Proofs.YtcgoaallfhompaaDoor
open Go.RowKit Go.ChangeShapes Go.WideShapes
set_option linter.unusedSimpArgs false
set_option linter.unusedVariables false

/-- What Agent tells. -/
def AgentP (s : ByteArray) (t : Int) (a : Int) (ok : Bool) : Prop :=
  (ok = true ∧ 0 ≤ a ∧ a < agN t ∧ nameT a t = s) ∨ (ok = false ∧ a = 0 ∧ ∀ j : Int, 0 ≤ j → j < agN t → nameT j t ≠ s)
set_option maxRecDepth 100000 in
theorem agent_any (s : ByteArray) (t : Int) (w : World) : Calls Tryd.prog 9 #[.string s, .int .i64 t] w fun e w' => ∃ a ok, e = .returned (.tuple #[.int .i64 a, .bool ok]) ∧ AgentP s t a ok ∧ Below w.heap.size w w' := by
  have h8 := agN_in t
  obtain ⟨G, eG⟩ : ∃ G : Nat, agN t = G := ⟨(agN t).toNat, by omega⟩
  have hg := fun W => agents_any t W
  have hn := fun (a : Nat) (h : a < G) W => name_some a t (by rw [eG]; omega) W
  rw [eG] at hg h8
  have HG := Lib.hid eG
  clear eG
  go_enter Tryd.func9, Tryd.ntmps9
  go_wp2_with (go_at_call 19; refine (hg _).mono ?_; rintro e w' ⟨rfl, rfl⟩)
  go_loopw [6, 9] (fun _ i wr => ∃ k : Nat, i = .int .i64 k ∧ k ≤ G ∧ Below w.heap.size w wr ∧ ∀ j : Nat, j < k → nameT j t ≠ s) (fun _ i _ => G - (intOf i).toNat)
  case atStart => exact ⟨0, rfl, Nat.zero_le _, Below.refl _ _, fun j hj => by omega⟩
  case round =>
    obtain ⟨k, rfl, hk, hb, hall⟩ := hrel
    by_cases hlt : k < G
    · have t0 : decide ((k : Int) < (G : Int)) = true := decide_eq_true (by omega)
      have hnk := fun W => hn k hlt W
      have hk1 : IntKind.i64.wrap ((k : Int) + 1) = ((k + 1 : Nat) : Int) := by rw [IntKind.wrap_i64]; omega
      obtain ⟨X, eX⟩ : ∃ X, nameT (k : Int) t = X := ⟨_, rfl⟩
      rw [eX] at hnk
      by_cases hs : X = s
      · have hq : (X.toList == s.toList) = true := by rw [eq_txt]; exact decide_eq_true hs
        have HH := Lib.hid (And.intro eX hs)
        clear eX hs hall
        go_wp2_with fail
        refine (hnk _).mono ?_
        rintro e w1 ⟨rfl, hb1⟩
        go_wp2
        go_ret2
        exact ⟨_, _, rfl, .inl ⟨rfl, by omega, by rw [HG.out]; omega, by rw [HH.out.1, HH.out.2]⟩, hb.trans (hb1.mono hb.size)⟩
      · have hq : (X.toList == s.toList) = false := by rw [eq_txt]; exact decide_eq_false hs
        have HH := Lib.hid (And.intro eX (And.intro hs hall))
        clear eX hs hall
        go_wp2_with fail
        refine (hnk _).mono ?_
        rintro e w1 ⟨rfl, hb1⟩
        go_wp2
        go_roundw
        case rel =>
          refine ⟨k + 1, by simp, by omega, hb.trans (hb1.mono hb.size), fun j hj => ?_⟩
          rcases Nat.lt_or_ge j k with h | h
          · exact HH.out.2.2 j h
          · obtain rfl : j = k := by omega
            rw [HH.out.1]
            exact HH.out.2.1
        case measure => simp [intOf]; omega
    · obtain rfl : k = G := by omega
      have t0 : decide ((k : Int) < (k : Int)) = false := decide_eq_false (by omega)
      have HH := Lib.hid hall
      clear hall
      go_wp2
      go_ret2
      refine ⟨_, _, rfl, .inr ⟨rfl, rfl, fun j h0 h1 => ?_⟩, hb⟩
      rw [HG.out] at h1
      have := HH.out j.toNat (by omega)
      rwa [Int.toNat_of_nonneg h0] at this
theorem nameT_inj {a b t : Int} (ha : 0 ≤ a) (hat : a < agN t) (hb : 0 ≤ b) (hbt : b < agN t) (h : nameT a t = nameT b t) : a = b := by
  have ht : 0 ≤ t ∧ t ≤ 4 := by
    by_cases q : 0 ≤ t ∧ t ≤ 4
    · exact q
    · rw [agN_none q] at hat; omega
  rw [agN_some ht.1 ht.2] at hat hbt
  have key : ∀ (x y : Int), 0 ≤ x → x < 8 → 0 ≤ y → y < 8 → UInt8.ofNat x.toNat = UInt8.ofNat y.toNat → x = y := by
    intro x y x0 x1 y0 y1 e
    have := congrArg UInt8.toNat e
    simp at this
    omega
  unfold nameT at h
  split at h <;> split at h
  · have := txt_inj h
    simp at this
    exact key a b (by omega) (by omega) (by omega) (by omega) this
  · have := txt_inj h
    simp at this
  · have := txt_inj h
    simp at this
  · have := txt_inj h
    simp at this
    have := key (a - t) (b - t) (by omega) (by omega) (by omega) (by omega) this
    omega
theorem nameT_ne (a t : Int) : nameT a t ≠ ⟨#[]⟩ := by
  intro h
  have := congrArg ByteArray.size h
  unfold nameT at this
  split at this <;> rw [txt_size] at this <;> simp at this <;> exact absurd this (by decide)
end Go.Proofs.YtcgoaallfhompaaDoor
