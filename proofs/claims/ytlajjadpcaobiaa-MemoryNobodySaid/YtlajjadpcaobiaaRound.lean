/- A region that draws its order, within a round of a range over a function: what is shown of it outside of any round serves within one, if its operations call nothing. Conditions: the operations are of six kinds. -/
import Derived.Test.YtlajjadpcaobiaaBase
import Derived.OrdersIn
import Derived.OwnWalkIn
import Derived.Deep.RegionHeld3
namespace Go.Proofs.Ytlajjadpcaobiaa
open Go.RowKit

/-- It calls nothing, and defers nothing: what comes of it is a value, or nothing. -/
structure Calm (P : Program) (o : Oper) : Prop where
  about : ∀ w ρ, o.about P w ρ = none
  defer : ∀ c, o.op ≠ .defer c
  ends : ∀ ρ w r w', (execOp ρ o).run P w = .ok r w' → (∃ v, r = .value v) ∨ r = .skip
/-- Only the usual end. -/
def Norm (Q : Exit → Act → World → Prop) (e : Exit) (a : Act) (w : World) : Prop := e = .normal ∧ Q .normal a w
section
variable {F : Fence} {n : Nat} {P : Program} {ops : Array Oper} {Q : Exit → Act → World → Prop} {md : Region.Mode}
theorem any_in (hc : ∀ (i : Nat) (o : Oper), ops[i]? = some o → Calm P o) : ∀ (fuel : Nat) (listed : Array Bool) (a : Act) (w : World), wpAny P md ops (Norm Q) fuel listed a w → wpAnyIn F n P md ops Q fuel listed a w
  | 0, _, _, _, h => ⟨h.1, h.2.2⟩
  | fuel + 1, listed, a, w, h => by
    refine ⟨fun h0 => (h.1 h0).2, fun i hi => ?_⟩
    have h1 := h.2 i hi
    unfold wpOp at h1
    unfold wpOpIn
    cases ho : ops[i]? with
    | none =>
      rw [ho] at h1
      exact any_in hc fuel _ _ _ h1
    | some o =>
      rw [ho] at h1
      simp only at h1 ⊢
      obtain ⟨c1, c2, c3⟩ := hc i o ho
      by_cases hw : Region.wanted o (yielded ops a.tmps) = true
      · rw [if_pos hw] at h1 ⊢
        rcases h1 with h1 | ⟨_, a', w', hl, _⟩
        · unfold Oper.wp at h1
          refine ⟨fun f hf => (by rw [c1] at hf; cases hf), ?_⟩
          rw [Oper.semAt_plain F _ o c2]
          have c4 := c3 a.eval w
          generalize (execOp a.eval o).run P w = r at h1 c4
          cases r with
          | ok x w' =>
            rcases c4 x w' rfl with ⟨v, rfl⟩ | rfl
            · exact any_in hc fuel _ _ _ h1
            · exact any_in hc fuel _ _ _ h1
          | halt x w' =>
            cases x <;> first | exact h1.elim | exact absurd h1.1 (by simp)
        · cases hl
      · rw [if_neg hw] at h1 ⊢
        exact ⟨fun f hf => (by rw [c1] at hf; cases hf), any_in hc fuel _ _ _ h1⟩
/-- The region within a round, out of the region as it is anywhere. -/
theorem region_in {S : World → Prop} {id : Nat} {a : Act} {w : World} (hm : P.follows .mixedOrders = true) (hc : ∀ (i : Nat) (o : Oper), ops[i]? = some o → Calm P o)
    (h : wpAnyH P .any ops (Norm Q) S ops.size (Array.replicate ops.size false) a w.drew) : (Code.region id ops true).wpIn F n P Q a w :=
  wpIn_region_any hm (any_in hc _ _ _ _ (wpAny_of_held _ _ _ _ h))
theorem all_calm {l : List Oper} (h : ∀ o ∈ l, Calm P o) : ∀ (i : Nat) (o : Oper), l.toArray[i]? = some o → Calm P o := fun i o ho => h o (by
  rw [List.getElem?_toArray] at ho
  exact List.mem_of_getElem? ho)
theorem bind_ok {α β : Type} {s : Sem α} {f : α → Sem β} {w w' : World} {r : β} (h : (s >>= f).run P w = .ok r w') : ∃ x w1, s.run P w = .ok x w1 ∧ (f x).run P w1 = .ok r w' := by
  rw [Sem.run_bind] at h
  cases hs : s.run P w with
  | ok x w1 =>
    rw [hs] at h
    exact ⟨x, w1, rfl, h⟩
  | halt x w1 =>
    rw [hs] at h
    cases h
theorem pure_ok {α : Type} {x r : α} {w w' : World} (h : (pure x : Sem α).run P w = .ok r w') : r = x := by
  rw [Sem.run_pure] at h
  injection h with h _
  exact h.symm
theorem val_ok {s : Sem Value} {w w' : World} {r : Next} (h : (do pure (Next.value (← s)) : Sem Next).run P w = .ok r w') : ∃ v, r = .value v := by
  obtain ⟨x, w1, _, h2⟩ := bind_ok h
  exact ⟨x, pure_ok h2⟩
theorem unit_ok {s : Sem Unit} {w w' : World} {r : Next} (h : (do s; pure Next.skip : Sem Next).run P w = .ok r w') : r = .skip := by
  obtain ⟨x, w1, _, h2⟩ := bind_ok h
  exact pure_ok h2
variable {d : Option Tmp} {t : TypeId} {p : String} {af : Array Edge} {g : Option (Nat × Bool)}
theorem calm_move (x : Operand) : Calm P ⟨d, .move x, t, p, af, g⟩ := ⟨fun _ _ => rfl, fun c h => (by cases h), fun ρ w r w' h => .inl ⟨ρ x, pure_ok h⟩⟩
theorem calm_load (ty : TypeId) (x : Operand) : Calm P ⟨d, .load ty x, t, p, af, g⟩ := ⟨fun _ _ => rfl, fun c h => (by cases h), fun ρ w r w' h => .inl (val_ok h)⟩
theorem calm_field (ty : TypeId) (x : Operand) (f : Nat) : Calm P ⟨d, .fieldAddr ty x f, t, p, af, g⟩ := ⟨fun _ _ => rfl, fun c h => (by cases h), fun ρ w r w' h => .inl (val_ok h)⟩
theorem calm_update (ty : TypeId) (m x v : Operand) : Calm P ⟨d, .mapUpdate ty m x v, t, p, af, g⟩ := ⟨fun _ _ => rfl, fun c h => (by cases h), fun ρ w r w' h => .inr (unit_ok h)⟩
theorem calm_slice (ty : TypeId) (x : Operand) (lo hi mx : Option Operand) : Calm P ⟨d, .slice ty x lo hi mx, t, p, af, g⟩ := ⟨fun _ _ => rfl, fun c h => (by cases h), fun ρ w r w' h => .inl (val_ok h)⟩
theorem calm_store (ty : TypeId) (x y : Operand) : Calm P ⟨d, .store ty x y, t, p, af, g⟩ := ⟨fun _ _ => rfl, fun c h => (by cases h), fun ρ w r w' h => .inr (unit_ok h)⟩
theorem calm_nil (x : Operand) : Calm P ⟨d, .nilCheck x, t, p, af, g⟩ := ⟨fun _ _ => rfl, fun c h => (by cases h), fun ρ w r w' h => by
  have hp : ∀ v : Value, (pure (Next.value v) : Sem Next).run P w = .ok r w' → (∃ v, r = .value v) ∨ r = .skip := fun v h => .inl ⟨v, pure_ok h⟩
  unfold execOp at h
  simp only at h
  split at h
  · cases h
  · cases h
  · cases h
  · split at h
    · cases h
    · obtain ⟨b, w1, _, h2⟩ := bind_ok h
      obtain ⟨c, w2, _, h3⟩ := bind_ok h2
      split at h3
      · obtain ⟨u, w3, h4, _⟩ := bind_ok h3
        cases h4
      · exact .inl ⟨_, pure_ok h3⟩
    · exact hp _ h
  · exact hp _ h⟩
end
end Go.Proofs.Ytlajjadpcaobiaa
