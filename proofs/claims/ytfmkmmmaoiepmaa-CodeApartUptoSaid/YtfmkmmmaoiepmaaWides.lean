/- States of numbers of 64 bits, whose lists are not too long. Conditions: none. -/
import Derived.Test.YtfmkmmmaoiepmaaFew
namespace Go.Proofs.Ytfmkmmmaoiepmaa
set_option linter.unusedSimpArgs false
set_option linter.unusedVariables false
open Go.RowKit Go.ChangeShapes Go.WideShapes

/-- All of a thread's numbers. -/
def Tc.all (t : Tc) : List Int := t.x.key ++ (t.z ++ (t.l.flatMap Bg.ns ++ (t.s ++ [t.x.old])))
structure WideS (c : Sc) (bl : List Bu) : Prop where
  th : ∀ t ∈ c.th, ∀ x ∈ t.all, Wide x
  bu : ∀ b ∈ bl, ∀ e ∈ b.2, ∀ x ∈ e.ns, Wide x
  ro : ∀ v ∈ c.ro, ∀ x ∈ v.ns, Wide x
  sl : ∀ v ∈ c.sl, ∀ x ∈ v.ns, Wide x
  ce : ∀ v ∈ c.ce, ∀ x ∈ v.ns, Wide x
  fr : ∀ x ∈ c.fr, Wide x
  ep : Wide c.ep
  ma : ∀ x ∈ c.ma, Wide x
  co : ∀ x ∈ c.co, Wide x
structure Caps (c : Sc) (bl : List Bu) : Prop where
  t : ∀ t ∈ c.th, TOk t
  b : ∀ b ∈ bl, b.2.length ≤ 1048576
  ma : c.ma.length ≤ 1048576
  co : c.co.length ≤ 1048576
theorem few_fits {c : Sc} {bl : List Bu} (h : Caps c bl) : Fits c.few (bl.take 4) := by
  have k : ∀ {α : Type} (l : List α) (m : Nat), (l.take m).length ≤ m := fun l m => by rw [List.length_take]; omega
  have k8 : ∀ {α : Type} (l : List α) (m : Nat), m ≤ 8 → (l.take m).length ≤ 1048576 := fun l m hm => by rw [List.length_take]; omega
  exact ⟨k _ 4, fun t ht => h.t t (List.mem_of_mem_take ht), k _ 4, fun b hb => h.b b (List.mem_of_mem_take hb), k8 _ 6 (by omega), k8 _ 8 (by omega), k8 _ 6 (by omega), k8 _ 8 (by omega), h.ma, h.co⟩
theorem few_wide {c : Sc} {bl : List Bu} (h : WideS c bl) : WideS c.few (bl.take 4) :=
  ⟨fun t ht => h.th t (List.mem_of_mem_take ht), fun b hb => h.bu b (List.mem_of_mem_take hb), fun v hv => h.ro v (List.mem_of_mem_take hv), fun v hv => h.sl v (List.mem_of_mem_take hv), fun v hv => h.ce v (List.mem_of_mem_take hv), fun v hv => h.fr v (List.mem_of_mem_take hv), h.ep, h.ma, h.co⟩
theorem wide_len {n : Nat} (h : n ≤ 100000000) : Wide (n : Int) := by unfold Wide; omega
theorem many_wide {α : Type} {f : α → List Int} {l : List α} (hl : l.length ≤ 100000000) (h : ∀ a ∈ l, ∀ x ∈ f a, Wide x) : ∀ x ∈ many f l, Wide x := by
  intro x hx
  rcases List.mem_cons.1 hx with rfl | hx
  · exact wide_len hl
  · obtain ⟨a, ha, hx⟩ := List.mem_flatMap.1 hx
    exact h a ha x hx
theorem one_wide {l : List Int} (h : ∀ x ∈ l, Wide x) : ∀ a ∈ l, ∀ x ∈ one a, Wide x := fun a ha x hx => by
  rw [List.mem_singleton.1 hx]
  exact h a ha
theorem app_wide {a b : List Int} (h : ∀ x ∈ a, Wide x) (k : ∀ x ∈ b, Wide x) : ∀ x ∈ a ++ b, Wide x := fun x hx => (List.mem_append.1 hx).elim (h x) (k x)
theorem tc_wide {t : Tc} (h : ∀ x ∈ t.all, Wide x) (k : TOk t) : ∀ x ∈ t.ns, Wide x := by
  obtain ⟨k1, k2, k3⟩ := k
  have e : ∀ x, x ∈ t.x.key ∨ x ∈ t.z ∨ x ∈ t.l.flatMap Bg.ns ∨ x ∈ t.s ∨ x = t.x.old → Wide x := fun x hx => h x (by unfold Tc.all; simpa only [List.mem_append, List.mem_singleton] using hx)
  exact app_wide (fun x hx => e x (.inl hx)) (app_wide (many_wide (by omega) (one_wide fun x hx => e x (.inr (.inl hx)))) (app_wide (many_wide (by omega) fun a ha x hx => e x (.inr (.inr (.inl (List.mem_flatMap.2 ⟨a, ha, hx⟩)))))
    (app_wide (many_wide (by omega) (one_wide fun x hx => e x (.inr (.inr (.inr (.inl hx)))))) fun x hx => e x (.inr (.inr (.inr (.inr (List.mem_singleton.1 hx))))))))
/-- All of its numbers, with how many there are. -/
theorem sc_wide {c : Sc} {bl : List Bu} (h : WideS c bl) (k : Fits c bl) (eb : c.bu = bl.map Prod.snd) : ∀ x ∈ c.ns, Wide x := by
  obtain ⟨k1, k2, k3, k4, k5, k6, k7, k8, k9, k10⟩ := k
  unfold Sc.ns Sc.sh
  rw [many_bu eb]
  exact app_wide (many_wide (by omega) fun t ht => tc_wide (h.th t ht) (k2 t ht)) (app_wide (many_wide (by omega) fun b hb => many_wide (by have := k4 b hb; omega) (h.bu b hb))
    (app_wide (many_wide (by omega) h.ro) (app_wide (many_wide (by omega) h.sl) (app_wide (many_wide (by omega) h.ce) (app_wide (many_wide (by omega) (one_wide h.fr)) (app_wide (fun x hx => by rw [List.mem_singleton.1 hx]; exact h.ep) (app_wide (many_wide (by omega) (one_wide h.ma)) (many_wide (by omega) (one_wide h.co)))))))))
end Go.Proofs.Ytfmkmmmaoiepmaa
