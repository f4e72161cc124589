/- Which cells are reached: by definition, by a search that follows what waits, round by round. Conditions: none. -/
import Derived.Test.YtenobgelhkpjcaaBase
namespace Go.Proofs.Ytenobgelhkpjcaa

/-- The place to which a word leads. -/
def leads (C : List Cel) (x : Wd) : Option Nat :=
  if 1 ≤ x.c then
    match C[(x.c - 1).toNat]? with
    | some c => if c.s ≠ 0 ∧ c.g = x.g then some (x.c - 1).toNat else none
    | none => none
  else none
theorem leads_some {C : List Cel} {x : Wd} {i : Nat} (h : leads C x = some i) : ∃ c, C[i]? = some c ∧ x.c = (i : Int) + 1 ∧ c.s ≠ 0 ∧ c.g = x.g := by
  unfold leads at h
  by_cases h1 : 1 ≤ x.c
  · rw [if_pos h1] at h
    cases hc : C[(x.c - 1).toNat]? with
    | none => rw [hc] at h; cases h
    | some c =>
      rw [hc] at h
      simp only at h
      by_cases h2 : c.s ≠ 0 ∧ c.g = x.g
      · rw [if_pos h2] at h
        injection h with h
        subst h
        exact ⟨c, hc, by omega, h2.1, h2.2⟩
      · rw [if_neg h2] at h; cases h
  · rw [if_neg h1] at h; cases h
theorem leads_of {C : List Cel} {x : Wd} {i : Nat} {c : Cel} (hc : C[i]? = some c) (hx : x.c = (i : Int) + 1) (h0 : c.s ≠ 0) (h1 : c.g = x.g) : leads C x = some i := by
  unfold leads
  have e : (x.c - 1).toNat = i := by omega
  rw [if_pos (by omega), e, hc]
  exact if_pos ⟨h0, h1⟩
theorem leads_lt {C : List Cel} {x : Wd} {i : Nat} (h : leads C x = some i) : i < C.length := by
  obtain ⟨c, hc, _⟩ := leads_some h
  exact (List.getElem?_eq_some_iff.1 hc).1

/-- A cell is reached. -/
inductive Rch (C : List Cel) (l : List Wd) : Nat → Prop
  | word {x : Wd} {i : Nat} : x ∈ l → leads C x = some i → Rch C l i
  | fld {k i : Nat} {c : Cel} : Rch C l k → C[k]? = some c → (leads C c.x = some i ∨ leads C c.y = some i) → Rch C l i
theorem Rch.lt {C : List Cel} {l : List Wd} {i : Nat} (h : Rch C l i) : i < C.length := by
  cases h with
  | word _ h => exact leads_lt h
  | fld _ _ h => exact h.elim leads_lt leads_lt
theorem Rch.more {C : List Cel} {l l' : List Wd} {i : Nat} (h : Rch C l i) (hl : ∀ x ∈ l, x ∈ l') : Rch C l' i := by
  induction h with
  | word hx h => exact .word (hl _ hx) h
  | fld _ hc h ih => exact .fld ih hc h
/-- Just those are told. -/
structure IsReach (C : List Cel) (l : List Wd) (R : List Bool) : Prop where
  len : R.length = C.length
  just : ∀ i : Nat, R[i]? = some true ↔ Rch C l i
theorem IsReach.eq {C : List Cel} {l : List Wd} {R R' : List Bool} (h : IsReach C l R) (h' : IsReach C l R') : R = R' := by
  apply List.ext_getElem (h.len.trans h'.len.symm)
  intro i h1 h2
  have a := h.just i
  have b := h'.just i
  rw [List.getElem?_eq_getElem h1] at a
  rw [List.getElem?_eq_getElem h2] at b
  have e : (R[i] = true) ↔ (R'[i] = true) := by
    constructor
    · intro e; have := b.2 (a.1 (by rw [e])); injection this
    · intro e; have := a.2 (b.1 (by rw [e])); injection this
  exact Bool.eq_iff_iff.2 e

/-! ### the search -/
/-- Which were reached, and which of them wait. -/
structure Sta where
  R : List Bool
  Q : List Nat
def Sta.step (C : List Cel) (s : Sta) (x : Wd) : Sta :=
  match leads C x with
  | none => s
  | some i => if s.R[i]? = some true then s else ⟨s.R.set i true, s.Q ++ [i]⟩
def Sta.follow (C : List Cel) (s : Sta) (l : List Wd) : Sta := l.foldl (Sta.step C) s
def Sta.meas (s : Sta) : Nat := 2 * s.R.count false + s.Q.length
theorem follow_snoc (C : List Cel) (s : Sta) (l : List Wd) (x : Wd) : s.follow C (l ++ [x]) = (s.follow C l).step C x := by
  unfold Sta.follow
  rw [List.foldl_append]
  rfl
structure Good (C : List Cel) (l : List Wd) (s : Sta) : Prop where
  len : s.R.length = C.length
  sound : ∀ i : Nat, s.R[i]? = some true → Rch C l i
  queue : ∀ q ∈ s.Q, s.R[q]? = some true
  sum : s.R.count false + s.Q.length ≤ C.length
theorem count_set : ∀ (R : List Bool) (i : Nat), R[i]? = some false → (R.set i true).count false + 1 = R.count false
  | [], i, h => by simp at h
  | b :: r, 0, h => by
    simp at h
    subst h
    simp
  | b :: r, i + 1, h => by
    have := count_set r i (by simpa using h)
    rw [List.set_cons_succ, List.count_cons, List.count_cons]
    omega
theorem set_true (R : List Bool) (i j : Nat) (h : R[j]? = some true) : (R.set i true)[j]? = some true := by
  rw [List.getElem?_set]
  split
  · split
    · rfl
    · rename_i e1 e2
      subst e1
      exact absurd (List.getElem?_eq_some_iff.1 h).1 e2
  · exact h
theorem set_true_self (R : List Bool) (i : Nat) (h : i < R.length) : (R.set i true)[i]? = some true := by simp [h]
theorem set_true_back (R : List Bool) (i j : Nat) (h : (R.set i true)[j]? = some true) : j = i ∨ R[j]? = some true := by
  rw [List.getElem?_set] at h
  split at h
  · rename_i e; exact .inl e.symm
  · exact .inr h
/-- What a step leaves. -/
structure Onto (C : List Cel) (s s' : Sta) : Prop where
  keep : ∀ i : Nat, s.R[i]? = some true → s'.R[i]? = some true
  wait : ∀ q ∈ s.Q, q ∈ s'.Q
  new : ∀ i : Nat, s'.R[i]? = some true → s.R[i]? = some true ∨ i ∈ s'.Q
  meas : s'.meas ≤ s.meas
theorem Onto.refl (C : List Cel) (s : Sta) : Onto C s s := ⟨fun _ h => h, fun _ h => h, fun _ h => .inl h, Nat.le_refl _⟩
theorem Onto.trans {C : List Cel} {s s' s'' : Sta} (h : Onto C s s') (h' : Onto C s' s'') : Onto C s s'' :=
  ⟨fun i e => h'.keep i (h.keep i e), fun q e => h'.wait q (h.wait q e), fun i e => (h'.new i e).elim (fun e => (h.new i e).elim .inl (fun e => .inr (h'.wait _ e))) .inr, Nat.le_trans h'.meas h.meas⟩
theorem not_true {R : List Bool} {i : Nat} (h : i < R.length) (hn : ¬ R[i]? = some true) : R[i]? = some false := by
  rw [List.getElem?_eq_getElem h] at hn ⊢
  cases e : R[i] with
  | true => rw [e] at hn; exact absurd rfl hn
  | false => rfl
theorem Good.step {C : List Cel} {l : List Wd} {s : Sta} (h : Good C l s) (x : Wd) (hx : ∀ i, leads C x = some i → Rch C l i) :
    Good C l (s.step C x) ∧ Onto C s (s.step C x) ∧ ∀ i, leads C x = some i → (s.step C x).R[i]? = some true := by
  unfold Sta.step
  cases hl : leads C x with
  | none => exact ⟨h, Onto.refl _ _, fun i e => by cases e⟩
  | some i =>
    have hi := leads_lt hl
    simp only
    by_cases h1 : s.R[i]? = some true
    · rw [if_pos h1]
      exact ⟨h, Onto.refl _ _, fun j e => by injection e with e; subst e; exact h1⟩
    · rw [if_neg h1]
      have h2 := not_true (by rw [h.len]; exact hi) h1
      have h3 := count_set s.R i h2
      have h4 := h.sum
      refine ⟨⟨by simp [h.len], fun j e => ?_, fun q hq => ?_, ?_⟩, ⟨fun j e => set_true _ _ _ e, fun q hq => List.mem_append_left _ hq, fun j e => ?_, ?_⟩, fun j e => ?_⟩
      · rcases set_true_back _ _ _ e with e | e
        · subst e; exact hx _ hl
        · exact h.sound _ e
      · rcases List.mem_append.1 hq with e | e
        · exact set_true _ _ _ (h.queue _ e)
        · rw [List.mem_singleton] at e
          subst e
          exact set_true_self _ _ (by rw [h.len]; exact hi)
      · show (s.R.set i true).count false + (s.Q ++ [i]).length ≤ C.length
        rw [List.length_append, List.length_singleton]
        omega
      · rcases set_true_back _ _ _ e with e | e
        · subst e; exact .inr (by simp)
        · exact .inl e
      · unfold Sta.meas
        simp only [List.length_append, List.length_singleton]
        omega
      · injection e with e
        subst e
        exact set_true_self _ _ (by rw [h.len]; exact hi)
theorem Good.follow {C : List Cel} {l : List Wd} : ∀ (m : List Wd) (s : Sta), Good C l s → (∀ x ∈ m, ∀ i, leads C x = some i → Rch C l i) →
    Good C l (s.follow C m) ∧ Onto C s (s.follow C m) ∧ ∀ x ∈ m, ∀ i, leads C x = some i → (s.follow C m).R[i]? = some true
  | [], s, h, _ => ⟨h, Onto.refl _ _, fun x hx => by cases hx⟩
  | x :: m, s, h, hm => by
    obtain ⟨h1, h2, h3⟩ := h.step x (hm x (by simp))
    obtain ⟨h4, h5, h6⟩ := Good.follow m (s.step C x) h1 (fun y hy => hm y (by simp [hy]))
    refine ⟨h4, h2.trans h5, fun y hy i e => ?_⟩
    rcases List.mem_cons.1 hy with rfl | hy
    · exact h5.keep _ (h3 _ e)
    · exact h6 y hy i e
/-- Of what was reached all was followed, but of what waits. -/
structure Seek (C : List Cel) (l : List Wd) (s : Sta) : Prop where
  good : Good C l s
  words : ∀ x ∈ l, ∀ i, leads C x = some i → s.R[i]? = some true
  flds : ∀ (k : Nat) (c : Cel), s.R[k]? = some true → C[k]? = some c → k ∈ s.Q ∨ ∀ i, (leads C c.x = some i ∨ leads C c.y = some i) → s.R[i]? = some true
def sta0 (n : Nat) : Sta := ⟨List.replicate n false, []⟩
theorem good0 (C : List Cel) (l : List Wd) : Good C l (sta0 C.length) :=
  ⟨by simp [sta0], fun i h => by simp [sta0, List.getElem?_replicate] at h, fun q h => by simp [sta0] at h, by simp [sta0]⟩
theorem seek0 (C : List Cel) (l : List Wd) : Seek C l ((sta0 C.length).follow C l) := by
  obtain ⟨h1, h2, h3⟩ := (good0 C l).follow l (sta0 C.length) (fun x hx i e => .word hx e)
  refine ⟨h1, h3, fun k c hk hc => ?_⟩
  rcases h2.new k hk with e | e
  · simp [sta0, List.getElem?_replicate] at e
  · exact .inl e
theorem Seek.next {C : List Cel} {l : List Wd} {s : Sta} {Q : List Nat} {q : Nat} {c : Cel} (h : Seek C l s) (hq : s.Q = Q ++ [q]) (hc : C[q]? = some c) :
    Seek C l ((⟨s.R, Q⟩ : Sta).follow C [c.x, c.y]) ∧ ((⟨s.R, Q⟩ : Sta).follow C [c.x, c.y]).meas < s.meas := by
  have hqm : q ∈ s.Q := by rw [hq]; simp
  have hr := h.good.sound q (h.good.queue q hqm)
  have g : Good C l (⟨s.R, Q⟩ : Sta) := ⟨h.good.len, h.good.sound, fun p hp => h.good.queue p (by rw [hq]; simp [hp]), by
    have := h.good.sum
    rw [hq, List.length_append, List.length_singleton] at this
    show s.R.count false + Q.length ≤ _
    omega⟩
  obtain ⟨h1, h2, h3⟩ := g.follow [c.x, c.y] (⟨s.R, Q⟩ : Sta) (fun x hx i e => by
    rcases List.mem_cons.1 hx with rfl | hx
    · exact .fld hr hc (.inl e)
    · rw [List.mem_singleton] at hx
      subst hx
      exact .fld hr hc (.inr e))
  refine ⟨⟨h1, fun x hx i e => h2.keep _ (h.words x hx i e), fun k c' hk hc' => ?_⟩, ?_⟩
  · rcases h2.new k hk with e | e
    · rcases h.flds k c' e hc' with e2 | e2
      · rw [hq] at e2
        rcases List.mem_append.1 e2 with e2 | e2
        · exact .inl (h2.wait _ e2)
        · rw [List.mem_singleton] at e2
          subst e2
          rw [hc] at hc'
          injection hc' with hc'
          subst hc'
          refine .inr fun i ei => ?_
          rcases ei with ei | ei
          · exact h3 c.x (by simp) i ei
          · exact h3 c.y (by simp) i ei
      · exact .inr fun i ei => h2.keep _ (e2 i ei)
    · exact .inl e
  · have := h2.meas
    have e : s.meas = (⟨s.R, Q⟩ : Sta).meas + 1 := by
      unfold Sta.meas
      rw [hq]
      simp
      omega
    omega
theorem Seek.done {C : List Cel} {l : List Wd} {s : Sta} (h : Seek C l s) (hq : s.Q = []) : IsReach C l s.R := by
  refine ⟨h.good.len, fun i => ⟨h.good.sound i, fun e => ?_⟩⟩
  induction e with
  | word hx e => exact h.words _ hx _ e
  | fld _ hc e ih =>
    rcases h.flds _ _ ih hc with e2 | e2
    · rw [hq] at e2; cases e2
    · exact e2 _ e

/-! ### round by round -/
def From (C : List Cel) (l : List Wd) (G : List Bool) (i : Nat) : Prop :=
  (∃ x ∈ l, leads C x = some i) ∨ ∃ (k : Nat) (c : Cel), G[k]? = some true ∧ C[k]? = some c ∧ (leads C c.x = some i ∨ leads C c.y = some i)
theorem From.lt {C : List Cel} {l : List Wd} {G : List Bool} {i : Nat} (h : From C l G i) : i < C.length := by
  rcases h with ⟨x, _, h⟩ | ⟨k, c, _, _, h⟩
  · exact leads_lt h
  · exact h.elim leads_lt leads_lt
theorem From.mono {C : List Cel} {l : List Wd} {G G' : List Bool} {i : Nat} (h : From C l G i) (hG : ∀ k : Nat, G[k]? = some true → G'[k]? = some true) : From C l G' i := by
  rcases h with h | ⟨k, c, hk, hc, h⟩
  · exact .inl h
  · exact .inr ⟨k, c, hG k hk, hc, h⟩
theorem From.rch {C : List Cel} {l : List Wd} {G : List Bool} {i : Nat} (h : From C l G i) (hG : ∀ k : Nat, G[k]? = some true → Rch C l k) : Rch C l i := by
  rcases h with ⟨x, hx, h⟩ | ⟨k, c, hk, hc, h⟩
  · exact .word hx h
  · exact .fld (hG k hk) hc h
theorem count_le : ∀ (G G' : List Bool), G.length = G'.length → (∀ k : Nat, G[k]? = some true → G'[k]? = some true) → G.count true ≤ G'.count true ∧ ((∃ k : Nat, G'[k]? = some true ∧ ¬ G[k]? = some true) → G.count true < G'.count true)
  | [], [], _, _ => ⟨Nat.le_refl _, fun ⟨k, h, _⟩ => by simp at h⟩
  | [], _ :: _, h, _ => by simp at h
  | _ :: _, [], h, _ => by simp at h
  | a :: r, b :: s, h, hm => by
    obtain ⟨h1, h2⟩ := count_le r s (by simpa using h) (fun k hk => by simpa using hm (k + 1) (by simpa using hk))
    have h0 : a = true → b = true := fun e => by simpa using hm 0 (by simp [e])
    rw [List.count_cons, List.count_cons]
    refine ⟨?_, ?_⟩
    · cases a <;> cases b <;> simp_all <;> omega
    · rintro ⟨k, e1, e2⟩
      cases k with
      | zero =>
        simp at e1 e2
        subst e1
        simp [e2]
        omega
      | succ k =>
        have := h2 ⟨k, by simpa using e1, by simpa using e2⟩
        cases a <;> cases b <;> simp_all <;> omega
theorem all_true (G : List Bool) (h : G.length ≤ G.count true) (i : Nat) (hi : i < G.length) : G[i]? = some true := by
  have h1 : G.count true = G.length := Nat.le_antisymm List.count_le_length h
  have := List.count_eq_length.1 h1
  rw [List.getElem?_eq_getElem hi]
  exact congrArg some (this _ (List.getElem_mem hi)).symm
/-- Within a round. -/
structure Mid (C : List Cel) (l : List Wd) (G0 G : List Bool) (j : Nat) : Prop where
  len : G.length = C.length
  sound : ∀ i : Nat, G[i]? = some true → Rch C l i
  keep : ∀ i : Nat, G0[i]? = some true → G[i]? = some true
  done : ∀ i : Nat, i < j → From C l G0 i → G[i]? = some true
/-- Behind t rounds. -/
structure Rnd (C : List Cel) (l : List Wd) (G : List Bool) (t : Nat) : Prop where
  len : G.length = C.length
  sound : ∀ i : Nat, G[i]? = some true → Rch C l i
  far : IsReach C l G ∨ t ≤ G.count true
theorem rnd0 (C : List Cel) (l : List Wd) : Rnd C l (List.replicate C.length false) 0 :=
  ⟨by simp, fun i h => by simp [List.getElem?_replicate] at h, .inr (Nat.zero_le _)⟩
theorem Rnd.mid {C : List Cel} {l : List Wd} {G : List Bool} {t : Nat} (h : Rnd C l G t) : Mid C l G G 0 := ⟨h.len, h.sound, fun _ h => h, fun _ hi => absurd hi (Nat.not_lt_zero _)⟩
theorem Mid.next {C : List Cel} {l : List Wd} {G0 G : List Bool} {j : Nat} {b : Bool} (h : Mid C l G0 G j) (hj : j < C.length) (hb : b = true ↔ (G[j]? = some true ∨ From C l G j)) : Mid C l G0 (G.set j b) (j + 1) := by
  have hjl : j < G.length := by rw [h.len]; exact hj
  have hk : ∀ i : Nat, G[i]? = some true → (G.set j b)[i]? = some true := fun i e => by
    rw [List.getElem?_set]
    split
    · rename_i e1
      subst e1
      rw [hb.2 (.inl e)]
    · exact e
  refine ⟨by simp [h.len], fun i e => ?_, fun i e => hk i (h.keep i e), fun i hi hf => ?_⟩
  · rw [List.getElem?_set] at e
    split at e
    · rename_i e1
      subst e1
      injection e with e
      rcases hb.1 e with e | e
      · exact h.sound _ e
      · exact e.rch h.sound
    · exact h.sound _ e
  · by_cases e : i = j
    · subst e
      rw [List.getElem?_set, if_pos rfl, if_pos hjl, hb.2 (.inr (hf.mono h.keep))]
    · exact hk i (h.done i (by omega) hf)
theorem Mid.round {C : List Cel} {l : List Wd} {G0 G : List Bool} {t : Nat} (h : Mid C l G0 G C.length) (h0 : Rnd C l G0 t) : Rnd C l G (t + 1) := by
  refine ⟨h.len, h.sound, ?_⟩
  by_cases hc : ∀ i : Nat, From C l G0 i → G0[i]? = some true
  · refine .inl ⟨h.len, fun i => ⟨h.sound i, fun e => ?_⟩⟩
    refine h.keep i ?_
    induction e with
    | word hx e => exact hc _ (.inl ⟨_, hx, e⟩)
    | fld _ hk e ih => exact hc _ (.inr ⟨_, _, ih, hk, e⟩)
  · obtain ⟨i, hi⟩ := Classical.not_forall.1 hc
    obtain ⟨hf, hn⟩ := Classical.not_imp.1 hi
    have hs := (count_le G0 G (h0.len.trans h.len.symm) h.keep).2 ⟨i, h.done i hf.lt hf, hn⟩
    rcases h0.far with e | e
    · exact absurd ((e.just i).2 (hf.rch h0.sound)) hn
    · exact .inr (by omega)
theorem Rnd.done {C : List Cel} {l : List Wd} {G : List Bool} (h : Rnd C l G C.length) : IsReach C l G := by
  rcases h.far with e | e
  · exact e
  · exact ⟨h.len, fun i => ⟨h.sound i, fun hr => all_true G (by rw [h.len]; exact e) i (by rw [h.len]; exact hr.lt)⟩⟩
end Go.Proofs.Ytenobgelhkpjcaa
