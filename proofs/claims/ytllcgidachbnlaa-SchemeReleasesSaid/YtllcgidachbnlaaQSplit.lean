/- The first so many of a bag, and the others, in lists of the call's own. Conditions: room for the bag. -/
import Derived.Test.YtllcgidachbnlaaConcat
import Derived.Test.YtllcgidachbnlaaSmall
import Derived.Test.YtllcgidachbnlaaPair
namespace Go.Proofs.Ytllcgidachbnlaa
open Go.ChangeShapes Go.WideShapes Go.RowKit

theorem head_one {w W : World} {g : Nat} {A : Option Addr} {n cap : Nat} {l : List Bg} (eg : w.heap.size = g) (eW : W = w.alloc (.cells #[.slice A n cap] 33)) (h : SeesB w A n cap l) : Head W g [(⟨A, n, cap⟩, l)] := by
  subst eg
  have hb1 : Below w.heap.size w W := by rw [eW]; exact (Below.refl _ w).alloc (Nat.le_refl _) _
  exact ⟨by rw [eW]; exact heap_alloc_new w _, fun x hx => by
    rw [List.mem_singleton] at hx
    subst hx
    exact h.on hb1⟩
theorem Head.on' {w w' : World} {g : Nat} {H : List (Sl × List Bg)} (h : Head w g H) (hb : Below w.heap.size w w') : Head w' g H := h.on hb
theorem concat_one {w : World} {g : Nat} {A : Option Addr} {n cap : Nat} {l : List Bg} (h : Head w g [(⟨A, n, cap⟩, l)]) (hn : n * 24 ≤ 140737488355328) :
    Calls Try.prog 58 #[.slice (some ⟨g, 0, none⟩) 1 1] w fun e w' => ∃ A' c', e = .returned (.slice A' n c') ∧ w'.ownsRow w.heap.size 48 3 (.slice A' n c') n (flatB l) ∧ Below w.heap.size w w' := by
  have hl : l.length = n := (h.all _ (List.mem_singleton.2 rfl)).len
  refine (concat_any h (L := l) (by simp) (by omega) (by simp)).mono ?_
  rintro e w' ⟨A', c', rfl, ho, hb⟩
  rw [hl] at ho
  exact ⟨A', c', by rw [hl], ho, hb⟩
theorem from33 {A : Option Addr} {n cap : Nat} (k : Nat) (hk : k ≤ n) (w : World) :
    (Instr.slice 33 (.slice A n cap) (some (.int .i64 (k : Int))) none none).run Try.prog w = .ok (.slice (if cap = k then A else A.map (·.add (k * 3))) (n - k) (cap - k)) w := by
  rw [run_slice_l w 33 A n cap under33 .i64 _ (by omega) (by omega), sizeE33]
  simp [Result.andThen, sliced]
/-- What lies behind the first so many. -/
theorem Sees.rest {α : Type} {f : α → List Value} {k : Nat} (hf : ∀ x, (f x).length = k) {w : World} {A : Option Addr} {n cap : Nat} {l : List α} (h : Sees w k A n cap (l.flatMap f)) (m : Nat) (hm : m ≤ n) (hk : 0 < k) :
    Sees w k (if cap = m then A else A.map (·.add (m * k))) (n - m) (cap - m) ((l.drop m).flatMap f) := by
  have hl : l.length = n := by
    have := h.len
    rw [flat_len hf] at this
    exact Nat.eq_of_mul_eq_mul_right hk this
  have hr := h.room
  refine ⟨by rw [flat_len hf, List.length_drop]; congr 1; omega, by omega, Nat.le_trans (Nat.sub_le _ _) h.most, fun e => ?_, fun ad ha h0 => ?_⟩
  · split at e
    · omega
    · have := h.none_ (by simpa using e)
      omega
  · rw [if_neg (by omega)] at ha
    cases A with
    | none => cases ha
    | some ad0 =>
      obtain ⟨g, o, rfl, hg, hr2⟩ := h.cell ad0 rfl (by omega)
      simp only [Option.map_some, Option.some.injEq] at ha
      refine ⟨g, o + m * k, by rw [← ha, Addr.add_mid], hg, fun j v hv => ?_⟩
      have e2 : l.flatMap f = (l.take m).flatMap f ++ (l.drop m).flatMap f := by rw [← List.flatMap_append, List.take_append_drop]
      have el : ((l.take m).flatMap f).length = m * k := by
        rw [flat_len hf, List.length_take]
        congr 1
        omega
      rw [Nat.add_assoc]
      refine hr2 (m * k + j) v ?_
      rw [e2, List.getElem?_append_right (by rw [el]; omega), el]
      simpa using hv
theorem rest_in {w : World} {A : Option Addr} {n cap : Nat} {l : List Bg} (h : SeesB w A n cap l) (m : Nat) (hm : m ≤ n) : ∃ A2 q cap2, q = n - m ∧ SeesB w A2 q cap2 (l.drop m) ∧
    ∀ W, (Instr.slice 33 (.slice A n cap) (some (.int .i64 (m : Int))) none none).run Try.prog W = .ok (.slice A2 q cap2) W :=
  ⟨_, _, _, rfl, Sees.rest Bg.len h m hm (by omega), fun W => from33 m hm W⟩
theorem cl_nat (x : Int) (n : Nat) : ∃ k : Nat, cl x n = (k : Int) ∧ k ≤ n := by
  obtain ⟨h0, h1⟩ := cl_of x n (by omega)
  exact ⟨(cl x n).toNat, by omega, by omega⟩
set_option maxRecDepth 100000 in
set_option maxHeartbeats 4000000 in
theorem qsplit_any {w : World} {A : Option Addr} {n cap k : Nat} {l : List Bg} {x : Int} (h : SeesB w A n cap l) (hB : n * 24 ≤ 140737488355328) (hk : cl x n = (k : Int)) (hkn : k ≤ n) :
    Calls Try.prog 47 #[.slice A n cap, .int .i64 x] w fun e w' => ∃ A1 c1 A2 c2, e = .returned (.tuple #[.slice A1 k c1, .slice A2 (n - k) c2]) ∧ w'.ownsRow w.heap.size 48 3 (.slice A1 k c1) k (flatB (l.take k)) ∧ w'.ownsRow w.heap.size 48 3 (.slice A2 (n - k) c2) (n - k) (flatB (l.drop k)) ∧ Below w.heap.size w w' := by
  have hrm := Sees.room h
  have hA0 := Sees.none_ h
  have hmx := Sees.most h
  unfold maxLen at hmx
  obtain ⟨A2, q, cap2, hq, h2, hC⟩ := rest_in h k hkn
  have h1 : SeesB w A k cap (l.take k) := Sees.first Bg.len h k hkn (by omega)
  have hA := fun W => upto33 A n cap k (by omega) hA0 W
  rw [← hq]
  have hB1 : k * 24 ≤ 140737488355328 := by omega
  have hB2 : q * 24 ≤ 140737488355328 := by omega
  have cc := fun W => clamp_any x n W
  rw [hk] at cc
  obtain ⟨W0, eW0⟩ : ∃ W0, W0 = w := ⟨_, rfl⟩
  have hb0 : Below w.heap.size w W0 := by rw [eW0]; exact Below.refl _ _
  have kd : Below W0.heap.size W0 W0.drew := (Below.refl _ W0).drew
  have k0 := kd
  have ha := (h1.on hb0).on kd
  have hc := (h2.on hb0).on kd
  have hkI : (k : Int) ≤ (n : Int) := by omega
  have hk0 : (0 : Int) ≤ (k : Int) := by omega
  clear h h1 h2 hk hq hA0 kd hB
  go_enter Try.func47, Try.ntmps47
  go_wp2_with (go_at_call 40; refine (cc _).mono ?_; rintro e w' ⟨rfl, rfl⟩)
  rw [← eW0]
  clear eW0 cc
  refine wp_region_noPanic ?_
  refine wp_region_held_drew (S := (fun W => Below W0.heap.size W0 W)) (by kernel_rfl) k0 (fun hHeld => ?_)
  generalize W0.drew = wd at hHeld k0 ha hc ⊢
  refine wpAnyH_take (i := 0) (oi := ⟨some 11, _, _, _, _, _⟩) (v := ?_) rfl (by kernel_rfl) (by kernel_rfl) (by kernel_rfl) (fun _ _ _ h => h) (Or.inl ⟨by rfl, ?_⟩) (by assumption) ?_
  rotate_left 1
  · (intro W hSw; go_simp <;> with_reducible rfl)
  try simp only [Act.put, List.setIfInBounds_toArray, List.set_cons_zero, List.set_cons_succ]
  refine wpAnyH_take (i := 1) (oi := ⟨some 12, _, _, _, _, _⟩) (v := ?_) rfl (by kernel_rfl) (by kernel_rfl) (by kernel_rfl) (fun _ _ _ h => h) (Or.inl ⟨by rfl, ?_⟩) (by assumption) ?_
  rotate_left 1
  · (intro W hSw; go_simp <;> with_reducible rfl)
  try simp only [Act.put, List.setIfInBounds_toArray, List.set_cons_zero, List.set_cons_succ]
  refine wpAnyH_take (i := 2) (oi := ⟨some 13, _, _, _, _, _⟩) (v := ?_) rfl (by kernel_rfl) (by kernel_rfl) (by kernel_rfl) (fun _ _ _ h => h) (Or.inl ⟨by rfl, ?_⟩) (by assumption) ?_
  rotate_left 1
  · (intro W hSw; go_simp <;> with_reducible rfl)
  try simp only [Act.put, List.setIfInBounds_toArray, List.set_cons_zero, List.set_cons_succ]
  refine wpAnyH_take (i := 5) (oi := ⟨some 16, _, _, _, _, _⟩) (v := ?_) rfl (by kernel_rfl) (by kernel_rfl) (by kernel_rfl) (fun _ _ _ h => h) (Or.inl ⟨by rfl, ?_⟩) (by assumption) ?_
  rotate_left 1
  · (intro W hSw; go_simp <;> with_reducible rfl)
  try simp only [Act.put, List.setIfInBounds_toArray, List.set_cons_zero, List.set_cons_succ]
  refine wpAnyH_take (i := 6) (oi := ⟨some 17, _, _, _, _, _⟩) (v := ?_) rfl (by kernel_rfl) (by kernel_rfl) (by kernel_rfl) (fun _ _ _ h => h) (Or.inl ⟨by rfl, ?_⟩) (by assumption) ?_
  rotate_left 1
  · (intro W hSw; go_simp <;> with_reducible rfl)
  try simp only [Act.put, List.setIfInBounds_toArray, List.set_cons_zero, List.set_cons_succ]
  refine wpAnyH_take (i := 7) (oi := ⟨some 18, _, _, _, _, _⟩) (v := ?_) rfl (by kernel_rfl) (by kernel_rfl) (by kernel_rfl) (fun _ _ _ h => h) (Or.inl ⟨by rfl, ?_⟩) (by assumption) ?_
  rotate_left 1
  · (intro W hSw; go_simp <;> with_reducible rfl)
  try simp only [Act.put, List.setIfInBounds_toArray, List.set_cons_zero, List.set_cons_succ]
  refine wpAnyH_ready (rs := [3, 8]) (by kernel_rfl) (by simp) ?_
  refine AllReadyH.cons (o := ⟨some 14, _, _, _, _, _⟩) rfl (fun K hK => ?_) (AllReadyH.cons (o := ⟨some 19, _, _, _, _, _⟩) rfl (fun K hK => ?_) AllReadyH.nil)
  · go_simp
    obtain ⟨w1, ew1⟩ : ∃ zz, zz = wd.alloc (.cells #[.slice A k cap] 33) := ⟨_, rfl⟩
    have hb1 : Below wd.heap.size wd w1 := by rw [ew1]; exact (Below.refl _ _).alloc (Nat.le_refl _) _
    rw [← ew1]
    have D_1 := head_one (g := wd.heap.size) rfl ew1 ha
    have a_1 := ha.on hb1
    have c_1 := hc.on hb1
    have S1 : (fun W => Below W0.heap.size W0 W) w1 := k0.trans (hb1.mono k0.size)
    refine hK.out _ _ S1 (fun h1 => ?_)
    clear hHeld hK K ew1
    try simp only [Act.put, List.setIfInBounds_toArray, List.set_cons_zero, List.set_cons_succ]
    refine wpAnyH_ready (rs := [4, 8]) (by kernel_rfl) (by simp) ?_
    refine AllReadyH.cons (o := ⟨some 15, _, _, _, _, _⟩) rfl (fun K hK => ?_) (AllReadyH.cons (o := ⟨some 19, _, _, _, _, _⟩) rfl (fun K hK => ?_) AllReadyH.nil)
    · go_simp
      refine (concat_one D_1 hB1).mono ?_
      rintro e w2 ⟨uA, uc, rfl, uo, hb2⟩
      have u_2 : OwnB _ _ _ _ _ _ := uo
      have ub : ∀ g, lies uA g → W0.heap.size ≤ g := fun g hg => Nat.le_trans S1.size (own_new uo g hg)
      have a_2 := a_1.on hb2
      have c_2 := c_1.on hb2
      have D_2 := D_1.on hb2
      have S2 : (fun W => Below W0.heap.size W0 W) w2 := S1.trans (hb2.mono S1.size)
      refine hK.out _ _ S2 (fun h2 => ?_)
      clear h1 hK K
      try simp only [Act.put, List.setIfInBounds_toArray, List.set_cons_zero, List.set_cons_succ]
      refine wpAnyH_ready (rs := [8]) (by kernel_rfl) (by simp) ?_
      refine AllReadyH.cons (o := ⟨some 19, _, _, _, _, _⟩) rfl (fun K hK => ?_) AllReadyH.nil
      go_simp
      obtain ⟨w3, ew3⟩ : ∃ zz, zz = w2.alloc (.cells #[.slice A2 q cap2] 33) := ⟨_, rfl⟩
      have hb3 : Below w2.heap.size w2 w3 := by rw [ew3]; exact (Below.refl _ _).alloc (Nat.le_refl _) _
      rw [← ew3]
      have E_3 := head_one (g := w2.heap.size) rfl ew3 c_2
      have a_3 := a_2.on hb3
      have c_3 := c_2.on hb3
      have D_3 := D_2.on hb3
      have u_3 := u_2.on hb3
      have S3 : (fun W => Below W0.heap.size W0 W) w3 := S2.trans (hb3.mono S2.size)
      refine hK.out _ _ S3 (fun h3 => ?_)
      clear h2 hK K ew3
      try simp only [Act.put, List.setIfInBounds_toArray, List.set_cons_zero, List.set_cons_succ]
      refine wpAnyH_ready (rs := [9]) (by kernel_rfl) (by simp) ?_
      refine AllReadyH.cons (o := ⟨some 20, _, _, _, _, _⟩) rfl (fun K hK => ?_) AllReadyH.nil
      go_simp
      refine (concat_one E_3 hB2).mono ?_
      rintro e w4 ⟨vA, vc, rfl, vo, hb4⟩
      have v_4 := own_seesB vo
      have vb : ∀ g, lies vA g → W0.heap.size ≤ g := fun g hg => Nat.le_trans S3.size (own_new vo g hg)
      have a_4 := a_3.on hb4
      have c_4 := c_3.on hb4
      have D_4 := D_3.on hb4
      have u_4 := u_3.on hb4
      have E_4 := E_3.on hb4
      have S4 : (fun W => Below W0.heap.size W0 W) w4 := S3.trans (hb4.mono S3.size)
      refine hK.out _ _ S4 (fun h4 => ?_)
      clear h3 hK K
      try simp only [Act.put, List.setIfInBounds_toArray, List.set_cons_zero, List.set_cons_succ]
      refine wpAnyH_take (i := 10) (oi := ⟨some 4, _, _, _, _, _⟩) (v := ?_) rfl (by kernel_rfl) (by kernel_rfl) (by kernel_rfl) (fun _ _ _ h => h) (Or.inl ⟨by rfl, ?_⟩) (by assumption) ?_
      rotate_left 1
      · (intro W hSw; go_simp <;> with_reducible rfl)
      try simp only [Act.put, List.setIfInBounds_toArray, List.set_cons_zero, List.set_cons_succ]
      refine wpAnyH_take (i := 11) (oi := ⟨some 5, _, _, _, _, _⟩) (v := ?_) rfl (by kernel_rfl) (by kernel_rfl) (by kernel_rfl) (fun _ _ _ h => h) (Or.inl ⟨by rfl, ?_⟩) (by assumption) ?_
      rotate_left 1
      · (intro W hSw; go_simp <;> with_reducible rfl)
      try simp only [Act.put, List.setIfInBounds_toArray, List.set_cons_zero, List.set_cons_succ]
      refine wpAnyH_done (by kernel_rfl) ?_ _
      refine NoPanic.normal ?_
      have S9 := S4
      have u9 := own_base u_4 (fun g hg => Nat.le_trans hb0.size (ub g hg))
      have v9 := own_base vo (fun g hg => Nat.le_trans hb0.size (vb g hg))
      clear hA hC
      go_wp2
      go_ret2
      exact ⟨uA, uc, vA, vc, rfl, u9, v9, hb0.trans (S9.mono hb0.size)⟩
    · go_simp
      obtain ⟨w5, ew5⟩ : ∃ zz, zz = w1.alloc (.cells #[.slice A2 q cap2] 33) := ⟨_, rfl⟩
      have hb5 : Below w1.heap.size w1 w5 := by rw [ew5]; exact (Below.refl _ _).alloc (Nat.le_refl _) _
      rw [← ew5]
      have E_5 := head_one (g := w1.heap.size) rfl ew5 c_1
      have a_5 := a_1.on hb5
      have c_5 := c_1.on hb5
      have D_5 := D_1.on hb5
      have S5 : (fun W => Below W0.heap.size W0 W) w5 := S1.trans (hb5.mono S1.size)
      refine hK.out _ _ S5 (fun h5 => ?_)
      clear h1 hK K ew5
      try simp only [Act.put, List.setIfInBounds_toArray, List.set_cons_zero, List.set_cons_succ]
      refine wpAnyH_ready (rs := [4]) (by kernel_rfl) (by simp) ?_
      refine AllReadyH.cons (o := ⟨some 15, _, _, _, _, _⟩) rfl (fun K hK => ?_) AllReadyH.nil
      go_simp
      refine (concat_one D_5 hB1).mono ?_
      rintro e w6 ⟨uA, uc, rfl, uo, hb6⟩
      have u_6 : OwnB _ _ _ _ _ _ := uo
      have ub : ∀ g, lies uA g → W0.heap.size ≤ g := fun g hg => Nat.le_trans S5.size (own_new uo g hg)
      have a_6 := a_5.on hb6
      have c_6 := c_5.on hb6
      have D_6 := D_5.on hb6
      have E_6 := E_5.on hb6
      have S6 : (fun W => Below W0.heap.size W0 W) w6 := S5.trans (hb6.mono S5.size)
      refine hK.out _ _ S6 (fun h6 => ?_)
      clear h5 hK K
      try simp only [Act.put, List.setIfInBounds_toArray, List.set_cons_zero, List.set_cons_succ]
      refine wpAnyH_ready (rs := [9]) (by kernel_rfl) (by simp) ?_
      refine AllReadyH.cons (o := ⟨some 20, _, _, _, _, _⟩) rfl (fun K hK => ?_) AllReadyH.nil
      go_simp
      refine (concat_one E_6 hB2).mono ?_
      rintro e w7 ⟨vA, vc, rfl, vo, hb7⟩
      have v_7 := own_seesB vo
      have vb : ∀ g, lies vA g → W0.heap.size ≤ g := fun g hg => Nat.le_trans S6.size (own_new vo g hg)
      have a_7 := a_6.on hb7
      have c_7 := c_6.on hb7
      have D_7 := D_6.on hb7
      have E_7 := E_6.on hb7
      have u_7 := u_6.on hb7
      have S7 : (fun W => Below W0.heap.size W0 W) w7 := S6.trans (hb7.mono S6.size)
      refine hK.out _ _ S7 (fun h7 => ?_)
      clear h6 hK K
      try simp only [Act.put, List.setIfInBounds_toArray, List.set_cons_zero, List.set_cons_succ]
      refine wpAnyH_take (i := 10) (oi := ⟨some 4, _, _, _, _, _⟩) (v := ?_) rfl (by kernel_rfl) (by kernel_rfl) (by kernel_rfl) (fun _ _ _ h => h) (Or.inl ⟨by rfl, ?_⟩) (by assumption) ?_
      rotate_left 1
      · (intro W hSw; go_simp <;> with_reducible rfl)
      try simp only [Act.put, List.setIfInBounds_toArray, List.set_cons_zero, List.set_cons_succ]
      refine wpAnyH_take (i := 11) (oi := ⟨some 5, _, _, _, _, _⟩) (v := ?_) rfl (by kernel_rfl) (by kernel_rfl) (by kernel_rfl) (fun _ _ _ h => h) (Or.inl ⟨by rfl, ?_⟩) (by assumption) ?_
      rotate_left 1
      · (intro W hSw; go_simp <;> with_reducible rfl)
      try simp only [Act.put, List.setIfInBounds_toArray, List.set_cons_zero, List.set_cons_succ]
      refine wpAnyH_done (by kernel_rfl) ?_ _
      refine NoPanic.normal ?_
      have S9 := S7
      have u9 := own_base u_7 (fun g hg => Nat.le_trans hb0.size (ub g hg))
      have v9 := own_base vo (fun g hg => Nat.le_trans hb0.size (vb g hg))
      clear hA hC
      go_wp2
      go_ret2
      exact ⟨uA, uc, vA, vc, rfl, u9, v9, hb0.trans (S9.mono hb0.size)⟩
  · go_simp
    obtain ⟨w8, ew8⟩ : ∃ zz, zz = wd.alloc (.cells #[.slice A2 q cap2] 33) := ⟨_, rfl⟩
    have hb8 : Below wd.heap.size wd w8 := by rw [ew8]; exact (Below.refl _ _).alloc (Nat.le_refl _) _
    rw [← ew8]
    have E_8 := head_one (g := wd.heap.size) rfl ew8 hc
    have a_8 := ha.on hb8
    have c_8 := hc.on hb8
    have S8 : (fun W => Below W0.heap.size W0 W) w8 := k0.trans (hb8.mono k0.size)
    refine hK.out _ _ S8 (fun h8 => ?_)
    clear hHeld hK K ew8
    try simp only [Act.put, List.setIfInBounds_toArray, List.set_cons_zero, List.set_cons_succ]
    refine wpAnyH_ready (rs := [3]) (by kernel_rfl) (by simp) ?_
    refine AllReadyH.cons (o := ⟨some 14, _, _, _, _, _⟩) rfl (fun K hK => ?_) AllReadyH.nil
    go_simp
    obtain ⟨w9, ew9⟩ : ∃ zz, zz = w8.alloc (.cells #[.slice A k cap] 33) := ⟨_, rfl⟩
    have hb9 : Below w8.heap.size w8 w9 := by rw [ew9]; exact (Below.refl _ _).alloc (Nat.le_refl _) _
    rw [← ew9]
    have D_9 := head_one (g := w8.heap.size) rfl ew9 a_8
    have a_9 := a_8.on hb9
    have c_9 := c_8.on hb9
    have E_9 := E_8.on hb9
    have S9 : (fun W => Below W0.heap.size W0 W) w9 := S8.trans (hb9.mono S8.size)
    refine hK.out _ _ S9 (fun h9 => ?_)
    clear h8 hK K ew9
    try simp only [Act.put, List.setIfInBounds_toArray, List.set_cons_zero, List.set_cons_succ]
    refine wpAnyH_ready (rs := [4]) (by kernel_rfl) (by simp) ?_
    refine AllReadyH.cons (o := ⟨some 15, _, _, _, _, _⟩) rfl (fun K hK => ?_) AllReadyH.nil
    go_simp
    refine (concat_one D_9 hB1).mono ?_
    rintro e w10 ⟨uA, uc, rfl, uo, hb10⟩
    have u_10 : OwnB _ _ _ _ _ _ := uo
    have ub : ∀ g, lies uA g → W0.heap.size ≤ g := fun g hg => Nat.le_trans S9.size (own_new uo g hg)
    have a_10 := a_9.on hb10
    have c_10 := c_9.on hb10
    have E_10 := E_9.on hb10
    have D_10 := D_9.on hb10
    have S10 : (fun W => Below W0.heap.size W0 W) w10 := S9.trans (hb10.mono S9.size)
    refine hK.out _ _ S10 (fun h10 => ?_)
    clear h9 hK K
    try simp only [Act.put, List.setIfInBounds_toArray, List.set_cons_zero, List.set_cons_succ]
    refine wpAnyH_ready (rs := [9]) (by kernel_rfl) (by simp) ?_
    refine AllReadyH.cons (o := ⟨some 20, _, _, _, _, _⟩) rfl (fun K hK => ?_) AllReadyH.nil
    go_simp
    refine (concat_one E_10 hB2).mono ?_
    rintro e w11 ⟨vA, vc, rfl, vo, hb11⟩
    have v_11 := own_seesB vo
    have vb : ∀ g, lies vA g → W0.heap.size ≤ g := fun g hg => Nat.le_trans S10.size (own_new vo g hg)
    have a_11 := a_10.on hb11
    have c_11 := c_10.on hb11
    have E_11 := E_10.on hb11
    have D_11 := D_10.on hb11
    have u_11 := u_10.on hb11
    have S11 : (fun W => Below W0.heap.size W0 W) w11 := S10.trans (hb11.mono S10.size)
    refine hK.out _ _ S11 (fun h11 => ?_)
    clear h10 hK K
    try simp only [Act.put, List.setIfInBounds_toArray, List.set_cons_zero, List.set_cons_succ]
    refine wpAnyH_take (i := 10) (oi := ⟨some 4, _, _, _, _, _⟩) (v := ?_) rfl (by kernel_rfl) (by kernel_rfl) (by kernel_rfl) (fun _ _ _ h => h) (Or.inl ⟨by rfl, ?_⟩) (by assumption) ?_
    rotate_left 1
    · (intro W hSw; go_simp <;> with_reducible rfl)
    try simp only [Act.put, List.setIfInBounds_toArray, List.set_cons_zero, List.set_cons_succ]
    refine wpAnyH_take (i := 11) (oi := ⟨some 5, _, _, _, _, _⟩) (v := ?_) rfl (by kernel_rfl) (by kernel_rfl) (by kernel_rfl) (fun _ _ _ h => h) (Or.inl ⟨by rfl, ?_⟩) (by assumption) ?_
    rotate_left 1
    · (intro W hSw; go_simp <;> with_reducible rfl)
    try simp only [Act.put, List.setIfInBounds_toArray, List.set_cons_zero, List.set_cons_succ]
    refine wpAnyH_done (by kernel_rfl) ?_ _
    refine NoPanic.normal ?_
    have S9 := S11
    have u9 := own_base u_11 (fun g hg => Nat.le_trans hb0.size (ub g hg))
    have v9 := own_base vo (fun g hg => Nat.le_trans hb0.size (vb g hg))
    clear hA hC
    go_wp2
    go_ret2
    exact ⟨uA, uc, vA, vc, rfl, u9, v9, hb0.trans (S9.mono hb0.size)⟩
end Go.Proofs.Ytllcgidachbnlaa
