/- What conf's Line answers of what may not be, and the reference's Line. Conditions: the variables lie as they are laid, for conf's. -/
import Derived.Test.YtmkdmnaonddghaaDoorLine
namespace Go.Proofs.YtmkdmnaonddghaaDoor
open Go.RowKit Nine

set_option maxRecDepth 100000 in
theorem confline_bad (c : Cfg) (a : Ask) (w : World) (hL : Laid w) (hg : chkB c a = 3) :
    Calls Tryd.prog 10 #[.agg #[.int .i64 c.s, .int .i64 c.o, .int .i64 c.t, .int .i64 c.f, .int .i64 c.d], .agg #[.int .i64 a.m, .int .i64 a.b, .bool a.st]] w fun e w' => e = .returned (.tuple #[.string ⟨#[]⟩, .int .i64 3]) ∧ Below w.heap.size w w' := by
  have hC := fun W hW => both_any c a W hW
  rw [hg] at hC
  obtain ⟨W, eW⟩ : ∃ W, W = (w.alloc (.cells #[.int .i64 c.s, .int .i64 c.o, .int .i64 c.t, .int .i64 c.f, .int .i64 c.d] 23)).alloc (.cells #[.int .i64 a.m, .int .i64 a.b, .bool a.st] 25) := ⟨_, rfl⟩
  have hb : Below w.heap.size w W := by rw [eW]; exact ((Below.refl _ w).alloc (Nat.le_refl _) _).alloc (by simp) _
  obtain ⟨s, o, t, f, d⟩ := c
  obtain ⟨m, b, st⟩ := a
  simp only at hC eW
  go_enter Tryd.func10, Tryd.ntmps10
  go_wp2_with fail
  rw [← eW]
  clear eW
  refine (hC W (hL.on hb)).mono ?_
  rintro e w1 ⟨rfl, hb1⟩
  go_wp2
  go_ret2
  exact ⟨rfl, hb.trans (hb1.mono hb.size)⟩
theorem row0 (i : Nat) (h : i < 4) : (#[.string ⟨#[109, 97, 110, 117, 97, 108]⟩, .string ⟨#[104, 97, 122, 97, 114, 100]⟩, .string ⟨#[101, 112, 111, 99, 104]⟩, .string ⟨#[113, 117, 105, 101, 116]⟩] : Array Value)[i]? = some (.string (txt (nameAt 0 i))) := by
  rcases (by omega : i = 0 ∨ i = 1 ∨ i = 2 ∨ i = 3) with rfl | rfl | rfl | rfl <;> rfl
theorem row1 (i : Nat) (h : i < 2) : (#[.string ⟨#[115, 99]⟩, .string ⟨#[116, 115, 111]⟩] : Array Value)[i]? = some (.string (txt (nameAt 1 i))) := by
  rcases (by omega : i = 0 ∨ i = 1) with rfl | rfl <;> rfl
theorem row2 (i : Nat) (h : i < 3) : (#[.string ⟨#[102, 117, 108, 108]⟩, .string ⟨#[100, 112, 111, 114]⟩, .string ⟨#[99, 97, 99, 104, 101]⟩] : Array Value)[i]? = some (.string (txt (nameAt 2 (i + 1)))) := by
  rcases (by omega : i = 0 ∨ i = 1 ∨ i = 2) with rfl | rfl | rfl <;> rfl
theorem five_blk (w : World) (A B C D E : Array Value) (a b c d e : Nat) (W : World) (hW : W = ((((w.alloc (.cells A a)).alloc (.cells B b)).alloc (.cells C c)).alloc (.cells D d)).alloc (.cells E e)) :
    Blk W w.heap.size a A ∧ Blk W (w.heap.size + 1) b B ∧ Blk W (w.heap.size + 1 + 1) c C ∧ Blk W (w.heap.size + 1 + 1 + 1) d D ∧ Blk W (w.heap.size + 1 + 1 + 1 + 1) e E ∧ Below w.heap.size w W ∧ W.heap.size = w.heap.size + 5 := by
  subst hW
  have h : ∀ (x : World) (o : Obj) (g : Nat) (t : TypeId) (cs : Array Value), Blk x g t cs → Blk (x.alloc o) g t cs := fun x o g t cs hx => hx.below ((Below.refl _ x).alloc (Nat.le_refl _) _) hx.lt
  have n : ∀ (x : World) (k : Nat) (cs : Array Value) (t : TypeId), x.heap.size = k → Blk (x.alloc (.cells cs t)) k t cs := fun x k cs t hk => by subst hk; exact heap_alloc_new x _
  refine ⟨h _ _ _ _ _ (h _ _ _ _ _ (h _ _ _ _ _ (h _ _ _ _ _ (n _ _ _ _ rfl)))), h _ _ _ _ _ (h _ _ _ _ _ (h _ _ _ _ _ (n _ _ _ _ (by simp)))), h _ _ _ _ _ (h _ _ _ _ _ (n _ _ _ _ (by simp))), h _ _ _ _ _ (n _ _ _ _ (by simp)), n _ _ _ _ (by simp), ?_, by simp⟩
  exact (((((Below.refl _ w).alloc (Nat.le_refl _) _).alloc (by simp) _).alloc (by simp; omega) _).alloc (by simp; omega) _).alloc (by simp; omega) _
set_option maxRecDepth 100000 in
set_option maxHeartbeats 2000000 in
theorem refline_any (c : Cfg) (a : Ask) (w : World) (hc : okC c = true) (ha : okA a = true) :
    Calls Tryd.prog 14 #[.agg #[.int .i64 c.s, .int .i64 c.o, .int .i64 c.t, .int .i64 c.f, .int .i64 c.d], .agg #[.int .i64 a.m, .int .i64 a.b, .bool a.st]] w fun e w' => e = .returned (.string (txt (lineO c a))) ∧ Below w.heap.size w w' := by
  obtain ⟨i, p, m, hp⟩ := parts_of hc ha
  have hsh := lineW_short hp
  have hO : joinL (lineW c a) = lineO c a := rfl
  have hW : lineW c a = [nameAt 0 i, nameAt 1 p, Lib.itoa c.t, Lib.itoa c.f, Lib.itoa c.d, nameAt 2 m, Lib.itoa a.b, nameAt 3 (stN a.st)] := by
    unfold lineW
    rw [hp.ei, hp.ep, hp.em]
    rfl
  obtain ⟨hei, hi4, hep, hp2, hem, hm1, hm4, wt, wf, wd, wb⟩ := hp
  generalize lineO c a = LO at hO ⊢
  generalize lineW c a = LW at hO hsh hW
  obtain ⟨s, o, t, f, d⟩ := c
  obtain ⟨mm, b, st⟩ := a
  simp only at hei hep hem wt wf wd wb hW
  subst hei hep hem
  obtain ⟨q, rfl⟩ : ∃ q, m = q + 1 := ⟨m - 1, by omega⟩
  obtain ⟨m, em⟩ : ∃ m, q + 1 = m := ⟨_, rfl⟩
  have hq : (m : Int) - 1 = (q : Int) := by omega
  rw [em] at hW hm1 hm4 ⊢
  obtain ⟨W, eW⟩ : ∃ W, W = ((((w.alloc (.cells #[.int .i64 (i : Int), .int .i64 (p : Int), .int .i64 t, .int .i64 f, .int .i64 d] 23)).alloc (.cells #[.int .i64 (m : Int), .int .i64 b, .bool st] 25)).alloc (.cells #[.string ⟨#[109, 97, 110, 117, 97, 108]⟩, .string ⟨#[104, 97, 122, 97, 114, 100]⟩, .string ⟨#[101, 112, 111, 99, 104]⟩, .string ⟨#[113, 117, 105, 101, 116]⟩] 9)).alloc (.cells #[.string ⟨#[115, 99]⟩, .string ⟨#[116, 115, 111]⟩] 9)).alloc (.cells #[.string ⟨#[102, 117, 108, 108]⟩, .string ⟨#[100, 112, 111, 114]⟩, .string ⟨#[99, 97, 99, 104, 101]⟩] 9) := ⟨_, rfl⟩
  obtain ⟨B0, B1, B2, B3, B4, hb, hsz⟩ := five_blk w _ _ _ _ _ _ _ _ _ _ W eW
  obtain ⟨n0, en0⟩ : ∃ n, txt (nameAt 0 i) = n := ⟨_, rfl⟩
  obtain ⟨n1, en1⟩ : ∃ n, txt (nameAt 1 p) = n := ⟨_, rfl⟩
  obtain ⟨n2, en2⟩ : ∃ n, txt (nameAt 2 m) = n := ⟨_, rfl⟩
  obtain ⟨xt, ext⟩ : ∃ n, txt (Lib.itoa t) = n := ⟨_, rfl⟩
  obtain ⟨xf, exf⟩ : ∃ n, txt (Lib.itoa f) = n := ⟨_, rfl⟩
  obtain ⟨xd, exd⟩ : ∃ n, txt (Lib.itoa d) = n := ⟨_, rfl⟩
  obtain ⟨xb, exb⟩ : ∃ n, txt (Lib.itoa b) = n := ⟨_, rfl⟩
  have hV : vals LW = [.string n0, .string n1, .string xt, .string xf, .string xd, .string n2, .string xb, .string (txt (nameAt 3 (stN st)))] := by
    rw [hW, ← en0, ← en1, ← en2, ← ext, ← exf, ← exd, ← exb]
    rfl
  have hlen : LW.length = 8 := by rw [hW]; rfl
  have hd2 : Below W.heap.size W W.drew := ⟨rfl, rfl, rfl, Nat.le_refl _, fun _ _ => rfl⟩
  have hS : ∀ w', Below W.heap.size W w' → (w'.cell? ⟨w.heap.size, 0, none⟩ = some (.int .i64 (i : Int)) ∧ w'.cell? ⟨w.heap.size, 1, none⟩ = some (.int .i64 (p : Int)) ∧ w'.cell? ⟨w.heap.size, 2, none⟩ = some (.int .i64 t) ∧ w'.cell? ⟨w.heap.size, 3, none⟩ = some (.int .i64 f) ∧ w'.cell? ⟨w.heap.size, 4, none⟩ = some (.int .i64 d) ∧ w'.cell? ⟨w.heap.size + 1, 0, none⟩ = some (.int .i64 (m : Int)) ∧ w'.cell? ⟨w.heap.size + 1, 1, none⟩ = some (.int .i64 b) ∧ w'.cell? ⟨w.heap.size + 1 + 1, i, none⟩ = some (.string n0) ∧ w'.cell? ⟨w.heap.size + 1 + 1 + 1, p, none⟩ = some (.string n1) ∧ w'.cell? ⟨w.heap.size + 1 + 1 + 1 + 1, q, none⟩ = some (.string n2)) := by
    intro w' h
    have m0 := ((B2.below h B2.lt).cell i).trans (row0 i hi4)
    have m1 := ((B3.below h B3.lt).cell p).trans (row1 p hp2)
    have m2 := ((B4.below h B4.lt).cell q).trans (row2 q (by omega))
    rw [en0] at m0
    rw [en1] at m1
    rw [em, en2] at m2
    exact ⟨(B0.below h B0.lt).cell 0, (B0.below h B0.lt).cell 1, (B0.below h B0.lt).cell 2, (B0.below h B0.lt).cell 3, (B0.below h B0.lt).cell 4, (B1.below h B1.lt).cell 0, (B1.below h B1.lt).cell 1, m0, m1, m2⟩
  have D0 := fun W => refdec_any t wt W
  have D1 := fun W => refdec_any f wf W
  have D2 := fun W => refdec_any d wd W
  have D3 := fun W => refdec_any b wb W
  rw [ext] at D0
  rw [exf] at D1
  rw [exd] at D2
  rw [exb] at D3
  have hst : ∀ w', Below W.heap.size W w' → w'.cell? ⟨w.heap.size + 1, 2, none⟩ = some (.bool st) := fun w' h => (B1.below h B1.lt).cell 2
  have HT := Lib.hid hst
  have HV := Lib.hid hV
  have HO := Lib.hid hO
  have HSH := Lib.hid hsh
  have HLN := Lib.hid hlen
  have HSS := Lib.hid hS
  have HB := Lib.hid hb
  clear hst hV hO hsh hlen hS hb hW en0 en1 en2 ext exf exd exb B0 B1 B2 B3 B4 wt wf wd wb em
  have j0 : (0 : Int) ≤ (i : Int) := by omega
  have j1 : (i : Int) < 4 := by omega
  have j2 : (0 : Int) ≤ (p : Int) := by omega
  have j3 : (p : Int) < 2 := by omega
  have j4 : (0 : Int) ≤ (q : Int) := by omega
  have j5 : (q : Int) < 3 := by omega
  have j6 : IntKind.i64.wrap (q : Int) = (q : Int) := IntWalk.i64_in (q : Int) (by omega)
  go_enter Tryd.func14, Tryd.ntmps14
  go_wp2_with fail
  rw [← eW]
  clear eW
  have hVs := HSS.out _ hd2
  refine wp_region_noPanic ?_
  refine wp_region_held_drew (S := fun w' => w'.cell? ⟨w.heap.size, 0, none⟩ = some (.int .i64 (i : Int)) ∧ w'.cell? ⟨w.heap.size, 1, none⟩ = some (.int .i64 (p : Int)) ∧ w'.cell? ⟨w.heap.size, 2, none⟩ = some (.int .i64 t) ∧ w'.cell? ⟨w.heap.size, 3, none⟩ = some (.int .i64 f) ∧ w'.cell? ⟨w.heap.size, 4, none⟩ = some (.int .i64 d) ∧ w'.cell? ⟨w.heap.size + 1, 0, none⟩ = some (.int .i64 (m : Int)) ∧ w'.cell? ⟨w.heap.size + 1, 1, none⟩ = some (.int .i64 b) ∧ w'.cell? ⟨w.heap.size + 1 + 1, i, none⟩ = some (.string n0) ∧ w'.cell? ⟨w.heap.size + 1 + 1 + 1, p, none⟩ = some (.string n1) ∧ w'.cell? ⟨w.heap.size + 1 + 1 + 1 + 1, q, none⟩ = some (.string n2)) (by kernel_rfl) hVs (fun hHeld => ?_)
  clear hVs
  generalize W.drew = V at *
  refine wpAnyH_take (i := 0) (oi := ⟨some 12, _, _, _, _, _⟩) (v := ?_) rfl (by kernel_rfl) (by kernel_rfl) (by kernel_rfl) (fun _ _ _ h => h) (Or.inl ⟨by rfl, ?_⟩) (by assumption) ?_
  rotate_left 1
  · (intro W hSw; go_simp <;> with_reducible rfl)
  try simp only [Act.put, List.setIfInBounds_toArray, List.set_cons_zero, List.set_cons_succ]
  refine wpAnyH_take (i := 1) (oi := ⟨some 13, _, _, _, _, _⟩) (v := ?_) rfl (by kernel_rfl) (by kernel_rfl) (by kernel_rfl) (fun _ _ _ h => h) (Or.inl ⟨by rfl, ?_⟩) (by assumption) ?_
  rotate_left 1
  · (intro W hSw; go_simp <;> with_reducible rfl)
  try simp only [Act.put, List.setIfInBounds_toArray, List.set_cons_zero, List.set_cons_succ]
  refine wpAnyH_take (i := 2) (oi := ⟨some 14, _, _, _, _, _⟩) (v := ?_) rfl (by kernel_rfl) (by kernel_rfl) (by kernel_rfl) (fun _ _ _ h => h) (Or.inl ⟨by rfl, ?_⟩) (by assumption) ?_
  rotate_left 1
  · (intro W hSw; go_simp <;> with_reducible rfl)
  try simp only [Act.put, List.setIfInBounds_toArray, List.set_cons_zero, List.set_cons_succ]
  refine wpAnyH_take (i := 3) (oi := ⟨some 15, _, _, _, _, _⟩) (v := ?_) rfl (by kernel_rfl) (by kernel_rfl) (by kernel_rfl) (fun _ _ _ h => h) (Or.inl ⟨by rfl, ?_⟩) (by assumption) ?_
  rotate_left 1
  · (intro W hSw; go_simp <;> with_reducible rfl)
  try simp only [Act.put, List.setIfInBounds_toArray, List.set_cons_zero, List.set_cons_succ]
  refine wpAnyH_take (i := 4) (oi := ⟨some 16, _, _, _, _, _⟩) (v := ?_) rfl (by kernel_rfl) (by kernel_rfl) (by kernel_rfl) (fun _ _ _ h => h) (Or.inl ⟨by rfl, ?_⟩) (by assumption) ?_
  rotate_left 1
  · (intro W hSw; go_simp <;> with_reducible rfl)
  try simp only [Act.put, List.setIfInBounds_toArray, List.set_cons_zero, List.set_cons_succ]
  refine wpAnyH_take (i := 5) (oi := ⟨some 17, _, _, _, _, _⟩) (v := ?_) rfl (by kernel_rfl) (by kernel_rfl) (by kernel_rfl) (fun _ _ _ h => h) (Or.inl ⟨by rfl, ?_⟩) (by assumption) ?_
  rotate_left 1
  · (intro W hSw; go_simp <;> with_reducible rfl)
  try simp only [Act.put, List.setIfInBounds_toArray, List.set_cons_zero, List.set_cons_succ]
  refine wpAnyH_take (i := 6) (oi := ⟨some 18, _, _, _, _, _⟩) (v := ?_) rfl (by kernel_rfl) (by kernel_rfl) (by kernel_rfl) (fun _ _ _ h => h) (Or.inl ⟨by rfl, ?_⟩) (by assumption) ?_
  rotate_left 1
  · (intro W hSw; go_simp <;> with_reducible rfl)
  try simp only [Act.put, List.setIfInBounds_toArray, List.set_cons_zero, List.set_cons_succ]
  refine wpAnyH_take (i := 7) (oi := ⟨some 19, _, _, _, _, _⟩) (v := ?_) rfl (by kernel_rfl) (by kernel_rfl) (by kernel_rfl) (fun _ _ _ h => h) (Or.inl ⟨by rfl, ?_⟩) (by assumption) ?_
  rotate_left 1
  · (intro W hSw; go_simp <;> with_reducible rfl)
  try simp only [Act.put, List.setIfInBounds_toArray, List.set_cons_zero, List.set_cons_succ]
  refine wpAnyH_take (i := 8) (oi := ⟨some 20, _, _, _, _, _⟩) (v := ?_) rfl (by kernel_rfl) (by kernel_rfl) (by kernel_rfl) (fun _ _ _ h => h) (Or.inl ⟨by rfl, ?_⟩) (by assumption) ?_
  rotate_left 1
  · (intro W hSw; go_simp <;> with_reducible rfl)
  try simp only [Act.put, List.setIfInBounds_toArray, List.set_cons_zero, List.set_cons_succ]
  refine wpAnyH_take (i := 9) (oi := ⟨some 21, _, _, _, _, _⟩) (v := ?_) rfl (by kernel_rfl) (by kernel_rfl) (by kernel_rfl) (fun _ _ _ h => h) (Or.inl ⟨by rfl, ?_⟩) (by assumption) ?_
  rotate_left 1
  · (intro W hSw; go_simp <;> with_reducible rfl)
  try simp only [Act.put, List.setIfInBounds_toArray, List.set_cons_zero, List.set_cons_succ]
  refine wpAnyH_take (i := 10) (oi := ⟨some 22, _, _, _, _, _⟩) (v := ?_) rfl (by kernel_rfl) (by kernel_rfl) (by kernel_rfl) (fun _ _ _ h => h) (Or.inl ⟨by rfl, ?_⟩) (by assumption) ?_
  rotate_left 1
  · (intro W hSw; go_simp <;> with_reducible rfl)
  try simp only [Act.put, List.setIfInBounds_toArray, List.set_cons_zero, List.set_cons_succ]
  refine wpAnyH_take (i := 11) (oi := ⟨some 23, _, _, _, _, _⟩) (v := ?_) rfl (by kernel_rfl) (by kernel_rfl) (by kernel_rfl) (fun _ _ _ h => h) (Or.inl ⟨by rfl, ?_⟩) (by assumption) ?_
  rotate_left 1
  · (intro W hSw; go_simp <;> with_reducible rfl)
  try simp only [Act.put, List.setIfInBounds_toArray, List.set_cons_zero, List.set_cons_succ]
  refine wpAnyH_take (i := 13) (oi := ⟨some 25, _, _, _, _, _⟩) (v := ?_) rfl (by kernel_rfl) (by kernel_rfl) (by kernel_rfl) (fun _ _ _ h => h) (Or.inl ⟨by rfl, ?_⟩) (by assumption) ?_
  rotate_left 1
  · (intro W hSw; go_simp <;> with_reducible rfl)
  try simp only [Act.put, List.setIfInBounds_toArray, List.set_cons_zero, List.set_cons_succ]
  refine wpAnyH_take (i := 14) (oi := ⟨some 26, _, _, _, _, _⟩) (v := ?_) rfl (by kernel_rfl) (by kernel_rfl) (by kernel_rfl) (fun _ _ _ h => h) (Or.inl ⟨by rfl, ?_⟩) (by assumption) ?_
  rotate_left 1
  · (intro W hSw; go_simp <;> with_reducible rfl)
  try simp only [Act.put, List.setIfInBounds_toArray, List.set_cons_zero, List.set_cons_succ]
  refine wpAnyH_take (i := 16) (oi := ⟨some 28, _, _, _, _, _⟩) (v := ?_) rfl (by kernel_rfl) (by kernel_rfl) (by kernel_rfl) (fun _ _ _ h => h) (Or.inl ⟨by rfl, ?_⟩) (by assumption) ?_
  rotate_left 1
  · (intro W hSw; go_simp <;> with_reducible rfl)
  try simp only [Act.put, List.setIfInBounds_toArray, List.set_cons_zero, List.set_cons_succ]
  refine wpAnyH_take (i := 17) (oi := ⟨some 29, _, _, _, _, _⟩) (v := ?_) rfl (by kernel_rfl) (by kernel_rfl) (by kernel_rfl) (fun _ _ _ h => h) (Or.inl ⟨by rfl, ?_⟩) (by assumption) ?_
  rotate_left 1
  · (intro W hSw; go_simp <;> with_reducible rfl)
  try simp only [Act.put, List.setIfInBounds_toArray, List.set_cons_zero, List.set_cons_succ]
  refine wpAnyH_take (i := 19) (oi := ⟨some 31, _, _, _, _, _⟩) (v := ?_) rfl (by kernel_rfl) (by kernel_rfl) (by kernel_rfl) (fun _ _ _ h => h) (Or.inl ⟨by rfl, ?_⟩) (by assumption) ?_
  rotate_left 1
  · (intro W hSw; go_simp <;> with_reducible rfl)
  try simp only [Act.put, List.setIfInBounds_toArray, List.set_cons_zero, List.set_cons_succ]
  refine wpAnyH_take (i := 20) (oi := ⟨some 32, _, _, _, _, _⟩) (v := ?_) rfl (by kernel_rfl) (by kernel_rfl) (by kernel_rfl) (fun _ _ _ h => h) (Or.inl ⟨by rfl, ?_⟩) (by assumption) ?_
  rotate_left 1
  · (intro W hSw; go_simp <;> with_reducible rfl)
  try simp only [Act.put, List.setIfInBounds_toArray, List.set_cons_zero, List.set_cons_succ]
  refine wpAnyH_take (i := 21) (oi := ⟨some 33, _, _, _, _, _⟩) (v := ?_) rfl (by kernel_rfl) (by kernel_rfl) (by kernel_rfl) (fun _ _ _ h => h) (Or.inl ⟨by rfl, ?_⟩) (by assumption) ?_
  rotate_left 1
  · (intro W hSw; go_simp <;> with_reducible rfl)
  try simp only [Act.put, List.setIfInBounds_toArray, List.set_cons_zero, List.set_cons_succ]
  refine wpAnyH_take (i := 22) (oi := ⟨some 34, _, _, _, _, _⟩) (v := ?_) rfl (by kernel_rfl) (by kernel_rfl) (by kernel_rfl) (fun _ _ _ h => h) (Or.inl ⟨by rfl, ?_⟩) (by assumption) ?_
  rotate_left 1
  · (intro W hSw; go_simp <;> with_reducible rfl)
  try simp only [Act.put, List.setIfInBounds_toArray, List.set_cons_zero, List.set_cons_succ]
  refine wpAnyH_take (i := 23) (oi := ⟨some 35, _, _, _, _, _⟩) (v := ?_) rfl (by kernel_rfl) (by kernel_rfl) (by kernel_rfl) (fun _ _ _ h => h) (Or.inl ⟨by rfl, ?_⟩) (by assumption) ?_
  rotate_left 1
  · (intro W hSw; go_simp <;> with_reducible rfl)
  try simp only [Act.put, List.setIfInBounds_toArray, List.set_cons_zero, List.set_cons_succ]
  refine wpAnyH_take (i := 24) (oi := ⟨some 36, _, _, _, _, _⟩) (v := ?_) rfl (by kernel_rfl) (by kernel_rfl) (by kernel_rfl) (fun _ _ _ h => h) (Or.inl ⟨by rfl, ?_⟩) (by assumption) ?_
  rotate_left 1
  · (intro W hSw; go_simp <;> with_reducible rfl)
  try simp only [Act.put, List.setIfInBounds_toArray, List.set_cons_zero, List.set_cons_succ]
  refine wpAnyH_take (i := 25) (oi := ⟨some 37, _, _, _, _, _⟩) (v := ?_) rfl (by kernel_rfl) (by kernel_rfl) (by kernel_rfl) (fun _ _ _ h => h) (Or.inl ⟨by rfl, ?_⟩) (by assumption) ?_
  rotate_left 1
  · (intro W hSw; go_simp <;> with_reducible rfl)
  try simp only [Act.put, List.setIfInBounds_toArray, List.set_cons_zero, List.set_cons_succ]
  refine wpAnyH_take (i := 26) (oi := ⟨some 38, _, _, _, _, _⟩) (v := ?_) rfl (by kernel_rfl) (by kernel_rfl) (by kernel_rfl) (fun _ _ _ h => h) (Or.inl ⟨by rfl, ?_⟩) (by assumption) ?_
  rotate_left 1
  · (intro W hSw; go_simp <;> with_reducible rfl)
  try simp only [Act.put, List.setIfInBounds_toArray, List.set_cons_zero, List.set_cons_succ]
  refine wpAnyH_ready (rs := [12]) (by kernel_rfl) (by simp) ?_
  refine AllReadyH.cons rfl (fun K hK => ?_) AllReadyH.nil
  go_simp
  refine (D0 _).mono ?_
  rintro e v0 ⟨rfl, hcv0⟩
  have k0 := hd2.trans (hcv0.mono hd2.size)
  refine hK.out _ _ (HSS.out _ k0) (fun h0 => ?_)
  clear hHeld hK K
  try simp only [Act.put, List.setIfInBounds_toArray, List.set_cons_zero, List.set_cons_succ]
  refine wpAnyH_ready (rs := [15]) (by kernel_rfl) (by simp) ?_
  refine AllReadyH.cons rfl (fun K hK => ?_) AllReadyH.nil
  go_simp
  refine (D1 _).mono ?_
  rintro e v1 ⟨rfl, hcv1⟩
  have k1 := k0.trans (hcv1.mono k0.size)
  refine hK.out _ _ (HSS.out _ k1) (fun h1 => ?_)
  clear h0 hK K
  try simp only [Act.put, List.setIfInBounds_toArray, List.set_cons_zero, List.set_cons_succ]
  refine wpAnyH_ready (rs := [18]) (by kernel_rfl) (by simp) ?_
  refine AllReadyH.cons rfl (fun K hK => ?_) AllReadyH.nil
  go_simp
  refine (D2 _).mono ?_
  rintro e v2 ⟨rfl, hcv2⟩
  have k2 := k1.trans (hcv2.mono k1.size)
  refine hK.out _ _ (HSS.out _ k2) (fun h2 => ?_)
  clear h1 hK K
  try simp only [Act.put, List.setIfInBounds_toArray, List.set_cons_zero, List.set_cons_succ]
  refine wpAnyH_ready (rs := [27]) (by kernel_rfl) (by simp) ?_
  refine AllReadyH.cons rfl (fun K hK => ?_) AllReadyH.nil
  go_simp
  refine (D3 _).mono ?_
  rintro e v3 ⟨rfl, hcv3⟩
  have k3 := k2.trans (hcv3.mono k2.size)
  refine hK.out _ _ (HSS.out _ k3) (fun h3 => ?_)
  clear h2 hK K
  try simp only [Act.put, List.setIfInBounds_toArray, List.set_cons_zero, List.set_cons_succ]
  obtain ⟨v5, ev5⟩ : ∃ v, v = v3.alloc (.cells #[.string n0, .string n1, .string xt, .string xf, .string xd, .string n2, .string xb, .string ⟨#[97, 108, 108]⟩] 9) := ⟨_, rfl⟩
  have bv5 : Below v3.heap.size v3 v5 := by rw [ev5]; exact (Below.refl _ v3).alloc (Nat.le_refl _) _
  have gv5 : Blk v5 v3.heap.size 9 #[.string n0, .string n1, .string xt, .string xf, .string xd, .string n2, .string xb, .string ⟨#[97, 108, 108]⟩] := by rw [ev5]; exact heap_alloc_new v3 _
  have sv5 : v5.heap.size = v3.heap.size + 1 := by rw [ev5]; simp
  have k5 := k3.trans (bv5.mono k3.size)
  refine wpAnyH_ready (rs := [28]) (by kernel_rfl) (by simp) ?_
  refine AllReadyH.cons rfl (fun K hK => ?_) AllReadyH.nil
  go_simp
  rw [← ev5]
  refine hK.out _ _ (HSS.out _ k5) (fun h5 => ?_)
  clear h3 hK K ev5
  try simp only [Act.put, List.setIfInBounds_toArray, List.set_cons_zero, List.set_cons_succ]
  refine wpAnyH_take (i := 29) (oi := ⟨some 8, _, _, _, _, _⟩) (v := ?_) rfl (by kernel_rfl) (by kernel_rfl) (by kernel_rfl) (fun _ _ _ h => h) (Or.inl ⟨by rfl, ?_⟩) (by assumption) ?_
  rotate_left 1
  · (intro W hSw; go_simp <;> with_reducible rfl)
  try simp only [Act.put, List.setIfInBounds_toArray, List.set_cons_zero, List.set_cons_succ]
  refine wpAnyH_done (by kernel_rfl) ?_ _
  refine NoPanic.normal ?_
  clear h5
  have hst5 := HT.out _ k5
  cases st with
  | false =>
    have hB5 : Blk v5 v3.heap.size 9 (vals LW).toArray := by rw [HV.out]; exact gv5
    have hJ := refjoin_any (some ⟨v3.heap.size, 0, none⟩) 8 8 LW v5.heap.size v5 (row_blk hB5 HLN.out (by omega) (by omega)) (by omega) (fun x hx => by have := HSH.out x hx; omega)
    rw [HO.out] at hJ
    go_wp2_with fail
    refine hJ.mono ?_
    rintro e v6 ⟨rfl, rfl⟩
    go_wp2
    go_ret
    exact ⟨rfl, HB.out.trans (k5.mono HB.out.size)⟩
  | true =>
    have c7 := gv5.cell 7
    have f7 := gv5.free 7
    have hB5 : Blk (v5.setCell ⟨v3.heap.size, 7, none⟩ (.string ⟨#[115, 116, 111, 112]⟩)) v3.heap.size 9 (vals LW).toArray := by rw [HV.out]; exact gv5.set_ 7 _
    have hz : (v5.setCell ⟨v3.heap.size, 7, none⟩ (.string ⟨#[115, 116, 111, 112]⟩)).heap.size = v5.heap.size := by simp [World.setCell]
    have hJ := refjoin_any (some ⟨v3.heap.size, 0, none⟩) 8 8 LW v5.heap.size _ (row_blk hB5 HLN.out (by omega) (by omega)) (by omega) (fun x hx => by have := HSH.out x hx; omega)
    rw [HO.out] at hJ
    go_wp2_with fail
    refine hJ.mono ?_
    rintro e v6 ⟨rfl, rfl⟩
    go_wp2
    go_ret
    exact ⟨rfl, (HB.out.trans (k5.mono HB.out.size)).setCell (p := ⟨v3.heap.size, 7, none⟩) (by have := k3.size; have := HB.out.size; show w.heap.size ≤ v3.heap.size; omega) _⟩
end Go.Proofs.YtmkdmnaonddghaaDoor
