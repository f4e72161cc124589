/- What conf's Line answers: eight words. Conditions: the variables lie as they are laid. -/
import Derived.Test.YtmkdmnaonddghaaDoorRefs
import Derived.Test.YtmkdmnaonddghaaDoorPuts
import Derived.Test.YtmkdmnaonddghaaDoorNumber
import Derived.Deep.RegionHeld3
namespace Go.Proofs.YtmkdmnaonddghaaDoor
open Go.RowKit Nine

def stN (b : Bool) : Nat := if b then 1 else 0
/-- A line's words, and the line. -/
def lineW (c : Cfg) (a : Ask) : List (List UInt8) := [nameAt 0 c.s.toNat, nameAt 1 c.o.toNat, Lib.itoa c.t, Lib.itoa c.f, Lib.itoa c.d, nameAt 2 a.m.toNat, Lib.itoa a.b, nameAt 3 (stN a.st)]
def lineO (c : Cfg) (a : Ask) : List UInt8 := joinL (lineW c a)
theorem name_short (k i : Nat) : (nameAt k i).length ≤ 6 := by
  by_cases hk : k < 4
  · by_cases hi : i < 4
    · exact (by decide +kernel : ∀ k, k < 4 → ∀ i, i < 4 → (nameAt k i).length ≤ 6) k hk i hi
    · have hl : (nameT.getD k []).length = 4 := (by decide : ∀ k, k < 4 → (nameT.getD k []).length = 4) k hk
      have : nameAt k i = [] := by
        unfold nameAt
        generalize nameT.getD k [] = r at hl
        simp [List.getD, List.getElem?_eq_none (show r.length ≤ i by omega)]
      rw [this]; simp
  · have : nameAt k i = [] := by
      have h : nameT[k]? = none := List.getElem?_eq_none (by show 4 ≤ k; omega)
      simp [nameAt, List.getD, h]
    rw [this]; simp
theorem itoa_short {n : Int} (h : Wide n) : (Lib.itoa n).length ≤ 21 := Lib.itoa_length_le n h.1 h.2
/-- A config and an ask that may be, in numbers. -/
structure Parts14 (c : Cfg) (a : Ask) (i p m : Nat) : Prop where
  ei : c.s = (i : Int)
  hi : i < 4
  ep : c.o = (p : Int)
  hp : p < 2
  em : a.m = (m : Int)
  m1 : 1 ≤ m
  m3 : m < 4
  ht : Wide c.t
  hf : Wide c.f
  hd : Wide c.d
  hb : Wide a.b
theorem parts_of {c : Cfg} {a : Ask} (hc : okC c = true) (ha : okA a = true) : ∃ i p m, Parts14 c a i p m := by
  simp only [okC, okA, Bool.and_eq_true, inB_iff] at hc ha
  exact ⟨c.s.toNat, c.o.toNat, a.m.toNat, by omega, by omega, by omega, by omega, by omega, by omega, by omega, by unfold Wide; omega, by unfold Wide; omega, by unfold Wide; omega, by unfold Wide; omega⟩
theorem lineW_short {c : Cfg} {a : Ask} {i p m : Nat} (h : Parts14 c a i p m) : ∀ x ∈ lineW c a, x.length ≤ 21 := by
  intro x hx
  have n0 := name_short 0 c.s.toNat
  have n1 := name_short 1 c.o.toNat
  have n2 := name_short 2 a.m.toNat
  have n3 := name_short 3 (stN a.st)
  have i1 := itoa_short h.ht
  have i2 := itoa_short h.hf
  have i3 := itoa_short h.hd
  have i4 := itoa_short h.hb
  simp only [lineW, List.mem_cons, List.not_mem_nil, or_false] at hx
  rcases hx with rfl | rfl | rfl | rfl | rfl | rfl | rfl | rfl <;> omega
/-- A row that is known whole reads as its texts. -/
theorem row_blk {w : World} {g n B : Nat} {xs : List (List UInt8)} (h : Blk w g 9 (vals xs).toArray) (hn : xs.length = n) (hB : g < B) (hm : n ≤ 1000) : Row w B (some ⟨g, 0, none⟩) n n xs := by
  refine ⟨hn, Nat.le_refl _, by unfold maxLen; omega, fun e => (by cases e), fun ad ha i hi => ?_⟩
  injection ha with ha
  subst ha
  refine ⟨hB, ?_⟩
  rw [plain_add, h.cell]
  simp [vals, List.getD, show i < xs.length by omega]
theorem decimal_any (n : Int) (hn : Wide n) (w : World) (hL : Laid w) : Calls Tryd.prog 25 #[.int .i64 n] w fun e w' => e = .returned (.string (txt (Lib.itoa n))) ∧ Below w.heap.size w w' := by
  go_enter Tryd.func25, Tryd.ntmps25
  go_wp2_with fail
  refine (dec_any n hn w hL).mono ?_
  rintro e w1 ⟨rfl, hb⟩
  go_wp2
  go_ret
  exact ⟨rfl, hb⟩
set_option maxRecDepth 100000 in
set_option maxHeartbeats 2000000 in
theorem confline_good (c : Cfg) (a : Ask) (w : World) (hL : Laid w) (hc : okC c = true) (ha : okA a = true) :
    Calls Tryd.prog 10 #[.agg #[.int .i64 c.s, .int .i64 c.o, .int .i64 c.t, .int .i64 c.f, .int .i64 c.d], .agg #[.int .i64 a.m, .int .i64 a.b, .bool a.st]] w fun e w' => e = .returned (.tuple #[.string (txt (lineO c a)), .int .i64 0]) ∧ Below w.heap.size w w' := by
  have hC := fun W hW => both_any c a W hW
  rw [chkB_of, hc, ha] at hC
  obtain ⟨i, p, m, hp⟩ := parts_of hc ha
  have hsh := lineW_short hp
  have hO : joinL (lineW c a) = lineO c a := rfl
  have hW : lineW c a = [nameAt 0 i, nameAt 1 p, Lib.itoa c.t, Lib.itoa c.f, Lib.itoa c.d, nameAt 2 m, Lib.itoa a.b, nameAt 3 (stN a.st)] := by
    unfold lineW
    rw [hp.ei, hp.ep, hp.em]
    rfl
  obtain ⟨hei, hi4, hep, hp2, hem, hm1, hm4, wt, wf, wd, wb⟩ := hp
  generalize lineO c a = LO at hO ⊢
  generalize lineW c a = LW at hO hsh hW
  obtain ⟨s, o, t, f, d⟩ := c
  obtain ⟨mm, b, st⟩ := a
  simp only at hC hei hep hem wt wf wd wb hW
  subst hei hep hem
  obtain ⟨W, eW⟩ : ∃ W, W = (w.alloc (.cells #[.int .i64 (i : Int), .int .i64 (p : Int), .int .i64 t, .int .i64 f, .int .i64 d] 23)).alloc (.cells #[.int .i64 (m : Int), .int .i64 b, .bool st] 25) := ⟨_, rfl⟩
  have hb : Below w.heap.size w W := by rw [eW]; exact ((Below.refl _ w).alloc (Nat.le_refl _) _).alloc (by simp) _
  have hB0 : Blk W w.heap.size 23 #[.int .i64 (i : Int), .int .i64 (p : Int), .int .i64 t, .int .i64 f, .int .i64 d] := by rw [eW]; exact Blk.below (heap_alloc_new w _) ((Below.refl _ _).alloc (Nat.le_refl _) _) (by simp)
  have hB1 : Blk W (w.heap.size + 1) 25 #[.int .i64 (m : Int), .int .i64 b, .bool st] := by rw [eW]; exact heap_alloc2_new w _ _
  go_enter Tryd.func10, Tryd.ntmps10
  go_wp2_with fail
  rw [← eW]
  clear eW
  refine (hC W (hL.on hb)).mono ?_
  rintro e w1 ⟨rfl, hb1⟩
  have B0 := hB0.below hb1 hB0.lt
  have B1 := hB1.below hb1 hB1.lt
  have hb2 := hb.trans (hb1.mono hb.size)
  have hLw : ∀ W, Below w1.heap.size w1 W → Laid W := fun W h => hL.on (hb2.trans (h.mono hb2.size))
  obtain ⟨z, ez⟩ : ∃ z, stN st = z := ⟨_, rfl⟩
  have hz : z < 4 := by rw [← ez]; cases st <;> decide
  have hfl : flagI st = (z : Int) := by rw [← ez]; cases st <;> rfl
  rw [ez] at hW
  obtain ⟨n0, en0⟩ : ∃ n, txt (nameAt 0 i) = n := ⟨_, rfl⟩
  obtain ⟨n1, en1⟩ : ∃ n, txt (nameAt 1 p) = n := ⟨_, rfl⟩
  obtain ⟨n2, en2⟩ : ∃ n, txt (nameAt 2 m) = n := ⟨_, rfl⟩
  obtain ⟨n3, en3⟩ : ∃ n, txt (nameAt 3 z) = n := ⟨_, rfl⟩
  obtain ⟨xt, ext⟩ : ∃ n, txt (Lib.itoa t) = n := ⟨_, rfl⟩
  obtain ⟨xf, exf⟩ : ∃ n, txt (Lib.itoa f) = n := ⟨_, rfl⟩
  obtain ⟨xd, exd⟩ : ∃ n, txt (Lib.itoa d) = n := ⟨_, rfl⟩
  obtain ⟨xb, exb⟩ : ∃ n, txt (Lib.itoa b) = n := ⟨_, rfl⟩
  have hV : vals LW = [.string n0, .string n1, .string xt, .string xf, .string xd, .string n2, .string xb, .string n3] := by
    rw [hW, ← en0, ← en1, ← en2, ← en3, ← ext, ← exf, ← exd, ← exb]
    rfl
  have hlen : LW.length = 8 := by rw [hW]; rfl
  have hS : ∀ W, Below w1.heap.size w1 W → (W.cell? ⟨w.heap.size, 0, none⟩ = some (.int .i64 (i : Int)) ∧ W.cell? ⟨w.heap.size, 1, none⟩ = some (.int .i64 (p : Int)) ∧ W.cell? ⟨w.heap.size, 2, none⟩ = some (.int .i64 t) ∧ W.cell? ⟨w.heap.size, 3, none⟩ = some (.int .i64 f) ∧ W.cell? ⟨w.heap.size, 4, none⟩ = some (.int .i64 d) ∧ W.cell? ⟨w.heap.size + 1, 0, none⟩ = some (.int .i64 (m : Int)) ∧ W.cell? ⟨w.heap.size + 1, 1, none⟩ = some (.int .i64 b) ∧ W.cell? ⟨w.heap.size + 1, 2, none⟩ = some (.bool st) ∧ W.cell? ⟨1, i, none⟩ = some (.string n0) ∧ W.cell? ⟨1, 4 + p, none⟩ = some (.string n1) ∧ W.cell? ⟨1, 8 + m, none⟩ = some (.string n2) ∧ W.cell? ⟨1, 12 + z, none⟩ = some (.string n3)) := by
    intro W h
    have k0 := B0.below h B0.lt
    have k1 := B1.below h B1.lt
    have hn := hLw W h
    have m0 := hn.name 0 i (by omega) (by omega)
    have m1 := hn.name 1 p (by omega) (by omega)
    have m2 := hn.name 2 m (by omega) (by omega)
    have m3 := hn.name 3 z (by omega) (by omega)
    rw [en0, show 0 * 4 + i = i by omega] at m0
    rw [en1] at m1
    rw [en2] at m2
    rw [en3] at m3
    exact ⟨k0.cell 0, k0.cell 1, k0.cell 2, k0.cell 3, k0.cell 4, k1.cell 0, k1.cell 1, k1.cell 2, m0, m1, m2, m3⟩
  have D0 := fun W hW => decimal_any t wt W hW
  have D1 := fun W hW => decimal_any f wf W hW
  have D2 := fun W hW => decimal_any d wd W hW
  have D3 := fun W hW => decimal_any b wb W hW
  rw [ext] at D0
  rw [exf] at D1
  rw [exd] at D2
  rw [exb] at D3
  have F0 := fun W => flag_any st W
  rw [hfl] at F0
  have HV := Lib.hid hV
  have HO := Lib.hid hO
  clear hO
  have HSH := Lib.hid hsh
  have HLN := Lib.hid hlen
  have HSS := Lib.hid hS
  have HB := Lib.hid hb2
  clear hV hsh hlen hS hb2 hW hC ez hfl en0 en1 en2 en3 ext exf exd exb hB0 hB1 B0 B1 hb hb1 wt wf wd wb
  have j0 : (0 : Int) ≤ (i : Int) := by omega
  have j1 : (i : Int) < 4 := by omega
  have j2 : (0 : Int) ≤ (p : Int) := by omega
  have j3 : (p : Int) < 4 := by omega
  have j4 : (0 : Int) ≤ (m : Int) := by omega
  have j5 : (m : Int) < 4 := by omega
  have j6 : (0 : Int) ≤ (z : Int) := by omega
  have j7 : (z : Int) < 4 := by omega
  go_wp2_with fail
  have bV : Below w1.heap.size w1 w1.drew := ⟨rfl, rfl, rfl, Nat.le_refl _, fun _ _ => rfl⟩
  have hVs := HSS.out _ bV
  refine wp_region_noPanic ?_
  refine wp_region_held_drew (S := fun w' => w'.cell? ⟨w.heap.size, 0, none⟩ = some (.int .i64 (i : Int)) ∧ w'.cell? ⟨w.heap.size, 1, none⟩ = some (.int .i64 (p : Int)) ∧ w'.cell? ⟨w.heap.size, 2, none⟩ = some (.int .i64 t) ∧ w'.cell? ⟨w.heap.size, 3, none⟩ = some (.int .i64 f) ∧ w'.cell? ⟨w.heap.size, 4, none⟩ = some (.int .i64 d) ∧ w'.cell? ⟨w.heap.size + 1, 0, none⟩ = some (.int .i64 (m : Int)) ∧ w'.cell? ⟨w.heap.size + 1, 1, none⟩ = some (.int .i64 b) ∧ w'.cell? ⟨w.heap.size + 1, 2, none⟩ = some (.bool st) ∧ w'.cell? ⟨1, i, none⟩ = some (.string n0) ∧ w'.cell? ⟨1, 4 + p, none⟩ = some (.string n1) ∧ w'.cell? ⟨1, 8 + m, none⟩ = some (.string n2) ∧ w'.cell? ⟨1, 12 + z, none⟩ = some (.string n3)) (by kernel_rfl) hVs (fun hHeld => ?_)
  clear hVs
  generalize w1.drew = V at *
  refine wpAnyH_take (i := 0) (oi := ⟨some 14, _, _, _, _, _⟩) (v := ?_) rfl (by kernel_rfl) (by kernel_rfl) (by kernel_rfl) (fun _ _ _ h => h) (Or.inl ⟨by rfl, ?_⟩) (by assumption) ?_
  rotate_left 1
  · (intro W hSw; go_simp <;> with_reducible rfl)
  try simp only [Act.put, List.setIfInBounds_toArray, List.set_cons_zero, List.set_cons_succ]
  refine wpAnyH_take (i := 1) (oi := ⟨some 15, _, _, _, _, _⟩) (v := ?_) rfl (by kernel_rfl) (by kernel_rfl) (by kernel_rfl) (fun _ _ _ h => h) (Or.inl ⟨by rfl, ?_⟩) (by assumption) ?_
  rotate_left 1
  · (intro W hSw; go_simp <;> with_reducible rfl)
  try simp only [Act.put, List.setIfInBounds_toArray, List.set_cons_zero, List.set_cons_succ]
  refine wpAnyH_take (i := 2) (oi := ⟨some 16, _, _, _, _, _⟩) (v := ?_) rfl (by kernel_rfl) (by kernel_rfl) (by kernel_rfl) (fun _ _ _ h => h) (Or.inl ⟨by rfl, ?_⟩) (by assumption) ?_
  rotate_left 1
  · (intro W hSw; go_simp <;> with_reducible rfl)
  try simp only [Act.put, List.setIfInBounds_toArray, List.set_cons_zero, List.set_cons_succ]
  refine wpAnyH_take (i := 3) (oi := ⟨some 17, _, _, _, _, _⟩) (v := ?_) rfl (by kernel_rfl) (by kernel_rfl) (by kernel_rfl) (fun _ _ _ h => h) (Or.inl ⟨by rfl, ?_⟩) (by assumption) ?_
  rotate_left 1
  · (intro W hSw; go_simp <;> with_reducible rfl)
  try simp only [Act.put, List.setIfInBounds_toArray, List.set_cons_zero, List.set_cons_succ]
  refine wpAnyH_take (i := 4) (oi := ⟨some 18, _, _, _, _, _⟩) (v := ?_) rfl (by kernel_rfl) (by kernel_rfl) (by kernel_rfl) (fun _ _ _ h => h) (Or.inl ⟨by rfl, ?_⟩) (by assumption) ?_
  rotate_left 1
  · (intro W hSw; go_simp <;> with_reducible rfl)
  try simp only [Act.put, List.setIfInBounds_toArray, List.set_cons_zero, List.set_cons_succ]
  refine wpAnyH_take (i := 5) (oi := ⟨some 19, _, _, _, _, _⟩) (v := ?_) rfl (by kernel_rfl) (by kernel_rfl) (by kernel_rfl) (fun _ _ _ h => h) (Or.inl ⟨by rfl, ?_⟩) (by assumption) ?_
  rotate_left 1
  · (intro W hSw; go_simp <;> with_reducible rfl)
  try simp only [Act.put, List.setIfInBounds_toArray, List.set_cons_zero, List.set_cons_succ]
  refine wpAnyH_take (i := 6) (oi := ⟨some 20, _, _, _, _, _⟩) (v := ?_) rfl (by kernel_rfl) (by kernel_rfl) (by kernel_rfl) (fun _ _ _ h => h) (Or.inl ⟨by rfl, ?_⟩) (by assumption) ?_
  rotate_left 1
  · (intro W hSw; go_simp <;> with_reducible rfl)
  try simp only [Act.put, List.setIfInBounds_toArray, List.set_cons_zero, List.set_cons_succ]
  refine wpAnyH_take (i := 7) (oi := ⟨some 21, _, _, _, _, _⟩) (v := ?_) rfl (by kernel_rfl) (by kernel_rfl) (by kernel_rfl) (fun _ _ _ h => h) (Or.inl ⟨by rfl, ?_⟩) (by assumption) ?_
  rotate_left 1
  · (intro W hSw; go_simp <;> with_reducible rfl)
  try simp only [Act.put, List.setIfInBounds_toArray, List.set_cons_zero, List.set_cons_succ]
  refine wpAnyH_take (i := 8) (oi := ⟨some 22, _, _, _, _, _⟩) (v := ?_) rfl (by kernel_rfl) (by kernel_rfl) (by kernel_rfl) (fun _ _ _ h => h) (Or.inl ⟨by rfl, ?_⟩) (by assumption) ?_
  rotate_left 1
  · (intro W hSw; go_simp <;> with_reducible rfl)
  try simp only [Act.put, List.setIfInBounds_toArray, List.set_cons_zero, List.set_cons_succ]
  refine wpAnyH_take (i := 9) (oi := ⟨some 23, _, _, _, _, _⟩) (v := ?_) rfl (by kernel_rfl) (by kernel_rfl) (by kernel_rfl) (fun _ _ _ h => h) (Or.inl ⟨by rfl, ?_⟩) (by assumption) ?_
  rotate_left 1
  · (intro W hSw; go_simp <;> with_reducible rfl)
  try simp only [Act.put, List.setIfInBounds_toArray, List.set_cons_zero, List.set_cons_succ]
  refine wpAnyH_take (i := 10) (oi := ⟨some 24, _, _, _, _, _⟩) (v := ?_) rfl (by kernel_rfl) (by kernel_rfl) (by kernel_rfl) (fun _ _ _ h => h) (Or.inl ⟨by rfl, ?_⟩) (by assumption) ?_
  rotate_left 1
  · (intro W hSw; go_simp <;> with_reducible rfl)
  try simp only [Act.put, List.setIfInBounds_toArray, List.set_cons_zero, List.set_cons_succ]
  refine wpAnyH_take (i := 11) (oi := ⟨some 25, _, _, _, _, _⟩) (v := ?_) rfl (by kernel_rfl) (by kernel_rfl) (by kernel_rfl) (fun _ _ _ h => h) (Or.inl ⟨by rfl, ?_⟩) (by assumption) ?_
  rotate_left 1
  · (intro W hSw; go_simp <;> with_reducible rfl)
  try simp only [Act.put, List.setIfInBounds_toArray, List.set_cons_zero, List.set_cons_succ]
  refine wpAnyH_take (i := 12) (oi := ⟨some 26, _, _, _, _, _⟩) (v := ?_) rfl (by kernel_rfl) (by kernel_rfl) (by kernel_rfl) (fun _ _ _ h => h) (Or.inl ⟨by rfl, ?_⟩) (by assumption) ?_
  rotate_left 1
  · (intro W hSw; go_simp <;> with_reducible rfl)
  try simp only [Act.put, List.setIfInBounds_toArray, List.set_cons_zero, List.set_cons_succ]
  refine wpAnyH_take (i := 14) (oi := ⟨some 28, _, _, _, _, _⟩) (v := ?_) rfl (by kernel_rfl) (by kernel_rfl) (by kernel_rfl) (fun _ _ _ h => h) (Or.inl ⟨by rfl, ?_⟩) (by assumption) ?_
  rotate_left 1
  · (intro W hSw; go_simp <;> with_reducible rfl)
  try simp only [Act.put, List.setIfInBounds_toArray, List.set_cons_zero, List.set_cons_succ]
  refine wpAnyH_take (i := 15) (oi := ⟨some 29, _, _, _, _, _⟩) (v := ?_) rfl (by kernel_rfl) (by kernel_rfl) (by kernel_rfl) (fun _ _ _ h => h) (Or.inl ⟨by rfl, ?_⟩) (by assumption) ?_
  rotate_left 1
  · (intro W hSw; go_simp <;> with_reducible rfl)
  try simp only [Act.put, List.setIfInBounds_toArray, List.set_cons_zero, List.set_cons_succ]
  refine wpAnyH_take (i := 16) (oi := ⟨some 30, _, _, _, _, _⟩) (v := ?_) rfl (by kernel_rfl) (by kernel_rfl) (by kernel_rfl) (fun _ _ _ h => h) (Or.inl ⟨by rfl, ?_⟩) (by assumption) ?_
  rotate_left 1
  · (intro W hSw; go_simp <;> with_reducible rfl)
  try simp only [Act.put, List.setIfInBounds_toArray, List.set_cons_zero, List.set_cons_succ]
  refine wpAnyH_take (i := 18) (oi := ⟨some 32, _, _, _, _, _⟩) (v := ?_) rfl (by kernel_rfl) (by kernel_rfl) (by kernel_rfl) (fun _ _ _ h => h) (Or.inl ⟨by rfl, ?_⟩) (by assumption) ?_
  rotate_left 1
  · (intro W hSw; go_simp <;> with_reducible rfl)
  try simp only [Act.put, List.setIfInBounds_toArray, List.set_cons_zero, List.set_cons_succ]
  refine wpAnyH_take (i := 19) (oi := ⟨some 33, _, _, _, _, _⟩) (v := ?_) rfl (by kernel_rfl) (by kernel_rfl) (by kernel_rfl) (fun _ _ _ h => h) (Or.inl ⟨by rfl, ?_⟩) (by assumption) ?_
  rotate_left 1
  · (intro W hSw; go_simp <;> with_reducible rfl)
  try simp only [Act.put, List.setIfInBounds_toArray, List.set_cons_zero, List.set_cons_succ]
  refine wpAnyH_take (i := 20) (oi := ⟨some 34, _, _, _, _, _⟩) (v := ?_) rfl (by kernel_rfl) (by kernel_rfl) (by kernel_rfl) (fun _ _ _ h => h) (Or.inl ⟨by rfl, ?_⟩) (by assumption) ?_
  rotate_left 1
  · (intro W hSw; go_simp <;> with_reducible rfl)
  try simp only [Act.put, List.setIfInBounds_toArray, List.set_cons_zero, List.set_cons_succ]
  refine wpAnyH_take (i := 22) (oi := ⟨some 36, _, _, _, _, _⟩) (v := ?_) rfl (by kernel_rfl) (by kernel_rfl) (by kernel_rfl) (fun _ _ _ h => h) (Or.inl ⟨by rfl, ?_⟩) (by assumption) ?_
  rotate_left 1
  · (intro W hSw; go_simp <;> with_reducible rfl)
  try simp only [Act.put, List.setIfInBounds_toArray, List.set_cons_zero, List.set_cons_succ]
  refine wpAnyH_take (i := 23) (oi := ⟨some 37, _, _, _, _, _⟩) (v := ?_) rfl (by kernel_rfl) (by kernel_rfl) (by kernel_rfl) (fun _ _ _ h => h) (Or.inl ⟨by rfl, ?_⟩) (by assumption) ?_
  rotate_left 1
  · (intro W hSw; go_simp <;> with_reducible rfl)
  try simp only [Act.put, List.setIfInBounds_toArray, List.set_cons_zero, List.set_cons_succ]
  refine wpAnyH_take (i := 24) (oi := ⟨some 38, _, _, _, _, _⟩) (v := ?_) rfl (by kernel_rfl) (by kernel_rfl) (by kernel_rfl) (fun _ _ _ h => h) (Or.inl ⟨by rfl, ?_⟩) (by assumption) ?_
  rotate_left 1
  · (intro W hSw; go_simp <;> with_reducible rfl)
  try simp only [Act.put, List.setIfInBounds_toArray, List.set_cons_zero, List.set_cons_succ]
  refine wpAnyH_take (i := 25) (oi := ⟨some 39, _, _, _, _, _⟩) (v := ?_) rfl (by kernel_rfl) (by kernel_rfl) (by kernel_rfl) (fun _ _ _ h => h) (Or.inl ⟨by rfl, ?_⟩) (by assumption) ?_
  rotate_left 1
  · (intro W hSw; go_simp <;> with_reducible rfl)
  try simp only [Act.put, List.setIfInBounds_toArray, List.set_cons_zero, List.set_cons_succ]
  refine wpAnyH_take (i := 26) (oi := ⟨some 40, _, _, _, _, _⟩) (v := ?_) rfl (by kernel_rfl) (by kernel_rfl) (by kernel_rfl) (fun _ _ _ h => h) (Or.inl ⟨by rfl, ?_⟩) (by assumption) ?_
  rotate_left 1
  · (intro W hSw; go_simp <;> with_reducible rfl)
  try simp only [Act.put, List.setIfInBounds_toArray, List.set_cons_zero, List.set_cons_succ]
  refine wpAnyH_take (i := 27) (oi := ⟨some 41, _, _, _, _, _⟩) (v := ?_) rfl (by kernel_rfl) (by kernel_rfl) (by kernel_rfl) (fun _ _ _ h => h) (Or.inl ⟨by rfl, ?_⟩) (by assumption) ?_
  rotate_left 1
  · (intro W hSw; go_simp <;> with_reducible rfl)
  try simp only [Act.put, List.setIfInBounds_toArray, List.set_cons_zero, List.set_cons_succ]
  refine wpAnyH_take (i := 28) (oi := ⟨some 42, _, _, _, _, _⟩) (v := ?_) rfl (by kernel_rfl) (by kernel_rfl) (by kernel_rfl) (fun _ _ _ h => h) (Or.inl ⟨by rfl, ?_⟩) (by assumption) ?_
  rotate_left 1
  · (intro W hSw; go_simp <;> with_reducible rfl)
  try simp only [Act.put, List.setIfInBounds_toArray, List.set_cons_zero, List.set_cons_succ]
  refine wpAnyH_take (i := 29) (oi := ⟨some 43, _, _, _, _, _⟩) (v := ?_) rfl (by kernel_rfl) (by kernel_rfl) (by kernel_rfl) (fun _ _ _ h => h) (Or.inl ⟨by rfl, ?_⟩) (by assumption) ?_
  rotate_left 1
  · (intro W hSw; go_simp <;> with_reducible rfl)
  try simp only [Act.put, List.setIfInBounds_toArray, List.set_cons_zero, List.set_cons_succ]
  refine wpAnyH_take (i := 31) (oi := ⟨some 45, _, _, _, _, _⟩) (v := ?_) rfl (by kernel_rfl) (by kernel_rfl) (by kernel_rfl) (fun _ _ _ h => h) (Or.inl ⟨by rfl, ?_⟩) (by assumption) ?_
  rotate_left 1
  · (intro W hSw; go_simp <;> with_reducible rfl)
  try simp only [Act.put, List.setIfInBounds_toArray, List.set_cons_zero, List.set_cons_succ]
  refine wpAnyH_take (i := 32) (oi := ⟨some 46, _, _, _, _, _⟩) (v := ?_) rfl (by kernel_rfl) (by kernel_rfl) (by kernel_rfl) (fun _ _ _ h => h) (Or.inl ⟨by rfl, ?_⟩) (by assumption) ?_
  rotate_left 1
  · (intro W hSw; go_simp <;> with_reducible rfl)
  try simp only [Act.put, List.setIfInBounds_toArray, List.set_cons_zero, List.set_cons_succ]
  refine wpAnyH_take (i := 34) (oi := ⟨some 48, _, _, _, _, _⟩) (v := ?_) rfl (by kernel_rfl) (by kernel_rfl) (by kernel_rfl) (fun _ _ _ h => h) (Or.inl ⟨by rfl, ?_⟩) (by assumption) ?_
  rotate_left 1
  · (intro W hSw; go_simp <;> with_reducible rfl)
  try simp only [Act.put, List.setIfInBounds_toArray, List.set_cons_zero, List.set_cons_succ]
  refine wpAnyH_ready (rs := [13]) (by kernel_rfl) (by simp) ?_
  refine AllReadyH.cons rfl (fun K hK => ?_) AllReadyH.nil
  go_simp
  refine (D0 _ (hLw _ bV)).mono ?_
  rintro e v0 ⟨rfl, hcv0⟩
  have k0 := bV.trans (hcv0.mono bV.size)
  refine hK.out _ _ (HSS.out _ k0) (fun h0 => ?_)
  clear hHeld hK K
  try simp only [Act.put, List.setIfInBounds_toArray, List.set_cons_zero, List.set_cons_succ]
  refine wpAnyH_ready (rs := [17]) (by kernel_rfl) (by simp) ?_
  refine AllReadyH.cons rfl (fun K hK => ?_) AllReadyH.nil
  go_simp
  refine (D1 _ (hLw _ k0)).mono ?_
  rintro e v1 ⟨rfl, hcv1⟩
  have k1 := k0.trans (hcv1.mono k0.size)
  refine hK.out _ _ (HSS.out _ k1) (fun h1 => ?_)
  clear h0 hK K
  try simp only [Act.put, List.setIfInBounds_toArray, List.set_cons_zero, List.set_cons_succ]
  refine wpAnyH_ready (rs := [21]) (by kernel_rfl) (by simp) ?_
  refine AllReadyH.cons rfl (fun K hK => ?_) AllReadyH.nil
  go_simp
  refine (D2 _ (hLw _ k1)).mono ?_
  rintro e v2 ⟨rfl, hcv2⟩
  have k2 := k1.trans (hcv2.mono k1.size)
  refine hK.out _ _ (HSS.out _ k2) (fun h2 => ?_)
  clear h1 hK K
  try simp only [Act.put, List.setIfInBounds_toArray, List.set_cons_zero, List.set_cons_succ]
  refine wpAnyH_ready (rs := [30]) (by kernel_rfl) (by simp) ?_
  refine AllReadyH.cons rfl (fun K hK => ?_) AllReadyH.nil
  go_simp
  refine (D3 _ (hLw _ k2)).mono ?_
  rintro e v3 ⟨rfl, hcv3⟩
  have k3 := k2.trans (hcv3.mono k2.size)
  refine hK.out _ _ (HSS.out _ k3) (fun h3 => ?_)
  clear h2 hK K
  try simp only [Act.put, List.setIfInBounds_toArray, List.set_cons_zero, List.set_cons_succ]
  refine wpAnyH_ready (rs := [33]) (by kernel_rfl) (by simp) ?_
  refine AllReadyH.cons rfl (fun K hK => ?_) AllReadyH.nil
  go_simp
  refine (F0 _).mono ?_
  rintro e v4 ⟨rfl, rfl⟩
  refine hK.out _ _ (HSS.out _ k3) (fun h4 => ?_)
  clear h3 hK K
  try simp only [Act.put, List.setIfInBounds_toArray, List.set_cons_zero, List.set_cons_succ]
  refine wpAnyH_take (i := 35) (oi := ⟨some 49, _, _, _, _, _⟩) (v := ?_) rfl (by kernel_rfl) (by kernel_rfl) (by kernel_rfl) (fun _ _ _ h => h) (Or.inl ⟨by rfl, ?_⟩) (by assumption) ?_
  rotate_left 1
  · (intro W hSw; go_simp <;> with_reducible rfl)
  try simp only [Act.put, List.setIfInBounds_toArray, List.set_cons_zero, List.set_cons_succ]
  refine wpAnyH_take (i := 36) (oi := ⟨some 50, _, _, _, _, _⟩) (v := ?_) rfl (by kernel_rfl) (by kernel_rfl) (by kernel_rfl) (fun _ _ _ h => h) (Or.inl ⟨by rfl, ?_⟩) (by assumption) ?_
  rotate_left 1
  · (intro W hSw; go_simp <;> with_reducible rfl)
  try simp only [Act.put, List.setIfInBounds_toArray, List.set_cons_zero, List.set_cons_succ]
  obtain ⟨v5, ev5⟩ : ∃ v, v = v3.alloc (.cells #[.string n0, .string n1, .string xt, .string xf, .string xd, .string n2, .string xb, .string n3] 9) := ⟨_, rfl⟩
  have bv5 : Below v3.heap.size v3 v5 := by rw [ev5]; exact (Below.refl _ v3).alloc (Nat.le_refl _) _
  have gv5 : Blk v5 v3.heap.size 9 (vals LW).toArray := by rw [ev5, HV.out]; exact heap_alloc_new v3 _
  have sv5 : v5.heap.size = v3.heap.size + 1 := by rw [ev5]; simp
  have k5 := k3.trans (bv5.mono k3.size)
  have hJ := join_any (some ⟨v3.heap.size, 0, none⟩) 8 8 LW v5 (row_blk gv5 HLN.out (by omega) (by omega)) (by omega) (fun x hx => by have := HSH.out x hx; omega)
  rw [HO.out] at hJ
  refine wpAnyH_ready (rs := [37]) (by kernel_rfl) (by simp) ?_
  refine AllReadyH.cons rfl (fun K hK => ?_) AllReadyH.nil
  go_simp
  rw [← ev5]
  refine hK.out _ _ (HSS.out _ k5) (fun h5 => ?_)
  clear h4 hK K ev5
  try simp only [Act.put, List.setIfInBounds_toArray, List.set_cons_zero, List.set_cons_succ]
  refine wpAnyH_ready (rs := [38]) (by kernel_rfl) (by simp) ?_
  refine AllReadyH.cons rfl (fun K hK => ?_) AllReadyH.nil
  go_simp
  refine hJ.mono ?_
  rintro e v6 ⟨rfl, hc6⟩
  have k6 := k5.trans (hc6.mono k5.size)
  refine hK.out _ _ (HSS.out _ k6) (fun h6 => ?_)
  clear h5 hK K
  try simp only [Act.put, List.setIfInBounds_toArray, List.set_cons_zero, List.set_cons_succ]
  refine wpAnyH_take (i := 39) (oi := ⟨some 4, _, _, _, _, _⟩) (v := ?_) rfl (by kernel_rfl) (by kernel_rfl) (by kernel_rfl) (fun _ _ _ h => h) (Or.inl ⟨by rfl, ?_⟩) (by assumption) ?_
  rotate_left 1
  · (intro W hSw; go_simp <;> with_reducible rfl)
  try simp only [Act.put, List.setIfInBounds_toArray, List.set_cons_zero, List.set_cons_succ]
  refine wpAnyH_take (i := 40) (oi := ⟨some 5, _, _, _, _, _⟩) (v := ?_) rfl (by kernel_rfl) (by kernel_rfl) (by kernel_rfl) (fun _ _ _ h => h) (Or.inl ⟨by rfl, ?_⟩) (by assumption) ?_
  rotate_left 1
  · (intro W hSw; go_simp <;> with_reducible rfl)
  try simp only [Act.put, List.setIfInBounds_toArray, List.set_cons_zero, List.set_cons_succ]
  refine wpAnyH_done (by kernel_rfl) ?_ _
  refine NoPanic.normal ?_
  go_wp2
  go_ret2
  exact ⟨rfl, HB.out.trans (k6.mono HB.out.size)⟩
end Go.Proofs.YtmkdmnaonddghaaDoor
