/- The contract of a source's instr: the next instruction, or the panic that tells where, and what, is wrong. Conditions: at most 2000 octets; the variable 'rows' lies as it is laid. -/
import Derived.Test.YtcbekkbhhepeaaaDoorSource
namespace Go.Proofs.YtcbekkbhhepeaaaDoor
open Go.RowKit

/-- The instruction whose octets lie from a on. -/
def insAt (xs : List Int) (a : Nat) : Ins := ⟨((xs.drop a).take 12)[0]?.getD 0, ((xs.drop a).take 12)[1]?.getD 0, ((xs.drop a).take 12)[2]?.getD 0, ((xs.drop a).take 12)[3]?.getD 0, wrap64 (val (((xs.drop a).take 12).drop 4))⟩
def insP (xs : List Int) (a : Nat) (r s k : Int) : Except (Int × Nat) Ins :=
  if xs.length < a + 12 then .error (1, xs.length) else if chkI (insAt xs a) r s k = 0 then .ok (insAt xs a) else .error (chkI (insAt xs a) r s k, a)
def Insts (xs : List Int) (g a : Nat) (w : World) (p : Except (Int × Nat) Ins) (e : Ending) (w' : World) : Prop :=
  match p with
  | .ok x => e = .returned (.agg #[.int .i64 x.o, .int .i64 x.a, .int .i64 x.b, .int .i64 x.c, .int .i64 x.n]) ∧ Rd w' g xs (a + 12) true ∧ w.grownBy w' (some g)
  | .error err => Fails err g w e w'

/-- All blocks but two are as they were. -/
structure Two (w w' : World) (g h : Nat) : Prop where
  os : w'.os = w.os
  tape : w'.tape = w.tape
  output : w'.output = w.output
  size : w.heap.size ≤ w'.heap.size
  block : ∀ k, k < w.heap.size → k ≠ g → k ≠ h → w'.heap[k]? = w.heap[k]?
theorem Two.refl (w : World) (g h : Nat) : Two w w g h := ⟨rfl, rfl, rfl, Nat.le_refl _, fun _ _ _ _ => rfl⟩
theorem Two.grown {w w1 w2 : World} {g h : Nat} (t : Two w w1 g h) (k : w1.grownBy w2 (some g)) : Two w w2 g h :=
  ⟨k.os.trans t.os, k.tape.trans t.tape, k.output.trans t.output, Nat.le_trans t.size k.size, fun i hi hg hh => (k.block i (Nat.lt_of_lt_of_le hi t.size) (by intro e; injection e with e; omega)).trans (t.block i hi hg hh)⟩
theorem Two.set_ {w w1 : World} {g h i : Nat} (t : Two w w1 g h) (u : Value) : Two w (w1.setCell ⟨h, i, none⟩ u) g h :=
  ⟨t.os, t.tape, t.output, by simpa [World.setCell] using t.size, fun k hk hg hh => (heap_set w1 h i k u hh).trans (t.block k hk hg hh)⟩
theorem Two.back {w w0 w1 : World} {g h : Nat} (k : w.grownBy w0 (some g)) (t : Two w0 w1 g h) (hh : w.heap.size ≤ h) : w.grownBy w1 (some g) :=
  ⟨t.os.trans k.os, t.tape.trans k.tape, t.output.trans k.output, Nat.le_trans k.size t.size, fun i hi hne => (t.block i (Nat.lt_of_lt_of_le hi k.size) (fun e => hne (by rw [e])) (by omega)).trans (k.block i hi hne)⟩
theorem Two.blk {w w' : World} {g h b : Nat} {t : TypeId} {cs : Array Value} (hk : Blk w b t cs) (hT : Two w w' g h) (h1 : b ≠ g) (h2 : b ≠ h) : Blk w' b t cs := (hT.block b hk.lt h1 h2).trans hk
theorem Laid.grown {w w' : World} {g : Nat} (h : Laid w) (k : w.grownBy w' (some g)) (hg : 1 ≤ g) : Laid w' :=
  h.below ⟨k.os, k.tape, k.output, k.size, fun i hi => k.block i (Nat.lt_of_lt_of_le hi h.big) (by intro e; injection e with e; omega)⟩ (Nat.le_refl _)
theorem below_grown {w w' : World} (h : Below w.heap.size w w') (r : Option Nat) : w.grownBy w' r := ⟨h.os, h.tape, h.output, h.size, fun k hk _ => h.block k hk⟩

theorem got_step {xs : List Int} {a j : Nat} {x : Int} (hx : xs[a + j]? = some x) : (xs.drop a).take (j + 1) = (xs.drop a).take j ++ [x] := take_snoc (by rw [List.getElem?_drop]; exact hx)
/-- j octets of twelve are read. -/
def part (xs : List Int) (a j : Nat) : List Int := (xs.drop a).take j ++ List.replicate (12 - j) 0
theorem part_len {xs : List Int} {a j : Nat} (hj : j ≤ 12) (ha : a + j ≤ xs.length) : (part xs a j).length = 12 := by
  rw [part, List.length_append, List.length_take, List.length_drop, List.length_replicate]
  omega
theorem part_set {xs : List Int} {a j : Nat} {x : Int} (hj : j < 12) (hx : xs[a + j]? = some x) : (nums (part xs a j)).set j (.int .u8 x) = nums (part xs a (j + 1)) := by
  have ha := (List.getElem?_eq_some_iff.1 hx).1
  have hl : ((xs.drop a).take j).length = j := by rw [List.length_take, List.length_drop]; omega
  obtain ⟨m, hm⟩ : ∃ m, 12 - j = m + 1 := ⟨11 - j, by omega⟩
  have hm2 : 12 - (j + 1) = m := by omega
  unfold part nums
  rw [got_step hx, hm, hm2, List.replicate_succ, List.map_append, List.map_append, List.map_append, List.map_cons]
  rw [List.set_append_right _ _ (by rw [List.length_map, hl]; exact Nat.le_refl _), List.length_map, hl, Nat.sub_self, List.set_cons_zero]
  simp
theorem part_full (xs : List Int) (a : Nat) : part xs a 12 = (xs.drop a).take 12 := by simp [part]

theorem get_lit (ys : List Int) (A : Option Addr) (cap : Nat) (w : World) (h : Oct w w.heap.size A 12 cap ys) (o a b c n : Int) (v0 : ys[0]?.getD 0 = o) (v1 : ys[1]?.getD 0 = a) (v2 : ys[2]?.getD 0 = b) (v3 : ys[3]?.getD 0 = c) (v4 : wrap64 (val (ys.drop 4)) = n) :
    Calls Tryd.prog 60 #[.slice A 12 cap] w fun e w' => e = .returned (.tuple #[.agg #[.int .i64 o, .int .i64 a, .int .i64 b, .int .i64 c, .int .i64 n], .int .i64 0]) ∧ Below w.heap.size w w' := get_parts ys A cap w h o a b c n v0 v1 v2 v3 v4

theorem Rd.far {w w' : World} {g : Nat} {xs : List Int} {a : Nat} {good : Bool} (h : Rd w g xs a good) (hk : ∀ b, b ≤ g → w'.heap[b]? = w.heap[b]?) : Rd w' g xs a good := by
  obtain ⟨⟨A, cap, hb, ho⟩, hm, hl⟩ := h
  exact ⟨⟨A, cap, (hk g (Nat.le_refl _)).trans hb, ho.keep fun p hp => cell_blk p (hk _ (by omega))⟩, hm, hl⟩
theorem grown_setRow {w w' : World} {r : Option Nat} (h : w.grownBy w' r) {b : Nat} (hb : w.heap.size ≤ b) (cs : Array Value) : w.grownBy (w'.setRow b cs) r :=
  ⟨h.os, h.tape, h.output, by simpa [World.setRow] using h.size, fun k hk hne => (setRow_other w' b k cs (by omega)).trans (h.block k hk hne)⟩
theorem part_at {xs : List Int} {a j : Nat} (hj : j < 12) (ha : a + j ≤ xs.length) : (nums (part xs a j))[j]? = some (.int .u8 0) := by
  have hl : ((xs.drop a).take j).length = j := by rw [List.length_take, List.length_drop]; omega
  unfold nums part
  rw [List.getElem?_map, List.getElem?_append_right (by omega), hl, Nat.sub_self, List.getElem?_replicate]
  simp
  omega

set_option maxRecDepth 100000 in
set_option maxHeartbeats 2000000 in
theorem instr_any {w : World} {g : Nat} {xs : List Int} {a : Nat} (h : Rd w g xs a true) (hg : 1 ≤ g) (hL : Laid w) (r c s k : Int) (B : Option Addr) (l m : Nat) :
    Calls Tryd.prog 54 #[.agg #[.pointer (some ⟨g, 0, none⟩)], .agg #[.int .i64 r, .int .i64 c, .int .i64 s, .slice B l m], .int .i64 k] w (Insts xs g a w (insP xs a r s k)) := by
  obtain ⟨i0, hi0, hz0, hz1, hz2⟩ := info_parts info5
  have Z0 := Lib.hid hz0
  have Z1 := Lib.hid hz1
  have Z2 := Lib.hid hz2
  have I0 := Lib.hid hi0
  clear hz0 hz1 hz2 hi0
  have hlt := h.lt
  obtain ⟨W0, eW0⟩ : ∃ W0, W0 = ((w.alloc (.cells #[.pointer (some ⟨g, 0, none⟩)] 57)).alloc (.cells #[.int .i64 r, .int .i64 c, .int .i64 s, .slice B l m] 24)).alloc (.cells #[.int .i64 0, .int .i64 0, .int .i64 0, .int .i64 0, .int .i64 0] 45) := ⟨_, rfl⟩
  have b0 : Below w.heap.size w W0 := by rw [eW0]; exact (((Below.refl _ w).alloc (Nat.le_refl _) _).alloc (by simp) _).alloc (by simp; omega) _
  have s0 : W0.heap.size = w.heap.size + 3 := by rw [eW0]; simp
  have q1 : Blk W0 w.heap.size 57 #[.pointer (some ⟨g, 0, none⟩)] := by
    rw [eW0]
    exact Blk.below (Blk.below (heap_alloc_new w _) ((Below.refl _ _).alloc (Nat.le_refl _) _) (by simp)) ((Below.refl _ _).alloc (Nat.le_refl _) _) (by simp; omega)
  have q2 : Blk W0 (w.heap.size + 1) 24 #[.int .i64 r, .int .i64 c, .int .i64 s, .slice B l m] := by
    rw [eW0]
    exact Blk.below (heap_alloc2_new w _ _) ((Below.refl _ _).alloc (Nat.le_refl _) _) (by simp)
  have q3 : Blk W0 (w.heap.size + 2) 45 #[.int .i64 0, .int .i64 0, .int .i64 0, .int .i64 0, .int .i64 0] := by
    rw [eW0]
    have := heap_alloc_new ((w.alloc (.cells #[.pointer (some ⟨g, 0, none⟩)] 57)).alloc (.cells #[.int .i64 r, .int .i64 c, .int .i64 s, .slice B l m] 24)) (.cells #[.int .i64 0, .int .i64 0, .int .i64 0, .int .i64 0, .int .i64 0] 45)
    simpa [Blk] using this
  have hR := h.below b0 h.lt
  have hA := at_any hR
  have c0 := q1.cell 0
  have HS0 := Lib.hid s0
  clear s0
  go_enter Tryd.func54, Tryd.ntmps54
  go_wp2_with fail
  rw [← eW0]
  clear eW0
  go_wp2_with fail
  refine hA.mono ?_
  rintro e w' ⟨rfl, rfl⟩
  clear hA
  go_wp2_with (first
    | (at_make; refine wpList_make_full _ rfl _ _ 29 rfl W0.heap.size 5 i0 (.int .u8 0) 1 Tryd.underlying29 I0.out Z0.out Z1.out .i64 .i64 _ _ 12 rfl rfl rfl rfl (by rw [Z2.out]; omega) (by unfold maxLen; omega) (Nat.le_refl _) ?_; intro W2 hown2 hg2))
  obtain ⟨H, eH⟩ : ∃ H, W0.heap.size = H := ⟨_, rfl⟩
  rw [eH] at hown2 ⊢
  have hH : H = w.heap.size + 3 := by rw [← eH]; exact HS0.out
  have hH2 : H < W2.heap.size := (hown2.lt H rfl).2
  have HH := Lib.hid (And.intro hH hH2)
  have g02 : w.grownBy W2 (some g) := grown_trans (below_grown b0 _) ⟨hg2.os, hg2.tape, hg2.output, hg2.size, fun i hi _ => hg2.block i hi (by simp)⟩
  have k2 : ∀ {b : Nat} {t : TypeId} {cs : Array Value}, Blk W0 b t cs → Blk W2 b t cs := fun hb => (hg2.block _ hb.lt (by simp)).trans hb
  have Q1 := k2 q1
  have Q2 := k2 q2
  have Q3 := k2 q3
  have HR2 : Hid (Rd W2 g xs (a + 0) true ∧ W2.ownsRow H 5 1 (.slice (some ⟨H, 0, none⟩) 12 12) 12 (nums (part xs a 0))) := Lib.hid ⟨by
    refine hR.below ⟨hg2.os, hg2.tape, hg2.output, hg2.size, fun i hi => hg2.block i hi (by simp)⟩ hR.lt, by
    have e : (madeCells (Value.int IntKind.u8 0).cells (12 * 1)).toList = nums (part xs a 0) := by
      rw [show (Value.int IntKind.u8 0).cells = #[.int .u8 0] from rfl, toList_madeCells_one]
      rfl
    rw [← e]
    exact hown2⟩
  clear hown2 hg2 k2 q1 q2 q3 hR c0 hH hH2 eH HS0 b0
  have hL2 := hL.grown g02 hg
  go_loopw [19] (fun i wr => ∃ j : Nat, i = .int .i64 j ∧ j ≤ 12 ∧ Rd wr g xs (a + j) true ∧ Two W2 wr g H ∧ wr.ownsRow H 5 1 (.slice (some ⟨H, 0, none⟩) 12 12) 12 (nums (part xs a j))) (fun i _ => 12 - (intOf i).toNat)
  case atStart => exact ⟨0, rfl, Nat.zero_le _, HR2.out.1, Two.refl _ _ _, HR2.out.2⟩
  case round =>
    obtain ⟨j, rfl, hj, hr, hT, hown⟩ := hrel
    clear HR2
    generalize wr = w4 at *
    obtain ⟨hH, hH2⟩ := HH.out
    have R1 := Two.blk Q1 hT (by omega) (by omega)
    have R2 := Two.blk Q2 hT (by omega) (by omega)
    have R3 := Two.blk Q3 hT (by omega) (by omega)
    clear hH hH2
    have c0 := R1.cell 0
    by_cases hlt : j < 12
    · have t0 : decide ((j : Int) < 12) = true := decide_eq_true (by omega)
      have j0 : (0 : Int) ≤ (j : Int) := by omega
      have j1 : (j : Int) < 12 := by omega
      cases hx : xs[a + j]? with
      | none =>
        have hla : xs.length = a + j := by have := List.getElem?_eq_none_iff.1 hx; have := hr.le; omega
        have hO := octet_no hr hla
        have HE : Hid (insP xs a r s k = .error (1, a + j)) := Lib.hid (by unfold insP; rw [if_pos (by omega), hla])
        have hb := Two.back g02 hT (by have := HH.out.1; omega)
        clear hx hla hr R1 R2 R3 hT hown
        go_wp2_with fail
        refine hO.mono ?_
        rintro e w5 ⟨rfl, hg5⟩
        have HQ := Lib.hid (grown_trans hb hg5)
        clear hb hg5 hO
        go_wp2
        refine ⟨rfl, ?_⟩
        rw [HE.out]
        exact ⟨rfl, HQ.out⟩
      | some x =>
        have hO := octet_yes hr hx
        have hxb := hr.small.at_ (a + j)
        rw [hx] at hxb
        simp only [Option.getD_some] at hxb
        obtain ⟨x0, x1⟩ := hxb
        have HX := Lib.hid hx
        clear hx hr R1 R2 R3
        go_wp2_with fail
        refine hO.mono ?_
        rintro e w5 ⟨rfl, hr5, hg5⟩
        obtain ⟨hH, hH2⟩ := HH.out
        have hHg : H ≠ g := by omega
        have own5 := hown.kept hg5 (.inr (by show some H ≠ some g; intro e; injection e with e; exact hHg e))
        have e5 : w5.cell? ⟨H, j, none⟩ = some (.int .u8 0) := (own5.cellAt j (by omega)).trans (part_at hlt (by have := (List.getElem?_eq_some_iff.1 HX.out).1; omega))
        have f5 := own5.frozenAt j
        have own6 := (own5.stored j (.int .u8 x)).1
        rw [part_set hlt HX.out] at own6
        have hr6 : Rd (w5.setCell ⟨H, j, none⟩ (.int .u8 x)) g xs (a + (j + 1)) true := hr5.far fun b hb => heap_set w5 H j b _ (by omega)
        have hT6 : Two W2 (w5.setCell ⟨H, j, none⟩ (.int .u8 x)) g H := (hT.grown hg5).set_ _
        have HQ := Lib.hid (And.intro hr6 (And.intro hT6 own6))
        clear hr6 hT6 own6 own5 hown hT hr5 hg5 hO c0 hH hH2 hHg
        go_wp2
        go_roundw
        case rel => exact ⟨j + 1, by go_num, by omega, HQ.out.1, HQ.out.2.1, HQ.out.2.2⟩
        case measure => simp [intOf]; omega
    · obtain rfl : j = 12 := by omega
      have hle := hr.le
      have hsm : Small ((xs.drop a).take 12) := (hr.small.drop a).take 12
      rw [part_full] at hown
      obtain ⟨A7, cap7, e7, ho7⟩ := Oct.own hown hsm
      injection e7 with e71 e72 e73
      subst e71 e73
      obtain ⟨y0, v0⟩ : ∃ y, ((xs.drop a).take 12)[0]?.getD 0 = y := ⟨_, rfl⟩
      obtain ⟨y1, v1⟩ : ∃ y, ((xs.drop a).take 12)[1]?.getD 0 = y := ⟨_, rfl⟩
      obtain ⟨y2, v2⟩ : ∃ y, ((xs.drop a).take 12)[2]?.getD 0 = y := ⟨_, rfl⟩
      obtain ⟨y3, v3⟩ : ∃ y, ((xs.drop a).take 12)[3]?.getD 0 = y := ⟨_, rfl⟩
      obtain ⟨y4, v4⟩ : ∃ y, wrap64 (val (((xs.drop a).take 12).drop 4)) = y := ⟨_, rfl⟩
      have HI : Hid (insAt xs a = ⟨y0, y1, y2, y3, y4⟩) := Lib.hid (by unfold insAt; rw [v0, v1, v2, v3, v4])
      have hG := get_lit _ _ _ w4 ho7 y0 y1 y2 y3 y4 v0 v1 v2 v3 v4
      have hb := Two.back g02 hT (by have := HH.out.1; omega)
      have hLw := hL.grown hb hg
      clear v0 v1 v2 v3 v4 ho7 hown hsm hT
      go_wp2_with fail
      refine hG.mono ?_
      rintro e w5 ⟨rfl, hb5⟩
      have a5 : Below w5.heap.size w5 (w5.alloc (.cells #[.int .i64 y0, .int .i64 y1, .int .i64 y2, .int .i64 y3, .int .i64 y4] 45)) := (Below.refl _ _).alloc (Nat.le_refl _) _
      have q5 := hb5.trans (a5.mono hb5.size)
      obtain ⟨f0, f1, f2, f3, f4⟩ := At5.new w5 y0 y1 y2 y3 y4
      have f5 := At5.new w5 y0 y1 y2 y3 y4
      have P2 := R2.below q5 R2.lt
      have z0 := P2.cell 0
      have z1 := P2.cell 1
      have z2 := P2.cell 2
      have z3 := P2.cell 3
      have hC := check_any y0 y1 y2 y3 y4 r c s k B l m _ (hLw.on q5)
      obtain ⟨v, ev⟩ : ∃ v, chk y0 y1 y2 y3 y4 r s k = v := ⟨_, rfl⟩
      rw [ev] at hC
      have EV := Lib.hid ev
      clear hG ev hb5 a5 P2
      go_wp2_with fail
      refine hC.mono ?_
      rintro e w7 ⟨rfl, hb7⟩
      have q7 := q5.trans (hb7.mono q5.size)
      have h7 := f5.on hb7
      clear f0 f1 f2 f3 f4 f5 z0 z1 z2 z3 hC c0
      have hbg := grown_trans hb (below_grown q7 (some g))
      by_cases hv : v = 0
      · subst hv
        have HE : Hid (insP xs a r s k = .ok ⟨y0, y1, y2, y3, y4⟩) := Lib.hid (by unfold insP; rw [if_neg (by omega), HI.out]; exact if_pos EV.out)
        obtain ⟨f0, f1, f2, f3, f4⟩ := id h7
        have R7 := R3.below q7 R3.lt
        have hr7 := hr.below q7 hr.lt
        obtain ⟨hH, hH2⟩ := HH.out
        have hrf : Rd (w7.setRow (w.heap.size + 2) (ins y0 y1 y2 y3 y4)) g xs (a + 12) true := hr7.far fun b hb => setRow_other w7 _ b _ (by omega)
        have hgf : w.grownBy (w7.setRow (w.heap.size + 2) (ins y0 y1 y2 y3 y4)) (some g) := grown_setRow hbg (by omega) _
        have HQ := Lib.hid (And.intro hrf hgf)
        clear hrf hgf hr7 hbg hr hb q7 hb7 hH hH2
        go_wp2_with (refine wpList_store_row rfl 45 (.tmp 6) (.tmp 44) rfl (w.heap.size + 2) (ins y0 y1 y2 y3 y4) rfl rfl 45 (ins 0 0 0 0 0) R7 info23 rfl (ins_one y0 y1 y2 y3 y4) ?_)
        refine bodyPost_ret (results_cell_row (cs := ins y0 y1 y2 y3 y4) rfl _ _ (w.heap.size + 2) 45 (0, 0) _ rfl (setRow_heap _ _ _ _ _ _ R7) Tryd.underlying45 rfl info23) rfl ?_
        rw [HE.out]
        exact ⟨rfl, HQ.out.1, HQ.out.2⟩
      · have HE : Hid (insP xs a r s k = .error (v, a)) := Lib.hid (by
          unfold insP
          have e : chkI (insAt xs a) r s k = v := by rw [HI.out]; exact EV.out
          rw [if_neg (by omega), e, if_neg hv])
        have HQ := Lib.hid hbg
        clear hbg hr hb q7 hb7
        go_wp2
        refine ⟨rfl, ?_⟩
        rw [HE.out]
        exact ⟨rfl, HQ.out⟩
end Go.Proofs.YtcbekkbhhepeaaaDoor
