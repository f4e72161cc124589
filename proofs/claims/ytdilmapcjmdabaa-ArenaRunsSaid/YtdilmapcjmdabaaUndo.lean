/- Changes are taken back. Conditions: at most 1000 changes. -/
import Derived.Test.YtdilmapcjmdabaaTake
namespace Go.Proofs.Ytdilmapcjmdabaa
open Go.ChangeShapes Go.WideShapes Go.RowKit

/-- The past leads back. -/
def Trail : Sta → His → Prop
  | _, [] => True
  | s, x :: H => (∃ m : Mov, Can x.2 m ∧ x.1 = ⟨m.k, m.was⟩ ∧ s = x.2.turn m) ∧ Inv x.2 ∧ Trail x.2 H
/-- What was there so many changes ago. -/
def stateAt : Sta → His → Nat → Sta
  | s, _, 0 => s
  | s, [], _ + 1 => s
  | _, x :: H, d + 1 => stateAt x.2 H d
theorem stateAt_next : ∀ (H : His) (s : Sta) (d : Nat) (x : Chg × Sta) (r : His), H.drop d = x :: r → stateAt s H (d + 1) = x.2 ∧ H.drop (d + 1) = r
  | [], s, d, x, r, h => by simp at h
  | y :: H, s, 0, x, r, h => by
    simp at h
    obtain ⟨rfl, rfl⟩ := h
    exact ⟨by cases H <;> rfl, rfl⟩
  | y :: H, s, d + 1, x, r, h => by
    simp at h
    have := stateAt_next H y.2 d x r h
    exact ⟨this.1, by simpa using this.2⟩
theorem trail_at : ∀ (H : His) (s : Sta) (d : Nat), Trail s H → Inv s → Trail (stateAt s H d) (H.drop d) ∧ Inv (stateAt s H d)
  | [], _, 0, h, hI => ⟨h, hI⟩
  | [], _, _ + 1, h, hI => ⟨h, hI⟩
  | _ :: _, _, 0, h, hI => ⟨h, hI⟩
  | x :: H, _, d + 1, h, _ => trail_at H x.2 d h.2.2 h.2.1
theorem stateAt_zero (s : Sta) (H : His) : stateAt s H 0 = s := by cases H <;> rfl
theorem Trail.go {s : Sta} {H : His} {m : Option Mov} (h : Trail s H) (hI : Inv s) (hm : ∀ x, m = some x → Can s x) : Trail (s.go m) (His.go H s m) := by
  cases m with
  | none => exact h
  | some x => exact ⟨⟨x, hm x rfl, rfl, rfl⟩, hI, h⟩
/-- How many changes an arena has kept. -/
def pastLen (p : Nat) (w : World) : Nat := match w.cell? ⟨p, 0, none⟩ with
  | some (.pointer (some a)) => (match w.cell? a with
    | some (.slice _ h _) => h
    | _ => 0)
  | _ => 0
section
variable {w w' : World} {p : Nat} {L : Lim} {s : Sta} {H : His}
theorem pastLen_is {C : List Cel} {R : List Int} {P : List Chg} (h : Are w p L C R P) : pastLen p w = P.length := by
  have c0 : w.cell? ⟨L.pp, 0, none⟩ = some (.slice L.Ap L.h L.cp) := h.past.box.cell 0
  unfold pastLen
  rw [h.at0]
  simp only [c0]
  exact h.lenP.symm
theorem undo_no {v : Value} {q : Int} (h : Calls Try.prog 41 #[v] w fun e w' => e = .returned (.bool false) ∧ w = w') : Calls Try.prog 21 #[v, .int .i64 q] w fun e w' => e = .returned (.bool false) ∧ w = w' := by
  go_enter Try.func21, Try.ntmps21
  go_wp2_with fail
  refine h.mono ?_
  rintro e w' ⟨rfl, rfl⟩
  go_wp2
  go_ret
  exact ⟨rfl, rfl⟩
theorem undo_out {q : Int} (h : Ara w p L s H) (hq : ¬ (0 ≤ q ∧ q ≤ (H.length : Int))) : Calls Try.prog 21 #[.pointer (some ⟨p, 0, none⟩), .int .i64 q] w fun e w' => e = .returned (.bool false) ∧ w = w' := by
  have a0 := h.at0
  have hc := count_any h.past
  rw [← h.lenP, chgs_len] at hc
  have hi := in_any q 0 (H.length : Int) w
  rw [show (decide (0 ≤ q) && decide (q ≤ (H.length : Int))) = false by simp; omega] at hi
  generalize H.length = k at *
  clear hq
  go_enter Try.func21, Try.ntmps21
  go_wp2_with fail
  refine (made_some a0).mono ?_
  rintro e w' ⟨rfl, rfl⟩
  go_wp2_with fail
  refine hc.mono ?_
  rintro e w' ⟨rfl, rfl⟩
  go_wp2_with fail
  refine hi.mono ?_
  rintro e w' ⟨rfl, rfl⟩
  go_wp2
  go_ret
  exact ⟨rfl, rfl⟩
set_option maxRecDepth 100000 in
set_option maxHeartbeats 1000000 in
theorem undo_any {q : Nat} (h : Ara w p L s H) (hI : Inv s) (hT : Trail s H) (hh : H.length ≤ 1000) (hq : q ≤ H.length) : Calls Try.prog 21 #[.pointer (some ⟨p, 0, none⟩), .int .i64 (q : Int)] w fun e w' => e = .returned (.bool true) ∧ AreTo w p L (stateAt s H (H.length - q)).C (stateAt s H (H.length - q)).R (His.chgs (H.drop (H.length - q))) w' := by
  have a0 := h.at0
  have hc := count_any h.past
  rw [← h.lenP, chgs_len] at hc
  have hi := in_any (q : Int) 0 (H.length : Int) w
  rw [show (decide ((0 : Int) ≤ (q : Int)) && decide ((q : Int) ≤ (H.length : Int))) = true by simp; omega] at hi
  obtain ⟨N, eN⟩ : ∃ N, N = H.length := ⟨_, rfl⟩
  rw [← eN] at hc hi hq hh ⊢
  have hall := Lib.hid (fun d => trail_at H s d hT hI)
  clear hT hI
  have EN := Lib.hid eN
  clear eN
  go_enter Try.func21, Try.ntmps21
  go_wp2_with fail
  refine (made_some a0).mono ?_
  rintro e w' ⟨rfl, rfl⟩
  go_wp2_with fail
  refine hc.mono ?_
  rintro e w' ⟨rfl, rfl⟩
  go_wp2_with fail
  refine hi.mono ?_
  rintro e w' ⟨rfl, rfl⟩
  go_wp2_with fail
  clear hc hi a0
  go_loopw [] (fun wr => ∃ d : Nat, d + q ≤ N ∧ AreTo w p L (stateAt s H d).C (stateAt s H d).R (His.chgs (H.drop d)) wr) (fun wr => pastLen p wr)
  case atStart => exact ⟨0, by omega, by rw [stateAt_zero]; exact are_to h (Below.refl _ _)⟩
  case round =>
    obtain ⟨d, hd, L1, h1, k1, m1⟩ := hrel
    have a0 := h1.at0
    have hc := count_any h1.past
    have hpl := pastLen_is h1
    have hlp := h1.lenP
    rw [chgs_len, List.length_drop] at hlp
    rw [chgs_len, List.length_drop] at hpl
    have eN := EN.out
    rw [← hlp] at hc
    by_cases hlt : d + q < N
    · obtain ⟨x, r, ex⟩ : ∃ x r, H.drop d = x :: r := by
        match hD : H.drop d with
        | [] =>
          have := congrArg List.length hD
          rw [List.length_drop] at this
          simp at this
          omega
        | x :: r => exact ⟨x, r, rfl⟩
      obtain ⟨hT1, hI1⟩ := hall.out d
      obtain ⟨e5, e6⟩ := stateAt_next H s d x r ex
      rw [ex] at hT1 h1
      obtain ⟨⟨m, hm, em, es⟩, hI2, _⟩ := hT1
      have hlC := h1.lenC
      have hlR := h1.lenR
      have hle := hI1.le
      have hleR := hI1.lenR
      rw [es] at h1 hI1
      obtain ⟨hb1, hb2⟩ := Can.back hI2 hm
      obtain ⟨j, g1, g2, g3, g4⟩ := cel_some hb1.at_
      obtain ⟨u, eu⟩ : ∃ u, L1.h = u + 1 := ⟨L1.h - 1, by omega⟩
      have t0 : decide ((q : Int) < (u : Int) + 1) = true := decide_eq_true (by omega)
      have t1 : (q : Int) < (u : Int) + 1 := by omega
      rw [hlp, eu] at hc
      have hP : His.chgs (x :: r) = His.chgs r ++ [⟨m.k, m.was⟩] := by rw [← em]; simp [His.chgs]
      have hpast := h1.past
      rw [hP, eu] at hpast
      have hstock := h1.stock
      have hbx := h1.box
      have hset := fun (W : World) (hW : Stk W L1.ps L1.Ac L1.cc L1.n L1.Ar L1.cr L1.m (x.2.turn m).C (x.2.turn m).R) => set_any (to := m.was) hW (by omega) (by omega) g1 g2 (fun e1 e2 e3 => by have := hb1.head e1 e2; rw [e3] at this; cases this)
      have e7 : (x.2.turn m).C.set j m.was = x.2.C := by
        have := congrArg Sta.C hb2
        rw [show ((x.2.turn m).turn m.back).C = (x.2.turn m).C.set (m.k - 1).toNat m.was from rfl, show (m.k - 1).toNat = j from g4] at this
        exact this
      have e8 : row1 (x.2.turn m).R m.k m.to m.was = x.2.R := congrArg Sta.R hb2
      have e9 : m.back.k = m.k := rfl
      have e10 : m.back.was = m.to := rfl
      rw [e9, e10, e7, e8] at hset
      have HS := Lib.hid hset
      have HB := Lib.hid hb2
      have hbk := back_any hpast (by omega)
      clear hset hb2 e7 e8 e9 e10 g1 g2 g3 g4 eN eu hlp
      have a1 := h1.at1
      go_wp2_with fail
      refine hc.mono ?_
      rintro e w' ⟨rfl, rfl⟩
      go_wp2_with fail
      refine hbk.mono ?_
      rintro e w1 ⟨rfl, hP1⟩
      obtain ⟨Ap', cp', h', p1, p2, p3⟩ := hP1
      have hbx1 := hbx.kept p2 (past_off hpast hbx (by decide) (by decide))
      have hst1 := hstock.kept p2 (parts hpast hstock)
      have hB : Blk (w1.alloc (.cells (Chg.cs ⟨0, noC⟩).toArray 83)) w1.heap.size 83 (Chg.cs ⟨0, noC⟩).toArray := heap_alloc_new w1 _
      obtain ⟨w2, ew2⟩ : ∃ W, W = (w1.alloc (.cells (Chg.cs ⟨0, noC⟩).toArray 83)).setRow w1.heap.size (Chg.cs ⟨m.k, m.was⟩).toArray := ⟨_, rfl⟩
      have hb12 : Below w1.heap.size w1 w2 := by rw [ew2]; exact below_setRow ((Below.refl _ w1).alloc (Nat.le_refl _) _) (Nat.le_refl _) _
      have b5 : Blk w2 w1.heap.size 83 (Chg.cs ⟨m.k, m.was⟩).toArray := by rw [ew2]; exact setRow_heap _ _ _ _ _ _ hB
      go_wp2_with (refine wpList_store_row rfl 83 (.tmp 5) (.tmp 30) rfl w1.heap.size (Chg.cs ⟨m.k, m.was⟩).toArray rfl rfl 83 (Chg.cs ⟨0, noC⟩).toArray hB size83 rfl (by simp [Chg.cs, Cel.cs, Value.oneCell']) ?_)
      show Code.wp _ _ _ _ ((w1.alloc (.cells (Chg.cs ⟨0, noC⟩).toArray 83)).setRow w1.heap.size (Chg.cs ⟨m.k, m.was⟩).toArray)
      rw [← ew2]
      clear ew2 hB
      have hbx2 := hbx1.on hb12
      have hst2 : Stk w2.drew L1.ps L1.Ac L1.cc L1.n L1.Ar L1.cr L1.m (x.2.turn m).C (x.2.turn m).R := ⟨(hst1.below hb12).box, (hst1.below hb12).oc, (hst1.below hb12).or⟩
      have hbx2d : Blk w2.drew p 62 #[.pointer (some ⟨L1.pp, 0, none⟩), .pointer (some ⟨L1.ps, 0, none⟩)] := hbx2
      have b5d : Blk w2.drew w1.heap.size 83 (Chg.cs ⟨m.k, m.was⟩).toArray := b5
      have hS : ∀ W, Blk W p 62 #[.pointer (some ⟨L1.pp, 0, none⟩), .pointer (some ⟨L1.ps, 0, none⟩)] → Blk W w1.heap.size 83 (Chg.cs ⟨m.k, m.was⟩).toArray → W.cell? ⟨p, 1, none⟩ = some (.pointer (some ⟨L1.ps, 0, none⟩)) ∧ W.cell? ⟨w1.heap.size, 0, none⟩ = some (.int .i64 m.k) ∧ W.rangeAt w1.heap.size 1 m.was.cs := fun W g1 g2 => ⟨g1.cell 1, g2.cell 0, fun i v hv => by
        rw [Nat.add_comm, g2.cell]
        simpa [Chg.cs] using hv⟩
      have hS2 : ∀ W, SetTo w2.drew L1.ps L1.Ac L1.cc L1.n L1.Ar x.2.C x.2.R W → W.cell? ⟨p, 1, none⟩ = some (.pointer (some ⟨L1.ps, 0, none⟩)) ∧ W.cell? ⟨w1.heap.size, 0, none⟩ = some (.int .i64 m.k) ∧ W.rangeAt w1.heap.size 1 m.was.cs := fun W hW => by
        obtain ⟨Ar', cr', m', q1, q2, q3⟩ := hW
        exact hS W (hbx2d.kept q2 (stock_off hst2 hbx2d (by decide) (by decide) (by decide))) (b5d.kept q2 (stock_off hst2 b5d (by decide) (by decide) (by decide)))
      have hf0 := hS _ hbx2d b5d
      go_wp2_with fail
      refine wp_region_noPanic ?_
      refine wp_region_held_drew (S := fun W => W.cell? ⟨p, 1, none⟩ = some (.pointer (some ⟨L1.ps, 0, none⟩)) ∧ W.cell? ⟨w1.heap.size, 0, none⟩ = some (.int .i64 m.k) ∧ W.rangeAt w1.heap.size 1 m.was.cs) (by kernel_rfl) hf0 (fun hHeld => ?_)
      refine wpAnyH_take (i := 0) (oi := ⟨some 31, _, _, _, _, _⟩) (v := ?_) rfl (by kernel_rfl) (by kernel_rfl) (by kernel_rfl) (fun _ _ _ h => h) (Or.inl ⟨by rfl, ?_⟩) (by assumption) ?_
      rotate_left 1
      · (intro W hSw; go_simp <;> with_reducible rfl)
      try simp only [Act.put, List.setIfInBounds_toArray, List.set_cons_zero, List.set_cons_succ]
      refine wpAnyH_take (i := 1) (oi := ⟨some 32, _, _, _, _, _⟩) (v := ?_) rfl (by kernel_rfl) (by kernel_rfl) (by kernel_rfl) (fun _ _ _ h => h) (Or.inl ⟨by rfl, ?_⟩) (by assumption) ?_
      rotate_left 1
      · (intro W hSw; go_simp <;> with_reducible rfl)
      try simp only [Act.put, List.setIfInBounds_toArray, List.set_cons_zero, List.set_cons_succ]
      refine wpAnyH_take (i := 2) (oi := ⟨some 33, _, _, _, _, _⟩) (v := ?_) rfl (by kernel_rfl) (by kernel_rfl) (by kernel_rfl) (fun _ _ _ h => h) (Or.inl ⟨by rfl, ?_⟩) (by assumption) ?_
      rotate_left 1
      · (intro W hSw; go_simp <;> with_reducible rfl)
      try simp only [Act.put, List.setIfInBounds_toArray, List.set_cons_zero, List.set_cons_succ]
      refine wpAnyH_take (i := 3) (oi := ⟨some 34, _, _, _, _, _⟩) (v := ?_) rfl (by kernel_rfl) (by kernel_rfl) (by kernel_rfl) (fun _ _ _ h => h) (Or.inl ⟨by rfl, ?_⟩) (by assumption) ?_
      rotate_left 1
      · (intro W hSw; have hSw0 := hSw.1; clear hSw; go_simp <;> with_reducible rfl)
      try simp only [Act.put, List.setIfInBounds_toArray, List.set_cons_zero, List.set_cons_succ]
      refine wpAnyH_take (i := 4) (oi := ⟨some 35, _, _, _, _, _⟩) (v := ?_) rfl (by kernel_rfl) (by kernel_rfl) (by kernel_rfl) (fun _ _ _ h => h) (Or.inl ⟨by rfl, ?_⟩) (by assumption) ?_
      rotate_left 1
      · (intro W hSw; go_simp <;> with_reducible rfl)
      try simp only [Act.put, List.setIfInBounds_toArray, List.set_cons_zero, List.set_cons_succ]
      refine wpAnyH_take (i := 5) (oi := ⟨some 36, _, _, _, _, _⟩) (v := ?_) rfl (by kernel_rfl) (by kernel_rfl) (by kernel_rfl) (fun _ _ _ h => h) (Or.inl ⟨by rfl, ?_⟩) (by assumption) ?_
      rotate_left 1
      · (intro W hSw; have hSw0 := hSw.2.1; clear hSw; go_simp <;> with_reducible rfl)
      try simp only [Act.put, List.setIfInBounds_toArray, List.set_cons_zero, List.set_cons_succ]
      refine wpAnyH_take (i := 6) (oi := ⟨some 37, _, _, _, _, _⟩) (v := ?_) rfl (by kernel_rfl) (by kernel_rfl) (by kernel_rfl) (fun _ _ _ h => h) (Or.inl ⟨by rfl, ?_⟩) (by assumption) ?_
      rotate_left 1
      · (intro W hSw; go_simp <;> with_reducible rfl)
      try simp only [Act.put, List.setIfInBounds_toArray, List.set_cons_zero, List.set_cons_succ]
      refine wpAnyH_take (i := 7) (oi := ⟨some 38, _, _, _, _, _⟩) (v := .agg m.was.cs.toArray) rfl (by kernel_rfl) (by kernel_rfl) (by kernel_rfl) (fun _ _ _ h => h) (yieldsIf_load_mid (by rfl) 45 (.tmp 37) rfl w1.heap.size 1 rfl m.was.cs _ (fun W hW => hW.2.2) Try.underlying45 rfl (load45 m.was)) (by assumption) ?_
      try simp only [Act.put, List.setIfInBounds_toArray, List.set_cons_zero, List.set_cons_succ]
      refine wpAnyH_ready (rs := [8]) (by kernel_rfl) (by simp) ?_
      refine AllReadyH.cons rfl (fun K hK => ?_) AllReadyH.nil
      go_simp
      refine (HS.out w2.drew hst2).mono ?_
      rintro e w4 ⟨rfl, hT4⟩
      have hKeep := hS2 w4 hT4
      refine hK.out _ _ ?_ (fun hHeld1 => ?_)
      · exact hKeep
      clear hHeld hK K hKeep
      try simp only [Act.put, List.setIfInBounds_toArray, List.set_cons_zero, List.set_cons_succ]
      refine wpAnyH_done (by kernel_rfl) ?_ _
      refine NoPanic.normal ?_
      have A2 : Are w2.drew p { L1 with Ap := Ap', cp := cp', h := h' } (x.2.turn m).C (x.2.turn m).R (His.chgs r) := ⟨hbx2, ⟨(p1.below hb12).box, (p1.below hb12).op⟩, hst2⟩
      have A3 := A2.stock_to hT4
      have kk : Kept (mine p L) w w2.drew := (k1.next p2 (fun g hg => m1 g (.inr (.inl hg)))).next (kept_below (fun _ => False) hb12.drew) (fun g hg => hg.elim)
      have A4 : AreTo w p L x.2.C x.2.R (His.chgs r) w4 := AreTo.next (w' := w2.drew) A2 kk (fun g hg => by
        rcases hg with hg | (hg | hg) | hg
        · exact m1 g (.inl hg)
        · exact m1 g (.inr (.inl (.inl hg)))
        · exact (p3 g hg).elim (fun e => m1 g (.inr (.inl (.inr e)))) (fun e => .inr (Nat.le_trans k1.size e))
        · exact m1 g (.inr (.inr hg))) A3
      have hp4 : pastLen p w4 = r.length := by
        obtain ⟨L4, h4, _⟩ := A4
        rw [pastLen_is h4, chgs_len]
      have hrl : r.length + 1 = H.length - d := by
        have := congrArg List.length ex
        rw [List.length_drop] at this
        simp at this
        omega
      have HQ := Lib.hid (And.intro A4 (And.intro hp4 (And.intro hrl hpl)))
      clear A4 hp4 hrl hpl
      go_wp2
      go_roundw
      case rel => exact ⟨d + 1, by omega, by rw [e5, e6]; exact HQ.out.1⟩
      case measure =>
        have := HQ.out.2
        omega
    · have e1 : H.length - d = q := by omega
      rw [e1] at hc
      obtain rfl : d = N - q := by omega
      clear hlp hpl eN e1 hlt
      go_wp2_with fail
      refine hc.mono ?_
      rintro e w' ⟨rfl, rfl⟩
      go_wp2
      go_ret
      exact ⟨rfl, L1, h1, k1, m1⟩
end
end Go.Proofs.Ytdilmapcjmdabaa
