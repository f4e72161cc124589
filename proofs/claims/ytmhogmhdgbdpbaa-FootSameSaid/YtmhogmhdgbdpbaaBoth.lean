/- All places of two feet, by the statement's own copy; a foot cut to twelve places a list. Conditions: at most 400 places a list. -/
import Derived.Test.YtmhogmhdgbdpbaaHas
namespace Go.Proofs.Ytmhogmhdgbdpbaa
open Go.ChangeShapes Go.WideShapes Go.RowKit

theorem Sees.first {α : Type} {f : α → List Value} {k : Nat} (hf : ∀ x, (f x).length = k) {w : World} {A : Option Addr} {n cap : Nat} {l : List α} (h : Sees w k A n cap (l.flatMap f)) (m : Nat) (hm : m ≤ n) (hk : 0 < k) : Sees w k A m cap ((l.take m).flatMap f) := by
  have hl : l.length = n := by
    have := h.len
    rw [flat_len hf] at this
    exact Nat.eq_of_mul_eq_mul_right hk this
  refine ⟨by rw [flat_len hf, List.length_take]; congr 1; omega, Nat.le_trans hm h.room, h.most, h.none_, fun ad ha h0 => ?_⟩
  obtain ⟨g, o, e, hg, hr⟩ := h.cell ad ha (by omega)
  refine ⟨g, o, e, hg, fun j v hv => hr j v ?_⟩
  have hj := (List.getElem?_eq_some_iff.1 hv).1
  have e2 : l.flatMap f = (l.take m).flatMap f ++ (l.drop m).flatMap f := by rw [← List.flatMap_append, List.take_append_drop]
  rw [e2, List.getElem?_append_left hj, hv]
theorem len_i64 {n cap : Nat} (h : n ≤ cap) (hm : cap ≤ maxLen) : IntKind.i64.wrap (n : Int) = (n : Int) := by
  simp only [maxLen] at hm
  rw [IntKind.wrap_i64]
  omega
/-- At most twelve places. -/
def Sl.few (s : Sl) : Sl := if 12 < s.n then ⟨s.A, 12, s.cap⟩ else s
def Ft.few (f : Ft) : Ft := ⟨f.r.few, f.w.few⟩
theorem few_n (s : Sl) : s.few.n ≤ 12 := by
  unfold Sl.few
  split
  · exact Nat.le_refl _
  · omega
theorem SeesP.few {w : World} {s : Sl} {l : List Pl} (h : SeesP w s l) : SeesP w s.few (l.take 12) := by
  have hl := h.len
  unfold Sl.few
  split
  · exact Sees.first Pl.len h 12 (by omega) (by omega)
  · rw [List.take_of_length_le (by omega)]
    exact h
theorem Foot.few {w : World} {f : Ft} {R W : List Pl} (h : Foot w f R W) : Foot w f.few (R.take 12) (W.take 12) := ⟨h.r.few, h.w.few⟩
set_option maxRecDepth 100000 in
set_option maxHeartbeats 2000000 in
theorem few_11 (rA wA : Option Addr) (rn rc wn wc : Nat) (hr : rn ≤ rc) (hw : wn ≤ wc) (mr : rc ≤ maxLen) (mw : wc ≤ maxLen) (nr : rA = none → rc = 0) (nw : wA = none → wc = 0) (h1 : 12 < rn) (h2 : 12 < wn) (w : World) :
    Calls Try.prog 8 #[.agg #[.slice rA rn rc, .slice wA wn wc]] w fun e w' => e = .returned (.agg #[.slice rA 12 rc, .slice wA 12 wc]) ∧ Below w.heap.size w w' := by
  have i1 := len_i64 hr mr
  have i2 := len_i64 hw mw
  have c1 := upto22 rA rn rc 12 (by omega) nr
  have c2 := upto22 wA wn wc 12 (by omega) nw
  have t1 : decide ((12 : Int) < (rn : Int)) = true := decide_eq_true (by omega)
  have t2 : decide ((12 : Int) < (wn : Int)) = true := decide_eq_true (by omega)
  clear nr
  clear nw
  go_enter Try.func8, Try.ntmps8
  go_wp2
  refine bodyPost_ret (results_cell_row (cs := #[.slice rA 12 rc, .slice wA 12 wc]) rfl _ _ (w.heap.size + 1) 24 (0, 0) _ rfl (blk_new _ _ 24 _ (by simp)) Try.underlying24 rfl size24) rfl ?_
  exact ⟨rfl, ((Below.refl _ w).alloc (Nat.le_refl _) _).alloc (by simp) _⟩
set_option maxRecDepth 100000 in
set_option maxHeartbeats 2000000 in
theorem few_10 (rA wA : Option Addr) (rn rc wn wc : Nat) (hr : rn ≤ rc) (hw : wn ≤ wc) (mr : rc ≤ maxLen) (mw : wc ≤ maxLen) (nr : rA = none → rc = 0) (h1 : 12 < rn) (h2 : wn ≤ 12) (w : World) :
    Calls Try.prog 8 #[.agg #[.slice rA rn rc, .slice wA wn wc]] w fun e w' => e = .returned (.agg #[.slice rA 12 rc, .slice wA wn wc]) ∧ Below w.heap.size w w' := by
  have i1 := len_i64 hr mr
  have i2 := len_i64 hw mw
  have c1 := upto22 rA rn rc 12 (by omega) nr
  have t1 : decide ((12 : Int) < (rn : Int)) = true := decide_eq_true (by omega)
  have t2 : decide ((12 : Int) < (wn : Int)) = false := decide_eq_false (by omega)
  clear nr
  go_enter Try.func8, Try.ntmps8
  go_wp2
  refine bodyPost_ret (results_cell_row (cs := #[.slice rA 12 rc, .slice wA wn wc]) rfl _ _ (w.heap.size + 1) 24 (0, 0) _ rfl (blk_new _ _ 24 _ (by simp)) Try.underlying24 rfl size24) rfl ?_
  exact ⟨rfl, ((Below.refl _ w).alloc (Nat.le_refl _) _).alloc (by simp) _⟩
set_option maxRecDepth 100000 in
set_option maxHeartbeats 2000000 in
theorem few_01 (rA wA : Option Addr) (rn rc wn wc : Nat) (hr : rn ≤ rc) (hw : wn ≤ wc) (mr : rc ≤ maxLen) (mw : wc ≤ maxLen) (nw : wA = none → wc = 0) (h1 : rn ≤ 12) (h2 : 12 < wn) (w : World) :
    Calls Try.prog 8 #[.agg #[.slice rA rn rc, .slice wA wn wc]] w fun e w' => e = .returned (.agg #[.slice rA rn rc, .slice wA 12 wc]) ∧ Below w.heap.size w w' := by
  have i1 := len_i64 hr mr
  have i2 := len_i64 hw mw
  have c2 := upto22 wA wn wc 12 (by omega) nw
  have t1 : decide ((12 : Int) < (rn : Int)) = false := decide_eq_false (by omega)
  have t2 : decide ((12 : Int) < (wn : Int)) = true := decide_eq_true (by omega)
  clear nw
  go_enter Try.func8, Try.ntmps8
  go_wp2
  refine bodyPost_ret (results_cell_row (cs := #[.slice rA rn rc, .slice wA 12 wc]) rfl _ _ (w.heap.size + 1) 24 (0, 0) _ rfl (blk_new _ _ 24 _ (by simp)) Try.underlying24 rfl size24) rfl ?_
  exact ⟨rfl, ((Below.refl _ w).alloc (Nat.le_refl _) _).alloc (by simp) _⟩
set_option maxRecDepth 100000 in
set_option maxHeartbeats 2000000 in
theorem few_00 (rA wA : Option Addr) (rn rc wn wc : Nat) (hr : rn ≤ rc) (hw : wn ≤ wc) (mr : rc ≤ maxLen) (mw : wc ≤ maxLen) (h1 : rn ≤ 12) (h2 : wn ≤ 12) (w : World) :
    Calls Try.prog 8 #[.agg #[.slice rA rn rc, .slice wA wn wc]] w fun e w' => e = .returned (.agg #[.slice rA rn rc, .slice wA wn wc]) ∧ Below w.heap.size w w' := by
  have i1 := len_i64 hr mr
  have i2 := len_i64 hw mw
  have t1 : decide ((12 : Int) < (rn : Int)) = false := decide_eq_false (by omega)
  have t2 : decide ((12 : Int) < (wn : Int)) = false := decide_eq_false (by omega)
  go_enter Try.func8, Try.ntmps8
  go_wp2
  refine bodyPost_ret (results_cell_row (cs := #[.slice rA rn rc, .slice wA wn wc]) rfl _ _ (w.heap.size + 1) 24 (0, 0) _ rfl (blk_new _ _ 24 _ (by simp)) Try.underlying24 rfl size24) rfl ?_
  exact ⟨rfl, ((Below.refl _ w).alloc (Nat.le_refl _) _).alloc (by simp) _⟩
theorem few_any {w : World} {f : Ft} {R W : List Pl} (h : Foot w f R W) : Calls Try.prog 8 #[.agg f.cs.toArray] w fun e w' => e = .returned (.agg f.few.cs.toArray) ∧ Below w.heap.size w w' := by
  obtain ⟨⟨rA, rn, rc⟩, ⟨wA, wn, wc⟩⟩ := f
  obtain ⟨hr, hw⟩ := h
  have a1 := Sees.room hr
  have a2 := Sees.most hr
  have a3 := Sees.none_ hr
  have b1 := Sees.room hw
  have b2 := Sees.most hw
  have b3 := Sees.none_ hw
  simp only at a1 a2 a3 b1 b2 b3
  show Calls Try.prog 8 #[.agg #[.slice rA rn rc, .slice wA wn wc]] w _
  by_cases h1 : 12 < rn
  · by_cases h2 : 12 < wn
    · have e : (Ft.few ⟨⟨rA, rn, rc⟩, ⟨wA, wn, wc⟩⟩) = ⟨⟨rA, 12, rc⟩, ⟨wA, 12, wc⟩⟩ := by unfold Ft.few Sl.few; rw [if_pos h1, if_pos h2]
      rw [e]
      exact few_11 rA wA rn rc wn wc a1 b1 a2 b2 a3 b3 h1 h2 w
    · have e : (Ft.few ⟨⟨rA, rn, rc⟩, ⟨wA, wn, wc⟩⟩) = ⟨⟨rA, 12, rc⟩, ⟨wA, wn, wc⟩⟩ := by unfold Ft.few Sl.few; rw [if_pos h1, if_neg h2]
      rw [e]
      exact few_10 rA wA rn rc wn wc a1 b1 a2 b2 a3 h1 (by omega) w
  · by_cases h2 : 12 < wn
    · have e : (Ft.few ⟨⟨rA, rn, rc⟩, ⟨wA, wn, wc⟩⟩) = ⟨⟨rA, rn, rc⟩, ⟨wA, 12, wc⟩⟩ := by unfold Ft.few Sl.few; rw [if_neg h1, if_pos h2]
      rw [e]
      exact few_01 rA wA rn rc wn wc a1 b1 a2 b2 b3 (by omega) h2 w
    · have e : (Ft.few ⟨⟨rA, rn, rc⟩, ⟨wA, wn, wc⟩⟩) = ⟨⟨rA, rn, rc⟩, ⟨wA, wn, wc⟩⟩ := by unfold Ft.few Sl.few; rw [if_neg h1, if_neg h2]
      rw [e]
      exact few_00 rA wA rn rc wn wc a1 b1 a2 b2 (by omega) (by omega) w
/-- A foot that is made: its block, and two lists of the call's own. -/
structure Two (W0 : World) (zc : Nat) (E : World) (r w : Sl) (R W : List Pl) : Prop where
  kept : Kept (fun k => k = zc) W0 E
  blk : Blk E zc 24 #[r.v, w.v]
  or : E.ownsRow W0.heap.size 32 3 r.v r.n (flatP R)
  ow : E.ownsRow W0.heap.size 32 3 w.v w.n (flatP W)
  ne : ∀ g, lies r.A g → ¬ lies w.A g
  lt : zc < W0.heap.size
section
variable {W0 E w3 : World} {zc n3 c3 : Nat} {r w : Sl} {R W S : List Pl} {A3 : Option Addr}
theorem lies_lt {v : World} {B n cap : Nat} {A : Option Addr} {vs : List Value} (h : v.ownsRow B 32 3 (.slice A n cap) n vs) {g : Nat} (hg : lies A g) : g < v.heap.size := (h.lt g ((own_lies A n cap g).2 hg)).2
theorem Two.left (h : Two W0 zc E r w R W) (ho : w3.ownsRow W0.heap.size 32 3 (.slice A3 n3 c3) n3 (flatP R ++ flatP S)) (hg : E.grownBy w3 r.v.ownBlock) (hl : ∀ g, lies A3 g → lies r.A g ∨ E.heap.size ≤ g) :
    Blk w3 zc 24 #[r.v, w.v] ∧ Two W0 zc (w3.setCell ⟨zc, 0, none⟩ (.slice A3 n3 c3)) ⟨A3, n3, c3⟩ w (R ++ S) W := by
  have hB : ∀ g, r.v.ownBlock = some g → W0.heap.size ≤ g := fun g e => own_new (A := r.A) (n := r.n) (cap := r.cap) h.or g ((own_lies r.A r.n r.cap g).1 e)
  have kg := kept_grown hg
  have b3 : Blk w3 zc 24 #[r.v, w.v] := h.blk.kept kg (fun e => by have := hB zc e; have := h.lt; omega)
  have k3 : Kept (fun k => k = zc) W0 w3 := h.kept.next kg (fun g e => .inr (hB g e))
  have kc := kept_cell w3 ⟨zc, 0, none⟩ (.slice A3 n3 c3)
  have kgc := kc.grown (some zc) (fun k e => congrArg some e)
  have ow3 : w3.ownsRow W0.heap.size 32 3 w.v w.n (flatP W) := h.ow.kept hg (by
    cases hw : w.v.ownBlock with
    | none => exact .inl rfl
    | some g => exact .inr (fun e => h.ne g ((own_lies r.A r.n r.cap g).1 e.symm) ((own_lies w.A w.n w.cap g).1 hw)))
  have far : ∀ (s : Sl) (vs : List Value), w3.ownsRow W0.heap.size 32 3 s.v s.n vs → s.v.ownBlock = none ∨ s.v.ownBlock ≠ some zc := fun s vs hs => .inr (fun e => by
    have := own_new (A := s.A) (n := s.n) (cap := s.cap) hs zc ((own_lies s.A s.n s.cap zc).1 e)
    have := h.lt
    omega)
  refine ⟨b3, k3.next kc (fun g e => .inl e), blk_set b3 0 _, ?_, ow3.kept kgc (far w _ ow3), fun g h1 h2 => ?_, h.lt⟩
  · rw [flatP_app]
    exact ho.kept kgc (far ⟨A3, n3, c3⟩ _ ho)
  · rcases hl g h1 with e | e
    · exact h.ne g e h2
    · have := lies_lt (A := w.A) (n := w.n) (cap := w.cap) h.ow h2
      omega
theorem Two.right (h : Two W0 zc E r w R W) (ho : w3.ownsRow W0.heap.size 32 3 (.slice A3 n3 c3) n3 (flatP W ++ flatP S)) (hg : E.grownBy w3 w.v.ownBlock) (hl : ∀ g, lies A3 g → lies w.A g ∨ E.heap.size ≤ g) :
    Blk w3 zc 24 #[r.v, w.v] ∧ Two W0 zc (w3.setCell ⟨zc, 1, none⟩ (.slice A3 n3 c3)) r ⟨A3, n3, c3⟩ R (W ++ S) := by
  have hB : ∀ g, w.v.ownBlock = some g → W0.heap.size ≤ g := fun g e => own_new (A := w.A) (n := w.n) (cap := w.cap) h.ow g ((own_lies w.A w.n w.cap g).1 e)
  have kg := kept_grown hg
  have b3 : Blk w3 zc 24 #[r.v, w.v] := h.blk.kept kg (fun e => by have := hB zc e; have := h.lt; omega)
  have k3 : Kept (fun k => k = zc) W0 w3 := h.kept.next kg (fun g e => .inr (hB g e))
  have kc := kept_cell w3 ⟨zc, 1, none⟩ (.slice A3 n3 c3)
  have kgc := kc.grown (some zc) (fun k e => congrArg some e)
  have or3 : w3.ownsRow W0.heap.size 32 3 r.v r.n (flatP R) := h.or.kept hg (by
    cases hw : r.v.ownBlock with
    | none => exact .inl rfl
    | some g => exact .inr (fun e => h.ne g ((own_lies r.A r.n r.cap g).1 hw) ((own_lies w.A w.n w.cap g).1 e.symm)))
  have far : ∀ (s : Sl) (vs : List Value), w3.ownsRow W0.heap.size 32 3 s.v s.n vs → s.v.ownBlock = none ∨ s.v.ownBlock ≠ some zc := fun s vs hs => .inr (fun e => by
    have := own_new (A := s.A) (n := s.n) (cap := s.cap) hs zc ((own_lies s.A s.n s.cap zc).1 e)
    have := h.lt
    omega)
  refine ⟨b3, k3.next kc (fun g e => .inl e), blk_set b3 1 _, or3.kept kgc (far r _ or3), ?_, fun g h1 h2 => ?_, h.lt⟩
  · rw [flatP_app]
    exact ho.kept kgc (far ⟨A3, n3, c3⟩ _ ho)
  · rcases hl g h2 with e | e
    · exact h.ne g h1 e
    · have := lies_lt (A := r.A) (n := r.n) (cap := r.cap) h.or h1
      omega
end
set_option maxRecDepth 100000 in
set_option maxHeartbeats 4000000 in
theorem both_any {w : World} {f f' : Ft} {R X Q Y : List Pl} (h : Foot w f R X) (h' : Foot w f' Q Y) (h1 : f.r.n ≤ 400) (h2 : f.w.n ≤ 400) (h3 : f'.r.n ≤ 400) (h4 : f'.w.n ≤ 400) :
    Calls Try.prog 9 #[.agg f.cs.toArray, .agg f'.cs.toArray] w fun e w' => ∃ j : Ft, e = .returned (.agg j.cs.toArray) ∧ Foot w' j (R ++ Q) (X ++ Y) ∧ Below w.heap.size w w' := by
  obtain ⟨⟨rA, rn, rc⟩, ⟨xA, xn, xc⟩⟩ := f
  obtain ⟨⟨rB, rm, rd⟩, ⟨xB, xm, xd⟩⟩ := f'
  obtain ⟨hr, hx⟩ := h
  obtain ⟨hr', hx'⟩ := h'
  simp only at hr hx hr' hx' h1 h2 h3 h4
  obtain ⟨i0, hi, hz0, hz1, hz2⟩ : ∃ (i : TypeInfo), Try.prog.info? 32 = some i ∧ i.zero = some (.agg noP.cs.toArray) ∧ i.size = 3 ∧ i.bytes = 24 := by
    have h := info32
    cases e : Try.prog.info? 32 with
    | none => rw [e] at h; simp at h
    | some i =>
      rw [e] at h
      simp only [Option.map_some, Option.some.injEq, Prod.mk.injEq] at h
      exact ⟨i, rfl, h.1, h.2.1, h.2.2⟩
  show Calls Try.prog 9 #[.agg #[.slice rA rn rc, .slice xA xn xc], .agg #[.slice rB rm rd, .slice xB xm xd]] w _
  obtain ⟨z, ez⟩ : ∃ z, z = w.heap.size := ⟨_, rfl⟩
  obtain ⟨zq, ezq⟩ : ∃ zr, zr = z + 1 + 1 := ⟨_, rfl⟩
  obtain ⟨zc, ezc⟩ : ∃ zr, zr = zq + 1 := ⟨_, rfl⟩
  obtain ⟨W0, eW0⟩ : ∃ W0, W0 = (((w.alloc (.cells #[.slice rA rn rc, .slice xA xn xc] 24)).alloc (.cells #[.slice rB rm rd, .slice xB xm xd] 24)).alloc (.cells #[.slice none 0 0, .slice none 0 0] 24)).alloc (.cells #[.slice none 0 0, .slice none 0 0] 24) := ⟨_, rfl⟩
  have hb0 : Below w.heap.size w W0 := by rw [eW0]; exact ((((Below.refl _ w).alloc (Nat.le_refl _) _).alloc (by simp) _).alloc (by simp; omega) _).alloc (by simp; omega) _
  have hxz : Blk W0 z 24 #[.slice rA rn rc, .slice xA xn xc] := by
    rw [eW0, ez]
    exact Blk.on (Blk.on (Blk.on (heap_alloc_new w _) ((Below.refl _ _).alloc (Nat.le_refl _) _)) ((Below.refl _ _).alloc (Nat.le_refl _) _)) ((Below.refl _ _).alloc (Nat.le_refl _) _)
  have hyz : Blk W0 (z + 1) 24 #[.slice rB rm rd, .slice xB xm xd] := by
    rw [eW0, ez]
    exact Blk.on (Blk.on (blk_new _ _ 24 _ (by simp)) ((Below.refl _ _).alloc (Nat.le_refl _) _)) ((Below.refl _ _).alloc (Nat.le_refl _) _)
  have hqz : Blk W0 zq 24 #[.slice none 0 0, .slice none 0 0] := by
    rw [eW0, ezq, ez]
    exact Blk.on (blk_new _ _ 24 _ (by simp)) ((Below.refl _ _).alloc (Nat.le_refl _) _)
  have hzz : Blk W0 zc 24 #[.slice none 0 0, .slice none 0 0] := by rw [eW0, ezc, ezq, ez]; exact blk_new _ _ 24 _ (by simp)
  have tS : ∀ W, Kept (fun k => k = zc) W0 W → W.cell? ⟨z, 0, none⟩ = some (.slice rA rn rc) ∧ W.cell? ⟨z, 1, none⟩ = some (.slice xA xn xc) ∧ W.cell? ⟨z + 1, 0, none⟩ = some (.slice rB rm rd) ∧ W.cell? ⟨z + 1, 1, none⟩ = some (.slice xB xm xd) :=
    fun W hW => ⟨(hxz.kept hW (by omega)).cell 0, (hxz.kept hW (by omega)).cell 1, (hyz.kept hW (by omega)).cell 0, (hyz.kept hW (by omega)).cell 1⟩
  have vS : ∀ W, Kept (fun k => k = zc) W0 W → Sees W 3 rA rn rc (flatP R) ∧ Sees W 3 rB rm rd (flatP Q) ∧ Sees W 3 xA xn xc (flatP X) ∧ Sees W 3 xB xm xd (flatP Y) := fun W hW => by
    have far : ∀ {A : Option Addr} {n cap : Nat} {l : List Pl}, SeesP w ⟨A, n, cap⟩ l → Sees W 3 A n cap (flatP l) := fun hs => Sees.kept (hs.on hb0) hW (fun g hg e => by
      have := Sees.lt hs g hg
      have e : g = zc := e
      omega)
    exact ⟨far hr, far hr', far hx, far hx'⟩
  have rS : ∀ W, Kept (fun k => k = zc) W0 W → Blk W zq 24 #[.slice none 0 0, .slice none 0 0] := fun W hW => hqz.kept hW (by omega)
  have T0 : Two W0 zc W0 ⟨none, 0, 0⟩ ⟨none, 0, 0⟩ [] [] := ⟨Kept.refl _ _, hzz, World.ownsRow_nil _ _ _ _, World.ownsRow_nil _ _ _ _, fun g e => (by cases e), hzz.lt⟩
  have v0 := (vS _ T0.kept).1
  obtain ⟨p0, p1, p2, p3⟩ := tS _ T0.kept
  have q0 : W0.cell? ⟨zc, 0, none⟩ = some (.slice none 0 0) := hzz.cell 0
  have q1 : W0.cell? ⟨zc, 1, none⟩ = some (.slice none 0 0) := hzz.cell 1
  have HX := Lib.hid (And.intro ez (And.intro ezc (And.intro hb0 ezq)))
  clear hr hx hr' hx' hb0 hxz hyz hzz hqz
  go_enter Try.func9, Try.ntmps9
  go_wp2_with (first
    | (at_builtin; rw [← eW0]; rw [← ez]; rw [← ezq]; rw [← ezc]; clear eW0 ez ezq ezc; refine wpList_app rfl _ _ 22 rfl W0.heap.size 32 i0 (.agg noP.cs.toArray) 3 24 Try.underlying22 hi hz0 hz1 hz2 rfl (by decide) none (0) (0) (flatP ([])) rfl T0.or rA rn rc (flatP R) rfl (v0) (flat_one Pl.one _) (by unfold maxLen; omega) (by omega) T0.kept.size ?_; intro A0 c0 w0 ho0 hg0 hl0; obtain ⟨m0, em0⟩ : ∃ m, m = 0 + rn := ⟨_, rfl⟩; rw [← em0] at ho0 ⊢; have le0 : m0 ≤ 400 := (by omega); clear em0; obtain ⟨bb0, T1⟩ := T0.left ho0 hg0 hl0; have d0 := bb0.cell 0; have e0 := bb0.free 0; obtain ⟨a00, a01, a02, a03⟩ := tS _ T1.kept; have b00 : (w0.setCell ⟨zc, 0, none⟩ (.slice A0 m0 c0)).cell? ⟨zc, 0, none⟩ = some (.slice A0 m0 c0) := T1.blk.cell 0; have b01 : (w0.setCell ⟨zc, 0, none⟩ (.slice A0 m0 c0)).cell? ⟨zc, 1, none⟩ = some (.slice none 0 0) := T1.blk.cell 1; have v1 := vS _ T1.kept; have v1 := v1.2.1; clear bb0 hg0 hl0 ho0)
    | (at_builtin; refine wpList_app rfl _ _ 22 rfl W0.heap.size 32 i0 (.agg noP.cs.toArray) 3 24 Try.underlying22 hi hz0 hz1 hz2 rfl (by decide) A0 (m0) (c0) (flatP (R)) rfl T1.or rB rm rd (flatP Q) rfl (v1) (flat_one Pl.one _) (by unfold maxLen; omega) (by omega) T1.kept.size ?_; intro A1 c1 w1 ho1 hg1 hl1; obtain ⟨m1, em1⟩ : ∃ m, m = m0 + rm := ⟨_, rfl⟩; rw [← em1] at ho1 ⊢; have le1 : m1 ≤ 800 := (by omega); clear em1; obtain ⟨bb1, T2⟩ := T1.left ho1 hg1 hl1; have d1 := bb1.cell 0; have e1 := bb1.free 0; obtain ⟨a10, a11, a12, a13⟩ := tS _ T2.kept; have b10 : (w1.setCell ⟨zc, 0, none⟩ (.slice A1 m1 c1)).cell? ⟨zc, 0, none⟩ = some (.slice A1 m1 c1) := T2.blk.cell 0; have b11 : (w1.setCell ⟨zc, 0, none⟩ (.slice A1 m1 c1)).cell? ⟨zc, 1, none⟩ = some (.slice none 0 0) := T2.blk.cell 1; have v2 := vS _ T2.kept; have v2 := v2.2.2.1; clear bb1 hg1 hl1 ho1)
    | (at_builtin; refine wpList_app rfl _ _ 22 rfl W0.heap.size 32 i0 (.agg noP.cs.toArray) 3 24 Try.underlying22 hi hz0 hz1 hz2 rfl (by decide) none (0) (0) (flatP ([])) rfl T2.ow xA xn xc (flatP X) rfl (v2) (flat_one Pl.one _) (by unfold maxLen; omega) (by omega) T2.kept.size ?_; intro A2 c2 w2 ho2 hg2 hl2; obtain ⟨m2, em2⟩ : ∃ m, m = 0 + xn := ⟨_, rfl⟩; rw [← em2] at ho2 ⊢; have le2 : m2 ≤ 400 := (by omega); clear em2; obtain ⟨bb2, T3⟩ := T2.right ho2 hg2 hl2; have d2 := bb2.cell 1; have e2 := bb2.free 1; obtain ⟨a20, a21, a22, a23⟩ := tS _ T3.kept; have b20 : (w2.setCell ⟨zc, 1, none⟩ (.slice A2 m2 c2)).cell? ⟨zc, 0, none⟩ = some (.slice A1 m1 c1) := T3.blk.cell 0; have b21 : (w2.setCell ⟨zc, 1, none⟩ (.slice A2 m2 c2)).cell? ⟨zc, 1, none⟩ = some (.slice A2 m2 c2) := T3.blk.cell 1; have v3 := vS _ T3.kept; have v3 := v3.2.2.2; clear bb2 hg2 hl2 ho2)
    | (at_builtin; refine wpList_app rfl _ _ 22 rfl W0.heap.size 32 i0 (.agg noP.cs.toArray) 3 24 Try.underlying22 hi hz0 hz1 hz2 rfl (by decide) A2 (m2) (c2) (flatP (X)) rfl T3.ow xB xm xd (flatP Y) rfl (v3) (flat_one Pl.one _) (by unfold maxLen; omega) (by omega) T3.kept.size ?_; intro A3 c3 w3 ho3 hg3 hl3; obtain ⟨m3, em3⟩ : ∃ m, m = m2 + xm := ⟨_, rfl⟩; rw [← em3] at ho3 ⊢; have le3 : m3 ≤ 800 := (by omega); clear em3; obtain ⟨bb3, T4⟩ := T3.right ho3 hg3 hl3; have d3 := bb3.cell 1; have e3 := bb3.free 1; obtain ⟨a30, a31, a32, a33⟩ := tS _ T4.kept; have b30 : (w3.setCell ⟨zc, 1, none⟩ (.slice A3 m3 c3)).cell? ⟨zc, 0, none⟩ = some (.slice A1 m1 c1) := T4.blk.cell 0; have b31 : (w3.setCell ⟨zc, 1, none⟩ (.slice A3 m3 c3)).cell? ⟨zc, 1, none⟩ = some (.slice A3 m3 c3) := T4.blk.cell 1; clear bb3 hg3 hl3 ho3)
    | (refine wpList_store_row rfl 24 (.tmp 4) (.tmp 30) rfl zq #[.slice A1 m1 c1, .slice A3 m3 c3] rfl rfl 24 _ (rS _ T4.kept) size24 rfl (by simp [Value.oneCell']) ?_))
  obtain ⟨ez, ezc, hb0, ezq⟩ := HX.out
  have hq4 := rS _ T4.kept
  have hlt := T4.lt
  have hb4 := hb0.trans (T4.kept.under _ hb0.size (fun k e => by have e : k = zc := e; omega))
  refine bodyPost_ret (results_cell_row (cs := #[.slice A1 m1 c1, .slice A3 m3 c3]) rfl _ _ zq 24 (0, 0) _ rfl (setRow_heap _ _ _ _ _ _ hq4) Try.underlying24 rfl size24) rfl ?_
  exact ⟨⟨⟨A1, m1, c1⟩, ⟨A3, m3, c3⟩⟩, rfl, foot_row (f := ⟨⟨A1, m1, c1⟩, ⟨A3, m3, c3⟩⟩) ⟨own_seesP (l := R ++ Q) T4.or, own_seesP (l := X ++ Y) T4.ow⟩ _
    (fun g hg => by have := own_new (A := A1) (n := m1) (cap := c1) T4.or g hg.2; omega) (fun g hg => by have := own_new (A := A3) (n := m3) (cap := c3) T4.ow g hg.2; omega), below_row hb4 (by omega) _⟩
end Go.Proofs.Ytmhogmhdgbdpbaa
