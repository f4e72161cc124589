/- What conf's Get answers of any octets. Conditions: conf's spans lie as they are laid; at most 2000 octets. -/
import Derived.Test.YtmkdmnaonddghaaDoorWrong
import Derived.Deep.RegionHeld3
namespace Go.Proofs.YtmkdmnaonddghaaDoor
open Go.RowKit

theorem info23 : (Tryd.prog.info? 23).map (·.size) = some 5 := by kernel_rfl
theorem info25 : (Tryd.prog.info? 25).map (·.size) = some 3 := by kernel_rfl
theorem info58 : (Tryd.prog.info? 58).map (·.size) = some 3 := by kernel_rfl
theorem info59 : (Tryd.prog.info? 59).map (·.size) = some 21 := by kernel_rfl
theorem one5 : (#[.int .i64 0, .int .i64 0, .int .i64 0, .int .i64 0, .int .i64 0] : Array Value).all (·.oneCell') = true := by simp [Value.oneCell']
theorem one3 : (#[.int .i64 0, .int .i64 0, .bool false] : Array Value).all (·.oneCell') = true := by simp [Value.oneCell']
theorem res15 (tmps : Array Value) (w : World) (g h : Nat) (cs ds : Array Value) (u v : Value) (h2 : tmps[2]?.getD undef = .pointer (some ⟨g, 0, none⟩)) (h3 : tmps[3]?.getD undef = .pointer (some ⟨h, 0, none⟩)) (h4 : tmps[4]?.getD undef = u) (h5 : tmps[5]?.getD undef = v)
    (hg : Blk w g 23 cs) (hh : Blk w h 25 ds) (hc : cs.size = 5) (hd : ds.size = 3) :
    (results Tryd.f15 tmps).run Tryd.prog w = .ok (.tuple #[.agg cs, .agg ds, u, v]) w := by
  have hr : Tryd.f15.results = #[.cell 2 23, .cell 3 25, .tmp 4, .tmp 5] := by kernel_rfl
  have l1 := run_loadVar_row w g 23 23 cs (0, 0) _ hg Tryd.underlying23 rfl (by rw [info23, hc])
  have l2 := run_loadVar_row w h 25 25 ds (0, 0) _ hh Tryd.underlying25 rfl (by rw [info25, hd])
  simp only [results, hr]
  simp [Sem.run_bind, Result.andThen, h2, h3, h4, h5, asAddr, l1, l2]
theorem cut_front (A : Option Addr) (n cap k : Nat) (hc : k ≤ cap) (w : World) :
    (Instr.slice 29 (.slice A n cap) none (some (.int .i64 (k : Int))) none).run Tryd.prog w = .ok (.slice A k cap) w := by
  rw [run_slice_h w 29 A n cap under22 .i64 _ (by omega) (by omega), size22]
  simp only [Result.andThen, sliced, Int.toNat_natCast, Nat.sub_zero, Nat.zero_mul]
  rcases A with _ | ad
  · split <;> rfl
  · split <;> simp [Addr.add]
theorem spans_idx (k : Nat) (hk : k < 7) (W : World) : (Instr.index 59 (.agg spanC.toArray) (.int .i64 (k : Int))).run Tryd.prog W = .ok (.agg #[.int .i64 (leastAt k), .int .i64 (mostAt k), .int .i64 (octsAt k)]) W := by
  rcases (by omega : k = 0 ∨ k = 1 ∨ k = 2 ∨ k = 3 ∨ k = 4 ∨ k = 5 ∨ k = 6) with rfl | rfl | rfl | rfl | rfl | rfl | rfl <;> kernel_rfl
theorem Laid.row {w : World} (h : Laid w) : ∃ t fr, w.heap[0]? = some (.cells spanC.toArray t fr) := by
  have hs := h.spans
  unfold World.var? at hs
  rw [glob0] at hs
  simp only [Option.bind_some] at hs
  cases hh : w.heap[0]? with
  | none => rw [hh] at hs; cases hs
  | some o =>
    rw [hh] at hs
    cases o with
    | cells cs t fr =>
      simp only [Option.some.injEq] at hs
      subst hs
      exact ⟨t, fr, rfl⟩
    | _ => cases hs
/-- The first k numbers. -/
def selN (xs : List Int) (k j : Nat) : Int := if j < k then (if j = 6 then vAt xs 6 3 else xs.getD j 0) else 0
def rowN (xs : List Int) (k : Nat) : List Int := [selN xs k 0, selN xs k 1, selN xs k 2, selN xs k 3, selN xs k 4, selN xs k 5, selN xs k 6]
theorem rowN_set (xs : List Int) (k : Nat) (hk : k < 7) : (ints (rowN xs k)).toArray.setIfInBounds k (.int .i64 (selN xs (k + 1) k)) = (ints (rowN xs (k + 1))).toArray := by
  rcases (by omega : k = 0 ∨ k = 1 ∨ k = 2 ∨ k = 3 ∨ k = 4 ∨ k = 5 ∨ k = 6) with rfl | rfl | rfl | rfl | rfl | rfl | rfl <;> simp [ints, rowN, selN]

/-- Within Get: the results in C and C + 1, the reader in g at octet a, the numbers in R. -/
structure Gs (w : World) (g R : Nat) (ys : List Int) (k a : Nat) (good : Bool) (wr : World) : Prop where
  rd : Rd wr g ys a good
  row : Blk wr R 55 (ints (rowN ys k)).toArray
  cfg : Blk wr w.heap.size 23 #[.int .i64 0, .int .i64 0, .int .i64 0, .int .i64 0, .int .i64 0]
  ask : Blk wr (w.heap.size + 1) 25 #[.int .i64 0, .int .i64 0, .bool false]
  bel : Below w.heap.size w wr
  cg : w.heap.size + 1 < g
  gR : g < R
theorem Gs.took {w wr w' : World} {g R : Nat} {ys : List Int} {k a a' : Nat} {good good' : Bool} (h : Gs w g R ys k a good wr) (hr : Rd w' g ys a' good') (hg : wr.grownBy w' (some g)) : Gs w g R ys k a' good' w' := by
  have h1 := h.cg
  have h2 := h.gR
  exact ⟨hr, (hg.block _ h.row.lt (by simp; omega)).trans h.row, (hg.block _ h.cfg.lt (by simp; omega)).trans h.cfg, (hg.block _ h.ask.lt (by simp; omega)).trans h.ask, h.bel.grown hg h.bel.size (fun j hj => by injection hj with hj; omega), h1, h2⟩
theorem Gs.more {w wr w' : World} {g R : Nat} {ys : List Int} {k a : Nat} {good : Bool} (h : Gs w g R ys k a good wr) (hb : Below wr.heap.size wr w') : Gs w g R ys k a good w' :=
  ⟨h.rd.below hb h.rd.lt, h.row.below hb h.row.lt, h.cfg.below hb h.cfg.lt, h.ask.below hb h.ask.lt, h.bel.trans (hb.mono h.bel.size), h.cg, h.gR⟩
theorem Gs.put {w wr : World} {g R : Nat} {ys : List Int} {k a : Nat} {good : Bool} (h : Gs w g R ys k a good wr) (hk : k < 7) : Gs w g R ys (k + 1) a good (wr.setCell ⟨R, k, none⟩ (.int .i64 (selN ys (k + 1) k))) := by
  have h1 := h.cg
  have h2 := h.gR
  have hb : Below R wr (wr.setCell ⟨R, k, none⟩ (.int .i64 (selN ys (k + 1) k))) := (Below.refl R wr).setCell (p := ⟨R, k, none⟩) (Nat.le_refl _) _
  refine ⟨h.rd.below hb h2, ?_, h.cfg.below hb (by omega), h.ask.below hb (by omega), h.bel.trans (hb.mono (by omega)), h1, h2⟩
  rw [← rowN_set ys k hk]
  exact h.row.set_ k _
def wid (k : Nat) : Nat := if k = 6 then 3 else 1
def posN (k : Nat) : Nat := if k ≤ 6 then k else 9
theorem octs_wid (k : Nat) (hk : k < 7) : octsAt k = (wid k : Int) := by
  rcases (by omega : k = 0 ∨ k = 1 ∨ k = 2 ∨ k = 3 ∨ k = 4 ∨ k = 5 ∨ k = 6) with rfl | rfl | rfl | rfl | rfl | rfl | rfl <;> rfl
/-- Up to there nothing is wrong. -/
def FineTo (ys : List Int) (k : Nat) : Prop := badK ys (min k 6) = none ∧ (k = 7 → 9 ≤ ys.length ∧ vAt ys 6 3 ≤ 1048576)
theorem step_any {w : World} {g R : Nat} {ys : List Int} (hs : Small ys) {k : Nat} (hk : k < 7) (hf : FineTo ys k) :
    (∃ x y : Int, wrongL ys = (x, y) ∧ y ≠ 0 ∧ ∀ W, Gs w g R ys k (posN k) true W → Calls Tryd.prog 33 #[.pointer (some ⟨g, 0, none⟩), .agg #[.int .i64 (leastAt k), .int .i64 (mostAt k), .int .i64 (octsAt k)]] W fun e W' => e = .returned (.tuple #[.int .i64 0, .int .i64 x, .int .i64 y]) ∧ ∃ a' good', Gs w g R ys k a' good' W') ∨
    (FineTo ys (k + 1) ∧ ∀ W, Gs w g R ys k (posN k) true W → Calls Tryd.prog 33 #[.pointer (some ⟨g, 0, none⟩), .agg #[.int .i64 (leastAt k), .int .i64 (mostAt k), .int .i64 (octsAt k)]] W fun e W' => e = .returned (.tuple #[.int .i64 (selN ys (k + 1) k), .int .i64 0, .int .i64 0]) ∧ Gs w g R ys k (posN (k + 1)) true W') := by
  have hw : 1 ≤ wid k ∧ wid k ≤ 8 := by unfold wid; split <;> omega
  have hp : posN k = k := by unfold posN; rw [if_pos (by omega)]
  have hp1 : posN (k + 1) = k + wid k := by unfold posN wid; split <;> split <;> omega
  rw [octs_wid k hk, hp, hp1]
  rcases Nat.lt_or_ge ys.length (k + wid k) with hl | hl
  · refine .inl ⟨ys.length, 1, ?_, by decide, fun W hW => (ctake_form hW.rd _ _ hl).mono ?_⟩
    · rcases Nat.lt_or_ge k 6 with h6 | h6
      · refine wrong_some (k := k) ?_ ?_ h6
        · have := hf.1
          rwa [show min k 6 = k by omega] at this
        · unfold badAt
          rw [if_pos (by unfold wid at hl; rw [if_neg (by omega)] at hl; omega)]
      · obtain rfl : k = 6 := by omega
        rw [wrong_rest hf.1]
        unfold restL14
        rw [if_pos (show ys.length < 9 from hl)]
    · rintro e W' ⟨rfl, hr, hg⟩
      exact ⟨rfl, _, _, hW.took hr hg⟩
  · have hv : selN ys (k + 1) k = vAt ys k (wid k) := by
      unfold selN wid
      rw [if_pos (by omega)]
      rcases Nat.lt_or_ge k 6 with h6 | h6
      · rw [if_neg (by omega), if_neg (by omega)]
        unfold wid at hl
        rw [if_neg (by omega)] at hl
        exact (vAt_one hs k hl).symm
      · obtain rfl : k = 6 := by omega
        rfl
    rw [hv]
    have h6' : k < 6 → vAt ys k (wid k) = ys.getD k 0 ∧ badK ys k = none ∧ ¬ ys.length ≤ k := fun h6 => by
      have e1 : wid k = 1 := by unfold wid; rw [if_neg (by omega)]
      rw [e1] at hl ⊢
      have := hf.1
      rw [show min k 6 = k by omega] at this
      exact ⟨vAt_one hs k hl, this, by omega⟩
    cases hi : inB (vAt ys k (wid k)) (leastAt k) (mostAt k) with
    | false =>
      refine .inl ⟨k, 3, ?_, by decide, fun W hW => (ctake_range hW.rd _ _ hw.1 hw.2 hl hi).mono ?_⟩
      · rcases Nat.lt_or_ge k 6 with h6 | h6
        · obtain ⟨e1, e2, e3⟩ := h6' h6
          refine wrong_some (k := k) e2 ?_ h6
          unfold badAt
          rw [if_neg e3, ← e1, hi]
          rfl
        · obtain rfl : k = 6 := by omega
          have hl : 9 ≤ ys.length := hl
          have hv0 := (vAt_three hs hl).2
          have hn : ¬ (0 ≤ vAt ys 6 3 ∧ vAt ys 6 3 ≤ 1048576) := fun h => by
            have := (inB_iff _ _ _).2 h
            rw [show inB (vAt ys 6 3) 0 1048576 = false from hi] at this
            cases this
          rw [wrong_rest hf.1]
          unfold restL14
          rw [if_neg (by omega), if_pos (by omega)]
          rfl
      · rintro e W' ⟨rfl, hr, hg⟩
        exact ⟨rfl, _, _, hW.took hr hg⟩
    | true =>
      refine .inr ⟨?_, fun W hW => (ctake_ok hW.rd _ _ hw.1 hw.2 hl hi).mono ?_⟩
      · rcases Nat.lt_or_ge k 6 with h6 | h6
        · obtain ⟨e1, e2, e3⟩ := h6' h6
          refine ⟨?_, fun h => by omega⟩
          rw [show min (k + 1) 6 = k + 1 by omega]
          refine badK_none e2 ?_
          unfold badAt
          rw [if_neg e3, ← e1, hi]
          rfl
        · obtain rfl : k = 6 := by omega
          have hl : 9 ≤ ys.length := hl
          exact ⟨hf.1, fun _ => ⟨hl, ((inB_iff _ _ _).1 hi).2⟩⟩
      · rintro e W' ⟨rfl, hr, hg⟩
        exact ⟨rfl, hW.took hr hg⟩
theorem last_any {w : World} {g R : Nat} {ys : List Int} (hs : Small ys) (hf : FineTo ys 7) :
    (wrongL ys = (9, 1) ∧ ∀ W, Gs w g R ys 7 9 true W → Calls Tryd.prog 33 #[.pointer (some ⟨g, 0, none⟩), .agg #[.int .i64 0, .int .i64 1, .int .i64 1]] W fun e W' => ∃ y : Int, y ≠ 0 ∧ e = .returned (.tuple #[.int .i64 0, .int .i64 9, .int .i64 y]) ∧ ∃ a' good', Gs w g R ys 7 a' good' W') ∨
    (10 ≤ ys.length ∧ ¬ 1 < ys.getD 9 0 ∧ ∀ W, Gs w g R ys 7 9 true W → Calls Tryd.prog 33 #[.pointer (some ⟨g, 0, none⟩), .agg #[.int .i64 0, .int .i64 1, .int .i64 1]] W fun e W' => e = .returned (.tuple #[.int .i64 (ys.getD 9 0), .int .i64 0, .int .i64 0]) ∧ Gs w g R ys 7 10 true W') := by
  obtain ⟨h9, hv⟩ := hf.2 rfl
  have hw := wrong_rest hf.1
  unfold restL14 at hw
  rw [if_neg (by omega), if_neg (by omega)] at hw
  rcases Nat.lt_or_ge ys.length 10 with hl | hl
  · refine .inl ⟨by rw [hw, if_pos (.inl hl)], fun W hW => (ctake_form (k := 1) hW.rd 0 1 (by omega)).mono ?_⟩
    rintro e W' ⟨rfl, hr, hg⟩
    refine ⟨1, by decide, ?_, _, _, hW.took hr hg⟩
    rw [show ys.length = 9 by omega]
    rfl
  · have hvv := vAt_one hs 9 hl
    have b9 : 0 ≤ ys.getD 9 0 ∧ ys.getD 9 0 ≤ 255 := hs.at_ 9
    rcases Int.lt_or_le 1 (ys.getD 9 0) with h1 | h1
    · refine .inl ⟨by rw [hw, if_pos (.inr h1)], fun W hW => (ctake_range (k := 1) hW.rd 0 1 (by omega) (by omega) hl ?_).mono ?_⟩
      · rw [hvv]
        cases hi : inB (ys.getD 9 0) 0 1 with
        | false => rfl
        | true => have := (inB_iff _ _ _).1 hi; omega
      · rintro e W' ⟨rfl, hr, hg⟩
        exact ⟨3, by decide, rfl, _, _, hW.took hr hg⟩
    · refine .inr ⟨hl, by omega, fun W hW => (ctake_ok (k := 1) hW.rd 0 1 (by omega) (by omega) hl ?_).mono ?_⟩
      · rw [hvv]
        exact (inB_iff _ _ _).2 ⟨b9.1, h1⟩
      · rintro e W' ⟨rfl, hr, hg⟩
        rw [hvv]
        exact ⟨rfl, hW.took hr hg⟩
set_option maxRecDepth 100000 in
set_option maxHeartbeats 1000000 in
theorem get_any (xs : List Int) (A : Option Addr) (n cap : Nat) (w : World) (hL : Laid w) (h : Oct w w.heap.size A n cap xs) (hn : n ≤ 2000) :
    Calls Tryd.prog 15 #[.slice A n cap] w fun e w' => ((∃ x y : Int, wrongL xs = (x, y) ∧ y ≠ 0 ∧ e = .returned (.tuple #[.agg #[.int .i64 0, .int .i64 0, .int .i64 0, .int .i64 0, .int .i64 0], .agg #[.int .i64 0, .int .i64 0, .bool false], .int .i64 x, .int .i64 y])) ∨
      (wrongL xs = (10, 0) ∧ e = .returned (.tuple #[.agg #[.int .i64 (cfgOf xs).s, .int .i64 (cfgOf xs).o, .int .i64 (cfgOf xs).t, .int .i64 (cfgOf xs).f, .int .i64 (cfgOf xs).d], .agg #[.int .i64 (askOf xs).m, .int .i64 (askOf xs).b, .bool (askOf xs).st], .int .i64 10, .int .i64 0]))) ∧ Below w.heap.size w w' := by
  obtain ⟨k, ek⟩ : ∃ k, min n 11 = k := ⟨_, rfl⟩
  have e1 : min (n : Int) 11 = (k : Int) := by omega
  have hcap := h.room
  have hcut := cut_front A n cap k (by omega)
  obtain ⟨W0, eW0⟩ : ∃ W, W = (w.alloc (.cells #[.int .i64 0, .int .i64 0, .int .i64 0, .int .i64 0, .int .i64 0] 23)).alloc (.cells #[.int .i64 0, .int .i64 0, .bool false] 25) := ⟨_, rfl⟩
  have hb0 : Below w.heap.size w W0 := by rw [eW0]; exact ((Below.refl _ w).alloc (Nat.le_refl _) _).alloc (by simp) _
  have hC0 : Blk W0 w.heap.size 23 #[.int .i64 0, .int .i64 0, .int .i64 0, .int .i64 0, .int .i64 0] := by rw [eW0]; exact Blk.below (heap_alloc_new w _) ((Below.refl _ _).alloc (Nat.le_refl _) _) (by simp)
  have hA0 : Blk W0 (w.heap.size + 1) 25 #[.int .i64 0, .int .i64 0, .bool false] := by rw [eW0]; exact heap_alloc2_new w _ _
  have hs0 : W0.heap.size = w.heap.size + 2 := by rw [eW0]; simp
  have hq := (h.below hb0).more hb0.size
  have hf := hq.front (k := k) (by omega)
  have hsm := h.small
  have hw : wrongL (xs.take k) = wrongL xs := by
    rw [← wrong_take xs]
    rcases Nat.lt_or_ge 11 n with hh | hh
    · rw [show k = 11 by omega]
    · rw [show k = n by omega, List.take_of_length_le (by rw [h.len]; exact Nat.le_refl _), List.take_of_length_le (by rw [h.len]; exact hh)]
  have hNew := new_any _ A k cap W0 hf (by omega)
  have HCA : Hid (cfgOf (xs.take k) = cfgOf xs ∧ askOf (xs.take k) = askOf xs) := by
    refine Lib.hid ?_
    rcases Nat.lt_or_ge 11 n with hh | hh
    · rw [show k = 11 by omega]
      refine ⟨?_, ?_⟩ <;> simp only [cfgOf, askOf, getD_take xs _ (show 0 < 11 by decide), getD_take xs _ (show 1 < 11 by decide), getD_take xs _ (show 2 < 11 by decide), getD_take xs _ (show 3 < 11 by decide), getD_take xs _ (show 4 < 11 by decide), getD_take xs _ (show 5 < 11 by decide), getD_take xs _ (show 9 < 11 by decide), vAt_take]
    · rw [show k = n by omega, List.take_of_length_le (by rw [h.len]; exact Nat.le_refl _)]
      exact ⟨rfl, rfl⟩
  go_enter Tryd.func15, Tryd.ntmps15
  go_wp2_with fail
  rw [← eW0]
  clear eW0
  refine hNew.mono ?_
  rintro e w1 ⟨g, rfl, hr1, hb1, hg1⟩
  obtain ⟨ys, eys⟩ : ∃ ys, xs.take k = ys := ⟨_, rfl⟩
  rw [eys] at hr1 hw HCA
  have hys : Small ys := by rw [← eys]; exact hsm.take k
  have hC1 := hC0.below hb1 hC0.lt
  have hA1 := hA0.below hb1 hA0.lt
  have hs1 := hb1.size
  have hq1 := hb0.trans (hb1.mono hb0.size)
  obtain ⟨W2, eW2⟩ : ∃ W, W = w1.alloc (.cells (ints (rowN ys 0)).toArray 55) := ⟨_, rfl⟩
  have hb2 : Below w1.heap.size w1 W2 := by rw [eW2]; exact (Below.refl _ w1).alloc (Nat.le_refl _) _
  have hR2 : Blk W2 w1.heap.size 55 (ints (rowN ys 0)).toArray := by rw [eW2]; exact heap_alloc_new w1 _
  have hs2 : W2.heap.size = w1.heap.size + 1 := by rw [eW2]; simp
  have hr2 := hr1.below hb2 hr1.lt
  have hgl := hr1.lt
  have hC2 := hC1.below hb2 hC1.lt
  have hA2 := hA1.below hb2 hA1.lt
  have hq2 := hq1.trans (hb2.mono hq1.size)
  have eW3 : W2 = w1.alloc (.cells #[.int .i64 0, .int .i64 0, .int .i64 0, .int .i64 0, .int .i64 0, .int .i64 0, .int .i64 0] 55) := eW2
  clear eW2 eys hNew hf hq hcut e1 h
  obtain ⟨ty0, fr0, hrow⟩ := (hL.on hq2).row
  have hix := spans_idx
  have hsp : (Tryd.prog.info? 59).map (·.size) = some spanC.toArray.size := info59
  have HL := Lib.hid (hL.on hq2)
  generalize spanC.toArray = SP at *
  go_wp2_with (rw [← eW3]; refine wpList_load_row rfl 59 (.global 0) rfl 0 rfl ty0 SP fr0 _ hrow Tryd.underlying59 rfl hsp ?_)
  clear hrow hsp
  have eW4 := eW3
  clear eW3
  rw [← eW4]
  have HG : Gs w g w1.heap.size ys 0 0 true W2 := ⟨hr2, hR2, hC2, hA2, hq2, by omega, hgl⟩
  have hg0 : w.heap.size + 1 < g := HG.cg
  clear hr2 hR2 hC2 hA2 hq2 hb2 hr1 hC1 hA1 hb1 hq1 hC0 hA0 hb0 eW4 HL hgl hs2
  generalize w1.heap.size = R at *
  go_loopw [8, 9, 10, 11, 12, 24] (fun _ _ _ _ _ i wr => ∃ k : Nat, k ≤ 7 ∧ i = .int .i64 k ∧ FineTo ys k ∧ Gs w g R ys k (posN k) true wr) (fun _ _ _ _ _ i _ => 7 - (intOf i).toNat)
  case atStart => exact ⟨0, by omega, rfl, ⟨rfl, fun h => by omega⟩, HG⟩
  case round =>
    obtain ⟨j, hj, rfl, hF, hG⟩ := hrel
    by_cases hlt : j < 7
    · have hix1 := hix j hlt
      have t0 : decide ((j : Int) < 7) = true := decide_eq_true (by omega)
      have j0 : (0 : Int) ≤ (j : Int) := by omega
      have j1 : (j : Int) < 7 := by omega
      rcases step_any (w := w) (g := g) (R := R) hys hlt hF with ⟨x, y, hxy, hy, hC⟩ | ⟨hF1, hC⟩
      · have y0 : (y == 0) = false := by simpa using hy
        have y1 : (y != 0) = true := by simpa using hy
        have HXY := Lib.hid hxy
        have HY := Lib.hid hy
        clear hxy hy
        go_wp2_with fail
        refine (hC _ (hG.more ((Below.refl _ wr).alloc (Nat.le_refl _) _))).mono ?_
        rintro e w3 ⟨rfl, a', good', hG3⟩
        have hxy := HXY.out
        have hy := HY.out
        have c3 := hG3.cfg
        have d3 : Blk (w3.setRow w.heap.size #[.int .i64 0, .int .i64 0, .int .i64 0, .int .i64 0, .int .i64 0]) (w.heap.size + 1) 25 #[.int .i64 0, .int .i64 0, .bool false] := (setRow_other _ _ _ _ (by omega)).trans hG3.ask
        go_wp2_with (first
          | (refine wpList_store_row rfl 23 (.tmp 2) (.tmp 37) rfl w.heap.size #[.int .i64 0, .int .i64 0, .int .i64 0, .int .i64 0, .int .i64 0] rfl rfl 23 #[.int .i64 0, .int .i64 0, .int .i64 0, .int .i64 0, .int .i64 0] c3 info23 rfl one5 ?_)
          | (refine wpList_store_row rfl 25 (.tmp 3) (.tmp 38) rfl (w.heap.size + 1) #[.int .i64 0, .int .i64 0, .bool false] rfl rfl 25 #[.int .i64 0, .int .i64 0, .bool false] d3 info25 rfl one3 ?_))
        refine bodyPost_ret (res15 _ _ w.heap.size (w.heap.size + 1) #[.int .i64 0, .int .i64 0, .int .i64 0, .int .i64 0, .int .i64 0] #[.int .i64 0, .int .i64 0, .bool false] _ _ rfl rfl rfl rfl ((setRow_other _ _ _ _ (by omega)).trans (setRow_heap _ _ _ _ _ _ c3)) (setRow_heap _ _ _ _ _ _ d3) rfl rfl) rfl ?_
        exact ⟨.inl ⟨_, _, hw.symm.trans hxy, hy, rfl⟩, below_setRow (below_setRow hG3.bel (Nat.le_refl _) _) (by omega) _⟩
      · go_wp2_with fail
        refine (hC _ (hG.more ((Below.refl _ wr).alloc (Nat.le_refl _) _))).mono ?_
        rintro e w3 ⟨rfl, hG3⟩
        have c3 : w3.cell? ⟨R, j, none⟩ = some (.int .i64 ((rowN ys j).getD j 0)) := (hG3.row.cell j).trans (ints_at _ j (by simp [rowN]; omega))
        have f3 := hG3.row.free j
        have hP := hG3.put hlt
        clear hG hC
        go_wp2
        go_roundw
        case rel => exact ⟨j + 1, by omega, by go_num, hF1, hP⟩
        case measure => simp [intOf]; omega
    · obtain rfl : j = 7 := by omega
      rcases last_any (w := w) (g := g) (R := R) hys hF with ⟨hxy, hC⟩ | ⟨hl, h1, hC⟩
      · have HXY := Lib.hid hxy
        clear hxy
        go_wp2_with fail
        refine (hC _ hG).mono ?_
        rintro e w3 ⟨y, hy, rfl, a', good', hG3⟩
        have y0 : (y == 0) = false := by simpa using hy
        have y1 : (y != 0) = true := by simpa using hy
        clear hy
        have hxy := HXY.out
        have hy : (1 : Int) ≠ 0 := by decide
        have c3 := hG3.cfg
        have d3 : Blk (w3.setRow w.heap.size #[.int .i64 0, .int .i64 0, .int .i64 0, .int .i64 0, .int .i64 0]) (w.heap.size + 1) 25 #[.int .i64 0, .int .i64 0, .bool false] := (setRow_other _ _ _ _ (by omega)).trans hG3.ask
        go_wp2_with (first
          | (refine wpList_store_row rfl 23 (.tmp 2) (.tmp 54) rfl w.heap.size #[.int .i64 0, .int .i64 0, .int .i64 0, .int .i64 0, .int .i64 0] rfl rfl 23 #[.int .i64 0, .int .i64 0, .int .i64 0, .int .i64 0, .int .i64 0] c3 info23 rfl one5 ?_)
          | (refine wpList_store_row rfl 25 (.tmp 3) (.tmp 55) rfl (w.heap.size + 1) #[.int .i64 0, .int .i64 0, .bool false] rfl rfl 25 #[.int .i64 0, .int .i64 0, .bool false] d3 info25 rfl one3 ?_))
        refine bodyPost_ret (res15 _ _ w.heap.size (w.heap.size + 1) #[.int .i64 0, .int .i64 0, .int .i64 0, .int .i64 0, .int .i64 0] #[.int .i64 0, .int .i64 0, .bool false] _ _ rfl rfl rfl rfl ((setRow_other _ _ _ _ (by omega)).trans (setRow_heap _ _ _ _ _ _ c3)) (setRow_heap _ _ _ _ _ _ d3) rfl rfl) rfl ?_
        exact ⟨.inl ⟨_, _, hw.symm.trans hxy, hy, rfl⟩, below_setRow (below_setRow hG3.bel (Nat.le_refl _) _) (by omega) _⟩
      · go_wp2_with fail
        refine (hC _ hG).mono ?_
        rintro e w3 ⟨rfl, hG3⟩
        obtain ⟨L, eL⟩ : ∃ L, ys.length = L := ⟨_, rfl⟩
        have hlf := left_any hG3.rd
        rw [eL] at hlf hl
        have hrest := wrong_rest hF.1
        unfold restL14 at hrest
        rw [eL, if_neg (show ¬ L < 9 by omega), if_neg (show ¬ 1048576 < vAt ys 6 3 by have := (hF.2 rfl).2; omega), if_neg (show ¬ (L < 10 ∨ 1 < ys.getD 9 0) by omega)] at hrest
        rcases Nat.lt_or_ge 10 L with h10 | h10
        · rw [if_pos h10] at hrest
          have q1 : decide ((0 : Int) < (L : Int) - (10 : Nat)) = true := decide_eq_true (by omega)
          have HXY := Lib.hid hrest
          clear hrest
          go_wp2_with fail
          refine hlf.mono ?_
          rintro e w4 ⟨rfl, q, rfl⟩
          have hG4 := hG3.took (hG3.rd.drewN q) (grown_drewN (World.grownBy.refl w3 _) q)
          have hat := at_any hG4.rd
          generalize w3.drewN q = w5 at *
          go_wp2_with fail
          refine hat.mono ?_
          rintro e w6 ⟨rfl, rfl⟩
          have h10' : (1 : Int) ≠ 0 := by decide
          have c3 := hG4.cfg
          have d3 : Blk (w5.setRow w.heap.size #[.int .i64 0, .int .i64 0, .int .i64 0, .int .i64 0, .int .i64 0]) (w.heap.size + 1) 25 #[.int .i64 0, .int .i64 0, .bool false] := (setRow_other _ _ _ _ (by omega)).trans hG4.ask
          go_wp2_with (first
            | (refine wpList_store_row rfl 23 (.tmp 2) (.tmp 60) rfl w.heap.size #[.int .i64 0, .int .i64 0, .int .i64 0, .int .i64 0, .int .i64 0] rfl rfl 23 #[.int .i64 0, .int .i64 0, .int .i64 0, .int .i64 0, .int .i64 0] c3 info23 rfl one5 ?_)
            | (refine wpList_store_row rfl 25 (.tmp 3) (.tmp 61) rfl (w.heap.size + 1) #[.int .i64 0, .int .i64 0, .bool false] rfl rfl 25 #[.int .i64 0, .int .i64 0, .bool false] d3 info25 rfl one3 ?_))
          refine bodyPost_ret (res15 _ _ w.heap.size (w.heap.size + 1) #[.int .i64 0, .int .i64 0, .int .i64 0, .int .i64 0, .int .i64 0] #[.int .i64 0, .int .i64 0, .bool false] _ _ rfl rfl rfl rfl ((setRow_other _ _ _ _ (by omega)).trans (setRow_heap _ _ _ _ _ _ c3)) (setRow_heap _ _ _ _ _ _ d3) rfl rfl) rfl ?_
          exact ⟨.inl ⟨_, _, hw.symm.trans HXY.out, h10', rfl⟩, below_setRow (below_setRow hG4.bel (Nat.le_refl _) _) (by omega) _⟩
        · rw [if_neg (show ¬ 10 < L by omega)] at hrest
          have q1 : decide ((0 : Int) < (L : Int) - (10 : Nat)) = false := decide_eq_false (by omega)
          have HXY := Lib.hid hrest
          clear hrest
          go_wp2_with fail
          refine hlf.mono ?_
          rintro e w4 ⟨rfl, q, rfl⟩
          have hG4 := hG3.took (hG3.rd.drewN q) (grown_drewN (World.grownBy.refl w3 _) q)
          generalize w3.drewN q = w5 at *
          have r0 : w5.cell? ⟨R, 0, none⟩ = some (.int .i64 (ys.getD 0 0)) := hG4.row.cell 0
          have r1 : w5.cell? ⟨R, 1, none⟩ = some (.int .i64 (ys.getD 1 0)) := hG4.row.cell 1
          have r2 : w5.cell? ⟨R, 2, none⟩ = some (.int .i64 (ys.getD 2 0)) := hG4.row.cell 2
          have r3 : w5.cell? ⟨R, 3, none⟩ = some (.int .i64 (ys.getD 3 0)) := hG4.row.cell 3
          have r4 : w5.cell? ⟨R, 4, none⟩ = some (.int .i64 (ys.getD 4 0)) := hG4.row.cell 4
          generalize hx0 : ys.getD 0 0 = x0 at *
          generalize hx1 : ys.getD 1 0 = x1 at *
          generalize hx2 : ys.getD 2 0 = x2 at *
          generalize hx3 : ys.getD 3 0 = x3 at *
          generalize hx4 : ys.getD 4 0 = x4 at *
          generalize hx9 : ys.getD 9 0 = x9 at *
          have HX := Lib.hid (And.intro hx0 (And.intro hx1 (And.intro hx2 (And.intro hx3 (And.intro hx4 hx9)))))
          clear hx0 hx1 hx2 hx3 hx4 hx9
          go_wp2_with fail
          obtain ⟨V0, eV0⟩ : ∃ V0, V0 = w5.alloc (.cells #[.int .i64 x0, .int .i64 x1, .int .i64 x2, .int .i64 x3, .int .i64 x4] 23) := ⟨_, rfl⟩
          have bV0 : Below w5.heap.size w5 V0 := by rw [eV0]; exact (Below.refl _ w5).alloc (Nat.le_refl _) _
          have hP0 : Blk V0 w5.heap.size 23 #[.int .i64 x0, .int .i64 x1, .int .i64 x2, .int .i64 x3, .int .i64 x4] := by rw [eV0]; exact heap_alloc_new w5 _
          have hRl := hG4.row.lt
          have hG6 := hG4.more bV0
          have bV : Below V0.heap.size V0 V0.drew := ⟨rfl, rfl, rfl, Nat.le_refl _, fun _ _ => rfl⟩
          have hG7 := hG6.more bV
          have hP7 := hP0.below bV hP0.lt
          rw [← eV0]
          clear eV0 bV0 hP0 hG6 bV hG4 r0 r1 r2 r3 r4
          generalize hPP : w5.heap.size = PP at *
          generalize hVV : V0.drew = V at *
          have s0 : V.cell? ⟨PP, 0, none⟩ = some (.int .i64 x0) := hP7.cell 0
          have s1 : V.cell? ⟨PP, 1, none⟩ = some (.int .i64 x1) := hP7.cell 1
          have s2 : V.cell? ⟨PP, 2, none⟩ = some (.int .i64 x2) := hP7.cell 2
          have s3 : V.cell? ⟨PP, 3, none⟩ = some (.int .i64 x3) := hP7.cell 3
          have s4 : V.cell? ⟨PP, 4, none⟩ = some (.int .i64 x4) := hP7.cell 4
          have s5 : V.cell? ⟨R, 5, none⟩ = some (.int .i64 (ys.getD 5 0)) := hG7.row.cell 5
          have s6 : V.cell? ⟨R, 6, none⟩ = some (.int .i64 (vAt ys 6 3)) := hG7.row.cell 6
          generalize hx5 : ys.getD 5 0 = x5 at *
          generalize hx6 : vAt ys 6 3 = x6 at *
          have HS := Lib.hid (And.intro s0 (And.intro s1 (And.intro s2 (And.intro s3 (And.intro s4 (And.intro s5 s6))))))
          clear s0 s1 s2 s3 s4 s5 s6
          refine wp_region_noPanic ?_
          refine wp_region_held_drew (S := fun w' => w'.cell? ⟨PP, 0, none⟩ = some (.int .i64 x0) ∧ w'.cell? ⟨PP, 1, none⟩ = some (.int .i64 x1) ∧ w'.cell? ⟨PP, 2, none⟩ = some (.int .i64 x2) ∧ w'.cell? ⟨PP, 3, none⟩ = some (.int .i64 x3) ∧ w'.cell? ⟨PP, 4, none⟩ = some (.int .i64 x4) ∧ w'.cell? ⟨R, 5, none⟩ = some (.int .i64 x5) ∧ w'.cell? ⟨R, 6, none⟩ = some (.int .i64 x6)) (by kernel_rfl) (by rw [hVV]; exact HS.out) (fun hHeld => ?_)
          rw [hVV]
          refine wpAnyH_take (i := 0) (oi := ⟨some 75, _, _, _, _, _⟩) (v := ?_) rfl (by kernel_rfl) (by kernel_rfl) (by kernel_rfl) (fun _ _ _ h => h) (Or.inl ⟨by rfl, ?_⟩) (by assumption) ?_
          rotate_left 1
          · (intro W hSw; go_simp <;> with_reducible rfl)
          try simp only [Act.put, List.setIfInBounds_toArray, List.set_cons_zero, List.set_cons_succ]
          refine wpAnyH_take (i := 1) (oi := ⟨some 76, _, _, _, _, _⟩) (v := ?_) rfl (by kernel_rfl) (by kernel_rfl) (by kernel_rfl) (fun _ _ _ h => h) (Or.inl ⟨by rfl, ?_⟩) (by assumption) ?_
          rotate_left 1
          · (intro W hSw; go_simp <;> with_reducible rfl)
          try simp only [Act.put, List.setIfInBounds_toArray, List.set_cons_zero, List.set_cons_succ]
          refine wpAnyH_take (i := 2) (oi := ⟨some 77, _, _, _, _, _⟩) (v := ?_) rfl (by kernel_rfl) (by kernel_rfl) (by kernel_rfl) (fun _ _ _ h => h) (Or.inl ⟨by rfl, ?_⟩) (by assumption) ?_
          rotate_left 1
          · (intro W hSw; go_simp <;> with_reducible rfl)
          try simp only [Act.put, List.setIfInBounds_toArray, List.set_cons_zero, List.set_cons_succ]
          refine wpAnyH_take (i := 3) (oi := ⟨some 78, _, _, _, _, _⟩) (v := ?_) rfl (by kernel_rfl) (by kernel_rfl) (by kernel_rfl) (fun _ _ _ h => h) (Or.inl ⟨by rfl, ?_⟩) (by assumption) ?_
          rotate_left 1
          · (intro W hSw; go_simp <;> with_reducible rfl)
          try simp only [Act.put, List.setIfInBounds_toArray, List.set_cons_zero, List.set_cons_succ]
          refine wpAnyH_take (i := 4) (oi := ⟨some 79, _, _, _, _, _⟩) (v := ?_) rfl (by kernel_rfl) (by kernel_rfl) (by kernel_rfl) (fun _ _ _ h => h) (Or.inl ⟨by rfl, ?_⟩) (by assumption) ?_
          rotate_left 1
          · (intro W hSw; go_simp <;> with_reducible rfl)
          try simp only [Act.put, List.setIfInBounds_toArray, List.set_cons_zero, List.set_cons_succ]
          refine wpAnyH_take (i := 5) (oi := ⟨some 80, _, _, _, _, _⟩) (v := ?_) rfl (by kernel_rfl) (by kernel_rfl) (by kernel_rfl) (fun _ _ _ h => h) (Or.inl ⟨by rfl, ?_⟩) (by assumption) ?_
          rotate_left 1
          · (intro W hSw; go_simp <;> with_reducible rfl)
          try simp only [Act.put, List.setIfInBounds_toArray, List.set_cons_zero, List.set_cons_succ]
          refine wpAnyH_take (i := 6) (oi := ⟨some 81, _, _, _, _, _⟩) (v := ?_) rfl (by kernel_rfl) (by kernel_rfl) (by kernel_rfl) (fun _ _ _ h => h) (Or.inl ⟨by rfl, ?_⟩) (by assumption) ?_
          rotate_left 1
          · (intro W hSw; go_simp <;> with_reducible rfl)
          try simp only [Act.put, List.setIfInBounds_toArray, List.set_cons_zero, List.set_cons_succ]
          refine wpAnyH_take (i := 7) (oi := ⟨some 82, _, _, _, _, _⟩) (v := ?_) rfl (by kernel_rfl) (by kernel_rfl) (by kernel_rfl) (fun _ _ _ h => h) (Or.inl ⟨by rfl, ?_⟩) (by assumption) ?_
          rotate_left 1
          · (intro W hSw; go_simp <;> with_reducible rfl)
          try simp only [Act.put, List.setIfInBounds_toArray, List.set_cons_zero, List.set_cons_succ]
          refine wpAnyH_take (i := 8) (oi := ⟨some 83, _, _, _, _, _⟩) (v := ?_) rfl (by kernel_rfl) (by kernel_rfl) (by kernel_rfl) (fun _ _ _ h => h) (Or.inl ⟨by rfl, ?_⟩) (by assumption) ?_
          rotate_left 1
          · (intro W hSw; go_simp <;> with_reducible rfl)
          try simp only [Act.put, List.setIfInBounds_toArray, List.set_cons_zero, List.set_cons_succ]
          refine wpAnyH_ready (rs := [9]) (by kernel_rfl) (by simp) ?_
          refine AllReadyH.cons rfl (fun K hK => ?_) AllReadyH.nil
          go_simp
          refine (at_any hG7.rd).mono ?_
          rintro e w7 ⟨rfl, rfl⟩
          refine hK.out _ _ HS.out (fun hHeld2 => ?_)
          clear hHeld hK K
          try simp only [Act.put, List.setIfInBounds_toArray, List.set_cons_zero, List.set_cons_succ]
          have hC7 := hG7.cfg
          have hA7 : Blk (V.setRow w.heap.size #[.int .i64 x0, .int .i64 x1, .int .i64 x2, .int .i64 x3, .int .i64 x4]) (w.heap.size + 1) 25 #[.int .i64 0, .int .i64 0, .bool false] := (setRow_other _ _ _ _ (by omega)).trans hG7.ask
          have cs : ∀ (W : World) (b i : Nat) (cs : Array Value) (B : Nat), B ≠ b → (W.setRow b cs).cell? ⟨B, i, none⟩ = W.cell? ⟨B, i, none⟩ := fun W b i cs B hB => by unfold World.cell?; simp only [setRow_other W b B cs hB]
          have hwP : w.heap.size + 1 < PP := by omega
          have HS2 : Hid ((V.setRow w.heap.size #[.int .i64 x0, .int .i64 x1, .int .i64 x2, .int .i64 x3, .int .i64 x4]).cell? ⟨PP, 0, none⟩ = some (.int .i64 x0) ∧ (V.setRow w.heap.size #[.int .i64 x0, .int .i64 x1, .int .i64 x2, .int .i64 x3, .int .i64 x4]).cell? ⟨PP, 1, none⟩ = some (.int .i64 x1) ∧ (V.setRow w.heap.size #[.int .i64 x0, .int .i64 x1, .int .i64 x2, .int .i64 x3, .int .i64 x4]).cell? ⟨PP, 2, none⟩ = some (.int .i64 x2) ∧ (V.setRow w.heap.size #[.int .i64 x0, .int .i64 x1, .int .i64 x2, .int .i64 x3, .int .i64 x4]).cell? ⟨PP, 3, none⟩ = some (.int .i64 x3) ∧ (V.setRow w.heap.size #[.int .i64 x0, .int .i64 x1, .int .i64 x2, .int .i64 x3, .int .i64 x4]).cell? ⟨PP, 4, none⟩ = some (.int .i64 x4) ∧ (V.setRow w.heap.size #[.int .i64 x0, .int .i64 x1, .int .i64 x2, .int .i64 x3, .int .i64 x4]).cell? ⟨R, 5, none⟩ = some (.int .i64 x5) ∧ (V.setRow w.heap.size #[.int .i64 x0, .int .i64 x1, .int .i64 x2, .int .i64 x3, .int .i64 x4]).cell? ⟨R, 6, none⟩ = some (.int .i64 x6)) := by
            refine Lib.hid ?_
            rw [cs _ _ _ _ _ (by omega), cs _ _ _ _ _ (by omega), cs _ _ _ _ _ (by omega), cs _ _ _ _ _ (by omega), cs _ _ _ _ _ (by omega), cs _ _ _ _ _ (by omega), cs _ _ _ _ _ (by omega)]
            exact HS.out
          refine wpAnyH_ready (rs := [10]) (by kernel_rfl) (by simp) ?_
          refine AllReadyH.cons rfl (fun K hK => ?_) AllReadyH.nil
          rw [if_pos (by rfl)]
          refine wp_store_row 23 (.tmp 2) (.tmp 75) rfl (w.heap.size) #[.int .i64 x0, .int .i64 x1, .int .i64 x2, .int .i64 x3, .int .i64 x4] rfl rfl 23 #[.int .i64 0, .int .i64 0, .int .i64 0, .int .i64 0, .int .i64 0] hC7 info23 rfl (by simp [Value.oneCell']) ?_
          refine hK.out _ _ HS2.out (fun hHeld3 => ?_)
          clear hK K hHeld2
          try simp only [Act.put, List.setIfInBounds_toArray, List.set_cons_zero, List.set_cons_succ]
          have HS3 : Hid (((V.setRow w.heap.size #[.int .i64 x0, .int .i64 x1, .int .i64 x2, .int .i64 x3, .int .i64 x4]).setRow (w.heap.size + 1) #[.int .i64 x5, .int .i64 x6, .bool (ys[9]?.getD 0 == 1)]).cell? ⟨PP, 0, none⟩ = some (.int .i64 x0) ∧ ((V.setRow w.heap.size #[.int .i64 x0, .int .i64 x1, .int .i64 x2, .int .i64 x3, .int .i64 x4]).setRow (w.heap.size + 1) #[.int .i64 x5, .int .i64 x6, .bool (ys[9]?.getD 0 == 1)]).cell? ⟨PP, 1, none⟩ = some (.int .i64 x1) ∧ ((V.setRow w.heap.size #[.int .i64 x0, .int .i64 x1, .int .i64 x2, .int .i64 x3, .int .i64 x4]).setRow (w.heap.size + 1) #[.int .i64 x5, .int .i64 x6, .bool (ys[9]?.getD 0 == 1)]).cell? ⟨PP, 2, none⟩ = some (.int .i64 x2) ∧ ((V.setRow w.heap.size #[.int .i64 x0, .int .i64 x1, .int .i64 x2, .int .i64 x3, .int .i64 x4]).setRow (w.heap.size + 1) #[.int .i64 x5, .int .i64 x6, .bool (ys[9]?.getD 0 == 1)]).cell? ⟨PP, 3, none⟩ = some (.int .i64 x3) ∧ ((V.setRow w.heap.size #[.int .i64 x0, .int .i64 x1, .int .i64 x2, .int .i64 x3, .int .i64 x4]).setRow (w.heap.size + 1) #[.int .i64 x5, .int .i64 x6, .bool (ys[9]?.getD 0 == 1)]).cell? ⟨PP, 4, none⟩ = some (.int .i64 x4) ∧ ((V.setRow w.heap.size #[.int .i64 x0, .int .i64 x1, .int .i64 x2, .int .i64 x3, .int .i64 x4]).setRow (w.heap.size + 1) #[.int .i64 x5, .int .i64 x6, .bool (ys[9]?.getD 0 == 1)]).cell? ⟨R, 5, none⟩ = some (.int .i64 x5) ∧ ((V.setRow w.heap.size #[.int .i64 x0, .int .i64 x1, .int .i64 x2, .int .i64 x3, .int .i64 x4]).setRow (w.heap.size + 1) #[.int .i64 x5, .int .i64 x6, .bool (ys[9]?.getD 0 == 1)]).cell? ⟨R, 6, none⟩ = some (.int .i64 x6)) := by
            refine Lib.hid ?_
            obtain ⟨a0, a1, a2, a3, a4, a5, a6⟩ := HS2.out
            exact ⟨(cs _ _ _ _ _ (by omega)).trans a0, (cs _ _ _ _ _ (by omega)).trans a1, (cs _ _ _ _ _ (by omega)).trans a2, (cs _ _ _ _ _ (by omega)).trans a3, (cs _ _ _ _ _ (by omega)).trans a4, (cs _ _ _ _ _ (by omega)).trans a5, (cs _ _ _ _ _ (by omega)).trans a6⟩
          refine wpAnyH_ready (rs := [11]) (by kernel_rfl) (by simp) ?_
          refine AllReadyH.cons rfl (fun K hK => ?_) AllReadyH.nil
          rw [if_pos (by rfl)]
          refine wp_store_row 25 (.tmp 3) (.tmp 82) rfl (w.heap.size + 1) #[.int .i64 x5, .int .i64 x6, .bool (ys[9]?.getD 0 == 1)] rfl rfl 25 #[.int .i64 0, .int .i64 0, .bool false] hA7 info25 rfl (by simp [Value.oneCell']) ?_
          refine hK.out _ _ HS3.out (fun hHeld4 => ?_)
          clear hK K hHeld3
          try simp only [Act.put, List.setIfInBounds_toArray, List.set_cons_zero, List.set_cons_succ]
          refine wpAnyH_take (i := 12) (oi := ⟨some 4, _, _, _, _, _⟩) (v := ?_) rfl (by kernel_rfl) (by kernel_rfl) (by kernel_rfl) (fun _ _ _ h => h) (Or.inl ⟨by rfl, ?_⟩) (by assumption) ?_
          rotate_left 1
          · (intro W hSw; go_simp <;> with_reducible rfl)
          try simp only [Act.put, List.setIfInBounds_toArray, List.set_cons_zero, List.set_cons_succ]
          refine wpAnyH_take (i := 13) (oi := ⟨some 5, _, _, _, _, _⟩) (v := ?_) rfl (by kernel_rfl) (by kernel_rfl) (by kernel_rfl) (fun _ _ _ h => h) (Or.inl ⟨by rfl, ?_⟩) (by assumption) ?_
          rotate_left 1
          · (intro W hSw; go_simp <;> with_reducible rfl)
          try simp only [Act.put, List.setIfInBounds_toArray, List.set_cons_zero, List.set_cons_succ]
          refine wpAnyH_done (by kernel_rfl) ?_ _
          refine NoPanic.normal ?_
          go_wp2
          refine bodyPost_ret (res15 _ _ w.heap.size (w.heap.size + 1) #[.int .i64 x0, .int .i64 x1, .int .i64 x2, .int .i64 x3, .int .i64 x4] #[.int .i64 x5, .int .i64 x6, .bool (ys[9]?.getD 0 == 1)] _ _ rfl rfl rfl rfl ((setRow_other _ _ _ _ (by omega)).trans (setRow_heap _ _ _ _ _ _ hC7)) (setRow_heap _ _ _ _ _ _ hA7) rfl rfl) rfl ?_
          obtain ⟨hcf, haf⟩ := HCA.out
          obtain ⟨hx0, hx1, hx2, hx3, hx4, hx9⟩ := HX.out
          refine ⟨.inr ⟨hw.symm.trans HXY.out, ?_⟩, below_setRow (below_setRow hG7.bel (Nat.le_refl _) _) (by omega) _⟩
          rw [← hcf, ← haf]
          subst hx0 hx1 hx2 hx3 hx4 hx5 hx6
          rfl
end Go.Proofs.YtmkdmnaonddghaaDoor
