/- What Get answers, and where the plain answer says octets are wrong first. Conditions: at most 2000 octets. -/
import Derived.Test.YtcgoaallfhompaaDoorTake30
import Derived.Test.YtcgoaallfhompaaDoorPutW
import Derived.Test.YtcgoaallfhompaaDoorList
namespace Go.Proofs.YtcgoaallfhompaaDoor
open Go.RowKit Go.ChangeShapes Go.WideShapes
set_option linter.unusedSimpArgs false
set_option linter.unusedVariables false

/-- Where octets are wrong first among the next r picks from the i-th on; else how many octets. -/
def scanP (xs : List Int) : Nat → Nat → Int × Int
  | 0, i => (2 + i, 0)
  | r + 1, i => if xs.length ≤ 2 + i then (xs.length, 1) else if 7 < xs.getD (2 + i) 0 then (2 + i, 3) else scanP xs r (i + 1)
/-- How many picks the octets tell of. -/
def manyP (xs : List Int) : Nat := (vAt xs 0 2).toNat
def wrongP (xs : List Int) : Int × Int := if xs.length < 2 then (xs.length, 1) else if 4096 < manyP xs then (0, 4) else scanP xs (manyP xs) 0
def gotL (xs : List Int) : List Int := if (wrongP xs).2 = 0 then (xs.drop 2).take (manyP xs) else []
theorem many_in {xs : List Int} (h : Small xs) : (manyP xs : Int) = vAt xs 0 2 ∧ manyP xs < 65536 := by
  have := vAt_in h 0 (k := 2) (by omega)
  unfold manyP
  omega
theorem v_one {xs : List Int} (h : Small xs) (a : Nat) (ha : a < xs.length) : vAt xs a 1 = xs.getD a 0 := by
  unfold vAt
  have e : (xs.drop a).take 1 = [xs.getD a 0] := by
    rw [drop_one xs a ha]
    rfl
  rw [e]
  simp [val]
/-- What Get answers. -/
def GetsP (xs : List Int) (w : World) (e : Ending) (w' : World) : Prop :=
  ∃ A c, e = .returned (.tuple #[.slice A (gotL xs).length c, .int .i64 (wrongP xs).1, .int .i64 (wrongP xs).2]) ∧ SeesI w' A (gotL xs).length c (gotL xs) ∧ Below w.heap.size w w'
theorem getsP_none {xs : List Int} {w w' : World} {p e : Int} (h : wrongP xs = (p, e)) (he : e ≠ 0) (hb : Below w.heap.size w w') : GetsP xs w (.returned (.tuple #[.slice none 0 0, .int .i64 p, .int .i64 e])) w' := by
  have hg : gotL xs = [] := by unfold gotL; rw [h, if_neg he]
  refine ⟨none, 0, by rw [hg, h]; rfl, ?_, hb⟩
  rw [hg]
  exact ⟨rfl, Nat.le_refl _, Nat.zero_le _, fun _ => rfl, fun ad e => by cases e⟩
theorem under23 : Tryd.prog.underlying 23 = some (.slice (Tryd.prog.elem 23)) := by kernel_rfl
theorem size23 (w : World) : (sizeOf (Tryd.prog.elem 23)).run Tryd.prog w = .ok 1 w := by kernel_rfl
theorem cut_front (A : Option Addr) (n cap k : Nat) (hc : k ≤ cap) (h0 : A = none → cap = 0) (w : World) :
    (Instr.slice 23 (.slice A n cap) none (some (.int .i64 (k : Int))) none).run Tryd.prog w = .ok (.slice A k cap) w := by
  rw [run_slice_h w 23 A n cap under23 .i64 _ (by omega) (by omega), size23]
  simp only [Result.andThen, sliced, Int.toNat_natCast, Nat.sub_zero, Nat.zero_mul]
  rcases A with _ | ad
  · have := h0 rfl
    subst this
    obtain rfl : k = 0 := by omega
    rfl
  · split <;> simp [Addr.add]
set_option maxRecDepth 100000 in
set_option maxHeartbeats 2000000 in
theorem get_any {w : World} {A : Option Addr} {n cap : Nat} {xs : List Int} (h : Oct w w.heap.size A n cap xs) (hn : n ≤ 2000) : Calls Tryd.prog 15 #[.slice A n cap] w (GetsP xs w) := by
  have hl := h.len
  have hN := fun W (hW : Below w.heap.size w W) => new_any xs A n cap W ((h.below hW).more hW.size) hn
  have hcut := cut_front A n cap n h.room h.none_
  have m0 : min (n : Int) 4098 = (n : Int) := by omega
  have HS := Lib.hid (h.small)
  have HL := Lib.hid hl
  clear hl
  go_enter Tryd.func15, Tryd.ntmps15
  go_wp2_with fail
  refine (hN _ (Below.refl _ _)).mono ?_
  rintro e w1 ⟨g, rfl, hr1, hb1, hg1⟩
  by_cases q2 : n < 2
  · have hT := ptake_form hr1 4096 4 (k := 2) (by rw [HL.out]; omega)
    have hz : wrongP xs = ((xs.length : Int), 1) := by unfold wrongP; rw [if_pos (by rw [HL.out]; exact q2)]
    have HZ := Lib.hid hz
    clear hz
    go_wp2_with fail
    refine hT.mono ?_
    rintro e w2 ⟨rfl, hr2, hg2⟩
    go_wp2
    go_ret3
    exact getsP_none HZ.out (by decide) (hb1.grown hg2 hb1.size (fun k hk => by injection hk with hk; omega))
  · have hmv := many_in HS.out
    have hlen2 : 2 ≤ xs.length := by rw [HL.out]; omega
    by_cases q4 : 4096 < manyP xs
    · have hT := ptake_above hr1 4096 4 (k := 2) (by omega) (by omega) (by omega) (by rw [← hmv.1]; omega)
      have hz : wrongP xs = (0, 4) := by unfold wrongP; rw [if_neg (by omega), if_pos q4]
      have HZ := Lib.hid hz
      clear hz
      go_wp2_with fail
      refine hT.mono ?_
      rintro e w2 ⟨rfl, hr2, hg2⟩
      go_wp2
      go_ret3
      exact getsP_none HZ.out (by decide) (hb1.grown hg2 hb1.size (fun k hk => by injection hk with hk; omega))
    · have hT := ptake_ok hr1 4096 4 (k := 2) (by omega) (by omega) (by omega) (by rw [← hmv.1]; omega)
      rw [← hmv.1] at hT
      have hz : scanP xs (manyP xs) 0 = wrongP xs := by unfold wrongP; rw [if_neg (by omega), if_neg q4]
      obtain ⟨M, eM⟩ : ∃ M, manyP xs = M := ⟨_, rfl⟩
      rw [eM] at hT hz q4
      have HM := Lib.hid (And.intro eM (And.intro hmv hlen2))
      have HZ := Lib.hid hz
      clear eM hz hmv hlen2
      go_wp2_with fail
      refine hT.mono ?_
      rintro e w2 ⟨rfl, hr2, hg2⟩
      have hb2 : Below w.heap.size w w2 := hb1.grown hg2 hb1.size (fun k hk => by injection hk with hk; omega)
      have hgl : g < w2.heap.size := hr2.lt
      have hw0 : IntKind.i64.wrap (M : Int) = (M : Int) := by rw [IntKind.wrap_i64]; omega
      go_wp2_with fail
      go_loopw [9, 10, 11, 12, 30] (fun L _ _ _ i wr => ∃ (k : Nat) (A1 : Option Addr) (c1 : Nat), i = .int .i64 k ∧ k ≤ M ∧ L = .slice A1 k c1 ∧ wr.ownsRow w2.heap.size 3 1 (.slice A1 k c1) k (ints ((xs.drop 2).take k)) ∧ Rd wr g xs (2 + k) true ∧ scanP xs (M - k) k = wrongP xs ∧ 2 + k ≤ xs.length ∧ Below w.heap.size w wr ∧ w2.heap.size ≤ wr.heap.size) (fun _ _ _ _ i _ => M - (intOf i).toNat)
      case atStart => exact ⟨0, none, 0, rfl, Nat.zero_le _, rfl, World.ownsRow_nil _ _ _ _, hr2, HZ.out, HM.out.2.2, hb2, Nat.le_refl _⟩
      case round =>
        obtain ⟨k, A1, c1, rfl, hk, rfl, ho, hr, hs, hlk, hb, hsz⟩ := hrel
        by_cases hlt : k < M
        · have t1 : decide ((k : Int) < (M : Int)) = true := decide_eq_true (by omega)
          have hk1 : IntKind.i64.wrap ((k : Int) + 1) = ((k + 1 : Nat) : Int) := by rw [IntKind.wrap_i64]; omega
          have hs1 : scanP xs (M - k) k = if xs.length ≤ 2 + k then ((xs.length : Int), 1) else if 7 < xs.getD (2 + k) 0 then ((2 : Int) + k, 3) else scanP xs (M - (k + 1)) (k + 1) := by
            rw [show M - k = (M - (k + 1)) + 1 by omega]
            rfl
          rw [hs] at hs1
          by_cases c0 : xs.length ≤ 2 + k
          · rw [if_pos c0] at hs1
            have hT := ptake_form hr 7 3 (k := 1) (by omega)
            have HX := Lib.hid hs1
            clear hs1 hs
            go_wp2_with fail
            refine hT.mono ?_
            rintro e w3 ⟨rfl, hr3, hg3⟩
            go_wp2
            go_ret3
            exact getsP_none HX.out (by decide) (hb.grown hg3 hb.size (fun k hk => by injection hk with hk; omega))
          · rw [if_neg c0] at hs1
            have hv1 := v_one HS.out (2 + k) (by omega)
            by_cases c7 : 7 < xs.getD (2 + k) 0
            · rw [if_pos c7] at hs1
              have hT := ptake_above hr 7 3 (k := 1) (by omega) (by omega) (by omega) (by rw [hv1]; exact c7)
              rw [show (((2 + k : Nat)) : Int) = (2 : Int) + k by omega] at hT
              have HX := Lib.hid hs1
              clear hs1 hs hv1
              go_wp2_with fail
              refine hT.mono ?_
              rintro e w3 ⟨rfl, hr3, hg3⟩
              go_wp2
              go_ret3
              exact getsP_none HX.out (by decide) (hb.grown hg3 hb.size (fun k hk => by injection hk with hk; omega))
            · rw [if_neg c7] at hs1
              have hT := ptake_ok hr 7 3 (k := 1) (by omega) (by omega) (by omega) (by rw [hv1]; omega)
              rw [hv1] at hT
              have hts : (xs.drop 2).take (k + 1) = (xs.drop 2).take k ++ [xs.getD (2 + k) 0] := by
                rw [take_snoc _ k (by rw [List.length_drop]; omega)]
                simp [List.getD]
              obtain ⟨x, ex⟩ : ∃ x, xs.getD (2 + k) 0 = x := ⟨_, rfl⟩
              rw [ex] at hT hts
              have HX := Lib.hid (And.intro hs1 hts)
              clear hs1 hs hv1 ex c7 hts
              obtain ⟨i0, hi0, hz0, hz1, hz2⟩ : ∃ (i : TypeInfo), Tryd.prog.info? 3 = some i ∧ i.zero = some (.int .i64 0) ∧ i.size = 1 ∧ i.bytes = 8 := info_parts info3
              go_wp2_with fail
              refine hT.mono ?_
              rintro e w3 ⟨rfl, hr3, hg3⟩
              have ho3 : w3.ownsRow w2.heap.size 3 1 (.slice A1 k c1) k (ints ((xs.drop 2).take k)) := ho.kept hg3 (.inr fun e => by have := (ho.lt g e).1; omega)
              have hb3 : Below w.heap.size w w3 := hb.grown hg3 hb.size (fun k hk => by injection hk with hk; omega)
              have hsz3 : w2.heap.size ≤ w3.heap.size := Nat.le_trans hsz hg3.size
              have ka : Below w3.heap.size w3 (w3.alloc (.cells #[.int .i64 x] 3)) := (Below.refl _ w3).alloc (Nat.le_refl _) _
              have ho4 : (w3.alloc (.cells #[.int .i64 x] 3)).ownsRow w2.heap.size 3 1 (.slice A1 k c1) k (ints ((xs.drop 2).take k)) := ownB_below ho3 ka
              have hv4 : Sees (w3.alloc (.cells #[.int .i64 x] 3)) 1 (some ⟨w3.heap.size, 0, none⟩) 1 1 (ints [x]) := by
                refine ⟨rfl, Nat.le_refl _, by unfold maxLen; omega, (fun e => by cases e), fun ad ha _ => ?_⟩
                injection ha with ha
                subst ha
                refine ⟨_, 0, rfl, by simp, ?_⟩
                exact range_blk (t := 3) (heap_alloc_new w3 (.cells #[.int .i64 x] 3))
              have hr4 := hr3.below ka hr3.lt
              have HY := Lib.hid (And.intro ho4 (And.intro hv4 (And.intro hr4 (And.intro ka (And.intro hb3 hsz3)))))
              have h2k : 2 + (k + 1) ≤ xs.length := by omega
              clear ho3 ho4 hv4 hr4 ka hb3 ho hr hr3 hg3 hsz3
              go_wp2_with (at_builtin; refine wpList_app rfl _ _ 28 rfl w2.heap.size 3 i0 (.int .i64 0) 1 8 Tryd.underlying28 hi0 hz0 hz1 hz2 rfl (by decide) A1 k c1 (ints ((xs.drop 2).take k)) rfl HY.out.1 (some ⟨w3.heap.size, 0, none⟩) 1 1 (ints [x]) rfl HY.out.2.1 (flat_one int1_one _) (by unfold maxLen; omega) (by omega) (by have := HY.out.2.2.2.1.size; have := HY.out.2.2.2.2.2; omega) ?_; intro A5 c5 w5 ho5 hg5 hl5)
              obtain ⟨ho4, hv4, hr4, ka, hb3, hsz3⟩ := HY.out
              have hg5' : ∀ q, (Value.slice A1 k c1).ownBlock = some q → w2.heap.size ≤ q := fun q hq => (ho4.lt q hq).1
              have hlw2 : Below w2.heap.size (w3.alloc (.cells #[.int .i64 x] 3)) w5 := (Below.refl _ _).grown hg5 (Nat.le_trans hsz3 ka.size) hg5'
              go_roundw
              case rel =>
                refine ⟨k + 1, A5, c5, by simp, by omega, rfl, ?_, ?_, HX.out.1.symm, h2k, ?_, ?_⟩
                · rw [HX.out.2, ints_app]
                  exact ho5
                · exact hr4.below hlw2 hgl
                · exact (hb3.trans (ka.mono hb3.size)).trans (hlw2.mono (by have := hb2.size; omega))
                · exact Nat.le_trans hsz3 (Nat.le_trans ka.size hlw2.size)
              case measure => simp [intOf]; omega
        · obtain rfl : k = M := by omega
          have t1 : decide ((k : Int) < (k : Int)) = false := decide_eq_false (by omega)
          have hs1 : wrongP xs = ((2 : Int) + k, 0) := by
            rw [← hs, Nat.sub_self]
            rfl
          have hgo : gotL xs = (xs.drop 2).take k := by unfold gotL; rw [hs1, if_pos rfl, HM.out.1]
          have hgl : (gotL xs).length = k := by rw [hgo, List.length_take, List.length_drop]; omega
          have hT := rat_any hr
          rw [show (((2 + k : Nat)) : Int) = (2 : Int) + k by omega] at hT
          have HX := Lib.hid (And.intro hs1 (And.intro hgo (And.intro hgl ho)))
          clear hs1 hs hgo hgl ho
          go_wp2_with fail
          refine hT.mono ?_
          rintro e w3 ⟨rfl, rfl⟩
          go_wp2
          go_ret3
          obtain ⟨hs1, hgo, hgl, ho⟩ := HX.out
          refine ⟨A1, c1, by rw [hgl, hs1]; rfl, ?_, hb⟩
          rw [hgl, hgo]
          exact own_sees ho
end Go.Proofs.YtcgoaallfhompaaDoor
