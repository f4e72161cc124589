/- PickLists holds. Conditions: none. -/
import Derived.Test.YtcgoaallfhompaaDoorLawS
namespace Go.Proofs.YtcgoaallfhompaaDoor
open Go.RowKit Go.ChangeShapes Go.WideShapes
set_option linter.unusedSimpArgs false
set_option linter.unusedVariables false

theorem gone_yes {l : List Int} {i q : Int} {k : Nat} (h : outB l i q) (h3 : i ≤ (k : Int)) (h4 : (k : Int) - i < q) : gone l i q k = true := by
  unfold gone
  rw [decide_eq_true h, decide_eq_true h3, decide_eq_true h4]
  rfl
theorem gone_no {l : List Int} {i q : Int} {k : Nat} (h : ¬ outB l i q) : gone l i q k = false := by
  unfold gone
  rw [decide_eq_false h]
  rfl
theorem sees_one (w : World) (x : Int) : Sees (w.alloc (.cells #[.int .i64 x] 3)) 1 (some ⟨w.heap.size, 0, none⟩) 1 1 (ints [x]) := by
  refine ⟨rfl, Nat.le_refl _, by unfold maxLen; omega, (fun e => by cases e), fun ad ha _ => ?_⟩
  injection ha with ha
  subst ha
  exact ⟨_, 0, rfl, by simp, range_blk (t := 3) (heap_alloc_new w (.cells #[.int .i64 x] 3))⟩
set_option maxRecDepth 100000 in
set_option maxHeartbeats 8000000 in
theorem lists_law {w : World} {A : Option Addr} {n cap : Nat} {l0 : List Int} (h0 : SeesI w A n cap l0) (i q : Int) (hq : q ≤ 9223372036854775807) : Calls Tryd.prog 4 #[.slice A n cap, .int .i64 i, .int .i64 q] w (Trial w) := by
  obtain ⟨i0, hi0, hz0, hz1, hz2⟩ : ∃ (i : TypeInfo), Tryd.prog.info? 3 = some i ∧ i.zero = some (.int .i64 0) ∧ i.size = 1 ∧ i.bytes = 8 := info_parts info3
  go_enter Tryd.func4, Tryd.ntmps4
  go_wp2_with fail
  refine (alive_any w).mono ?_
  rintro e w1 ⟨rfl, hb1⟩
  go_wp2_with fail
  refine (few_any (h0.on hb1)).mono ?_
  rintro e w1' ⟨⟨m, rfl, h, hm⟩, rfl⟩
  clear h0
  generalize l0.take 80 = l at h
  have hl := h.len
  have HE := Lib.hid hl
  clear hl
  go_wp2_with (at_builtin; refine wpList_app rfl _ _ 28 rfl w1.heap.size 3 i0 (.int .i64 0) 1 8 Tryd.underlying28 hi0 hz0 hz1 hz2 rfl (by decide) none 0 0 [] rfl (World.ownsRow_nil _ _ _ _) A m cap (ints l) rfl h (flat_one int1_one l) (by unfold maxLen; omega) (by omega) (Nat.le_refl _) ?_; intro A3 c3 w2 ho3 hg3 hl3)
  simp only [List.nil_append, Nat.zero_add] at ho3 ⊢
  have hb2 : Below w1.heap.size w1 w2 := (Below.refl _ _).grown hg3 (Nat.le_refl _) (fun p hp => by simp [Value.ownBlock] at hp)
  have hwas : SeesI w2 A3 m c3 l := own_sees ho3
  have HW := Lib.hid (And.intro ho3 hwas)
  clear ho3 hwas hg3 hl3
  go_loopw [8, 10] (fun o j wr => ∃ (k : Nat) (A1 : Option Addr) (c1 : Nat), j = .int .i64 k ∧ k ≤ m ∧ o = .slice A1 (keepL l (gone l i q) k).length c1 ∧ wr.ownsRow w2.heap.size 3 1 (.slice A1 (keepL l (gone l i q) k).length c1) (keepL l (gone l i q) k).length (ints (keepL l (gone l i q) k)) ∧ Below w2.heap.size w2 wr) (fun _ j _ => m - (intOf j).toNat)
  case atStart => exact ⟨0, none, 0, rfl, Nat.zero_le _, rfl, World.ownsRow_nil _ _ _ _, Below.refl _ _⟩
  case round =>
    obtain ⟨k, A1, c1, rfl, hk, rfl, ho, hb⟩ := hrel
    by_cases hlt : k < m
    · have hzz := rfl (a := k)
      have t1 : decide ((k : Int) < (m : Int)) = true := decide_eq_true (by omega)
      have hk1 : IntKind.i64.wrap ((k : Int) + 1) = ((k + 1 : Nat) : Int) := by rw [IntKind.wrap_i64]; omega
      have b0 : (0 : Int) ≤ (k : Int) := by omega
      have b1 : (k : Int) < (m : Int) := by omega
      by_cases q0 : 1 ≤ q
      · have s0 : decide (1 ≤ q) = true := decide_eq_true q0
        by_cases q1 : 0 ≤ i
        · have s1 : decide (0 ≤ i) = true := decide_eq_true q1
          by_cases q2 : i < (m : Int)
          · have s2 : decide (i < (m : Int)) = true := decide_eq_true q2
            by_cases q3 : i ≤ (k : Int)
            · have s3 : decide (i ≤ (k : Int)) = true := decide_eq_true q3
              have hwk : IntKind.i64.wrap ((k : Int) - i) = (k : Int) - i := by rw [IntKind.wrap_i64]; omega
              by_cases q4 : (k : Int) - i < q
              · have s4 : decide ((k : Int) - i < q) = true := decide_eq_true q4
                have hgo : gone l i q k = true := gone_yes (by unfold outB; rw [HE.out]; omega) q3 q4
                have hks : keepL l (gone l i q) (k + 1) = keepL l (gone l i q) k := by rw [keepL, hgo]; rfl
                obtain ⟨z, ez⟩ : ∃ z, (keepL l (gone l i q) k).length = z := ⟨_, rfl⟩
                have HX := Lib.hid (And.intro hks (And.intro ho ez))
                clear hgo hks ho ez hzz
                go_wp2
                go_roundw
                case rel =>
                  obtain ⟨hks, ho, ez⟩ := HX.out
                  refine ⟨k + 1, A1, c1, by simp, by omega, by rw [hks], ?_, hb⟩
                  rw [hks]
                  exact ho
                case measure => simp [intOf]; omega
              · have s4 : decide ((k : Int) - i < q) = false := decide_eq_false q4
                have p4 : q ≤ (k : Int) - i := by omega
                have hgo : gone l i q k = false := by unfold gone; rw [decide_eq_false q4, Bool.and_false, Bool.and_false]
                have hkl := keep_len l (gone l i q) k
                have hks : keepL l (gone l i q) (k + 1) = keepL l (gone l i q) k ++ [l.getD k 0] := by rw [keepL, hgo]; rfl
                have hkn : (keepL l (gone l i q) (k + 1)).length = (keepL l (gone l i q) k).length + 1 := by rw [hks, List.length_append]; rfl
                obtain ⟨g, o, rfl, c0⟩ := (h.on (hb2.trans (hb.mono hb2.size))).get hlt
                obtain ⟨x, ex⟩ : ∃ x, l.getD k 0 = x := ⟨_, rfl⟩
                rw [ex] at c0 hks
                obtain ⟨z, ez⟩ : ∃ z, (keepL l (gone l i q) k).length = z := ⟨_, rfl⟩
                rw [ez] at ho hkl hkn ⊢
                have hz80 : z ≤ 80 := by omega
                have ka : Below wr.heap.size wr (wr.alloc (.cells #[.int .i64 x] 3)) := (Below.refl _ wr).alloc (Nat.le_refl _) _
                have ho4 : (wr.alloc (.cells #[.int .i64 x] 3)).ownsRow w2.heap.size 3 1 (.slice A1 z c1) z (ints (keepL l (gone l i q) k)) := ownB_below ho ka
                have hv4 : Sees (wr.alloc (.cells #[.int .i64 x] 3)) 1 (some ⟨wr.heap.size, 0, none⟩) 1 1 (ints [x]) := sees_one wr x
                have HX := Lib.hid (And.intro hks (And.intro hkn (And.intro ez (And.intro ka (And.intro ho4 (And.intro hv4 (And.intro ho hkl)))))))
                clear hgo hks hkn ez ex ka ho4 hv4 ho hkl hzz
                go_wp2_with (at_builtin; refine wpList_app rfl _ _ 28 rfl w2.heap.size 3 i0 (.int .i64 0) 1 8 Tryd.underlying28 hi0 hz0 hz1 hz2 rfl (by decide) A1 z c1 (ints (keepL l (gone l i q) k)) rfl HX.out.2.2.2.2.1 (some ⟨wr.heap.size, 0, none⟩) 1 1 (ints [x]) rfl HX.out.2.2.2.2.2.1 (flat_one int1_one _) (by unfold maxLen; omega) (by omega) (by have := HX.out.2.2.2.1.size; have := hb.size; omega) ?_; intro A5 c5 w5 ho5 hg5 hl5)
                obtain ⟨hks, hkn, ez, ka, ho4, hv4, ho, hkl⟩ := HX.out
                have hlw : Below w2.heap.size (wr.alloc (.cells #[.int .i64 x] 3)) w5 := (Below.refl _ _).grown hg5 (Nat.le_trans hb.size ka.size) (fun p hp => (ho4.lt p hp).1)
                go_roundw
                case rel =>
                  refine ⟨k + 1, A5, c5, by simp, by omega, by rw [hkn], ?_, (hb.trans (ka.mono hb.size)).trans hlw⟩
                  rw [hkn, hks, ints_app]
                  exact ho5
                case measure => simp [intOf]; omega
            · have s3 : decide (i ≤ (k : Int)) = false := decide_eq_false q3
              have p3 : (k : Int) < i := by omega
              have hgo : gone l i q k = false := by unfold gone; rw [decide_eq_false q3, Bool.false_and, Bool.and_false]
              have hkl := keep_len l (gone l i q) k
              have hks : keepL l (gone l i q) (k + 1) = keepL l (gone l i q) k ++ [l.getD k 0] := by rw [keepL, hgo]; rfl
              have hkn : (keepL l (gone l i q) (k + 1)).length = (keepL l (gone l i q) k).length + 1 := by rw [hks, List.length_append]; rfl
              obtain ⟨g, o, rfl, c0⟩ := (h.on (hb2.trans (hb.mono hb2.size))).get hlt
              obtain ⟨x, ex⟩ : ∃ x, l.getD k 0 = x := ⟨_, rfl⟩
              rw [ex] at c0 hks
              obtain ⟨z, ez⟩ : ∃ z, (keepL l (gone l i q) k).length = z := ⟨_, rfl⟩
              rw [ez] at ho hkl hkn ⊢
              have hz80 : z ≤ 80 := by omega
              have ka : Below wr.heap.size wr (wr.alloc (.cells #[.int .i64 x] 3)) := (Below.refl _ wr).alloc (Nat.le_refl _) _
              have ho4 : (wr.alloc (.cells #[.int .i64 x] 3)).ownsRow w2.heap.size 3 1 (.slice A1 z c1) z (ints (keepL l (gone l i q) k)) := ownB_below ho ka
              have hv4 : Sees (wr.alloc (.cells #[.int .i64 x] 3)) 1 (some ⟨wr.heap.size, 0, none⟩) 1 1 (ints [x]) := sees_one wr x
              have HX := Lib.hid (And.intro hks (And.intro hkn (And.intro ez (And.intro ka (And.intro ho4 (And.intro hv4 (And.intro ho hkl)))))))
              clear hgo hks hkn ez ex ka ho4 hv4 ho hkl hzz
              go_wp2_with (at_builtin; refine wpList_app rfl _ _ 28 rfl w2.heap.size 3 i0 (.int .i64 0) 1 8 Tryd.underlying28 hi0 hz0 hz1 hz2 rfl (by decide) A1 z c1 (ints (keepL l (gone l i q) k)) rfl HX.out.2.2.2.2.1 (some ⟨wr.heap.size, 0, none⟩) 1 1 (ints [x]) rfl HX.out.2.2.2.2.2.1 (flat_one int1_one _) (by unfold maxLen; omega) (by omega) (by have := HX.out.2.2.2.1.size; have := hb.size; omega) ?_; intro A5 c5 w5 ho5 hg5 hl5)
              obtain ⟨hks, hkn, ez, ka, ho4, hv4, ho, hkl⟩ := HX.out
              have hlw : Below w2.heap.size (wr.alloc (.cells #[.int .i64 x] 3)) w5 := (Below.refl _ _).grown hg5 (Nat.le_trans hb.size ka.size) (fun p hp => (ho4.lt p hp).1)
              go_roundw
              case rel =>
                refine ⟨k + 1, A5, c5, by simp, by omega, by rw [hkn], ?_, (hb.trans (ka.mono hb.size)).trans hlw⟩
                rw [hkn, hks, ints_app]
                exact ho5
              case measure => simp [intOf]; omega
          · have s2 : decide (i < (m : Int)) = false := decide_eq_false q2
            have p2 : (m : Int) ≤ i := by omega
            have hgo : gone l i q k = false := gone_no (by unfold outB; rw [HE.out]; omega)
            have hkl := keep_len l (gone l i q) k
            have hks : keepL l (gone l i q) (k + 1) = keepL l (gone l i q) k ++ [l.getD k 0] := by rw [keepL, hgo]; rfl
            have hkn : (keepL l (gone l i q) (k + 1)).length = (keepL l (gone l i q) k).length + 1 := by rw [hks, List.length_append]; rfl
            obtain ⟨g, o, rfl, c0⟩ := (h.on (hb2.trans (hb.mono hb2.size))).get hlt
            obtain ⟨x, ex⟩ : ∃ x, l.getD k 0 = x := ⟨_, rfl⟩
            rw [ex] at c0 hks
            obtain ⟨z, ez⟩ : ∃ z, (keepL l (gone l i q) k).length = z := ⟨_, rfl⟩
            rw [ez] at ho hkl hkn ⊢
            have hz80 : z ≤ 80 := by omega
            have ka : Below wr.heap.size wr (wr.alloc (.cells #[.int .i64 x] 3)) := (Below.refl _ wr).alloc (Nat.le_refl _) _
            have ho4 : (wr.alloc (.cells #[.int .i64 x] 3)).ownsRow w2.heap.size 3 1 (.slice A1 z c1) z (ints (keepL l (gone l i q) k)) := ownB_below ho ka
            have hv4 : Sees (wr.alloc (.cells #[.int .i64 x] 3)) 1 (some ⟨wr.heap.size, 0, none⟩) 1 1 (ints [x]) := sees_one wr x
            have HX := Lib.hid (And.intro hks (And.intro hkn (And.intro ez (And.intro ka (And.intro ho4 (And.intro hv4 (And.intro ho hkl)))))))
            clear hgo hks hkn ez ex ka ho4 hv4 ho hkl hzz
            go_wp2_with (at_builtin; refine wpList_app rfl _ _ 28 rfl w2.heap.size 3 i0 (.int .i64 0) 1 8 Tryd.underlying28 hi0 hz0 hz1 hz2 rfl (by decide) A1 z c1 (ints (keepL l (gone l i q) k)) rfl HX.out.2.2.2.2.1 (some ⟨wr.heap.size, 0, none⟩) 1 1 (ints [x]) rfl HX.out.2.2.2.2.2.1 (flat_one int1_one _) (by unfold maxLen; omega) (by omega) (by have := HX.out.2.2.2.1.size; have := hb.size; omega) ?_; intro A5 c5 w5 ho5 hg5 hl5)
            obtain ⟨hks, hkn, ez, ka, ho4, hv4, ho, hkl⟩ := HX.out
            have hlw : Below w2.heap.size (wr.alloc (.cells #[.int .i64 x] 3)) w5 := (Below.refl _ _).grown hg5 (Nat.le_trans hb.size ka.size) (fun p hp => (ho4.lt p hp).1)
            go_roundw
            case rel =>
              refine ⟨k + 1, A5, c5, by simp, by omega, by rw [hkn], ?_, (hb.trans (ka.mono hb.size)).trans hlw⟩
              rw [hkn, hks, ints_app]
              exact ho5
            case measure => simp [intOf]; omega
        · have s1 : decide (0 ≤ i) = false := decide_eq_false q1
          have p1 : i < 0 := by omega
          have hgo : gone l i q k = false := gone_no (by unfold outB; omega)
          have hkl := keep_len l (gone l i q) k
          have hks : keepL l (gone l i q) (k + 1) = keepL l (gone l i q) k ++ [l.getD k 0] := by rw [keepL, hgo]; rfl
          have hkn : (keepL l (gone l i q) (k + 1)).length = (keepL l (gone l i q) k).length + 1 := by rw [hks, List.length_append]; rfl
          obtain ⟨g, o, rfl, c0⟩ := (h.on (hb2.trans (hb.mono hb2.size))).get hlt
          obtain ⟨x, ex⟩ : ∃ x, l.getD k 0 = x := ⟨_, rfl⟩
          rw [ex] at c0 hks
          obtain ⟨z, ez⟩ : ∃ z, (keepL l (gone l i q) k).length = z := ⟨_, rfl⟩
          rw [ez] at ho hkl hkn ⊢
          have hz80 : z ≤ 80 := by omega
          have ka : Below wr.heap.size wr (wr.alloc (.cells #[.int .i64 x] 3)) := (Below.refl _ wr).alloc (Nat.le_refl _) _
          have ho4 : (wr.alloc (.cells #[.int .i64 x] 3)).ownsRow w2.heap.size 3 1 (.slice A1 z c1) z (ints (keepL l (gone l i q) k)) := ownB_below ho ka
          have hv4 : Sees (wr.alloc (.cells #[.int .i64 x] 3)) 1 (some ⟨wr.heap.size, 0, none⟩) 1 1 (ints [x]) := sees_one wr x
          have HX := Lib.hid (And.intro hks (And.intro hkn (And.intro ez (And.intro ka (And.intro ho4 (And.intro hv4 (And.intro ho hkl)))))))
          clear hgo hks hkn ez ex ka ho4 hv4 ho hkl hzz
          go_wp2_with (at_builtin; refine wpList_app rfl _ _ 28 rfl w2.heap.size 3 i0 (.int .i64 0) 1 8 Tryd.underlying28 hi0 hz0 hz1 hz2 rfl (by decide) A1 z c1 (ints (keepL l (gone l i q) k)) rfl HX.out.2.2.2.2.1 (some ⟨wr.heap.size, 0, none⟩) 1 1 (ints [x]) rfl HX.out.2.2.2.2.2.1 (flat_one int1_one _) (by unfold maxLen; omega) (by omega) (by have := HX.out.2.2.2.1.size; have := hb.size; omega) ?_; intro A5 c5 w5 ho5 hg5 hl5)
          obtain ⟨hks, hkn, ez, ka, ho4, hv4, ho, hkl⟩ := HX.out
          have hlw : Below w2.heap.size (wr.alloc (.cells #[.int .i64 x] 3)) w5 := (Below.refl _ _).grown hg5 (Nat.le_trans hb.size ka.size) (fun p hp => (ho4.lt p hp).1)
          go_roundw
          case rel =>
            refine ⟨k + 1, A5, c5, by simp, by omega, by rw [hkn], ?_, (hb.trans (ka.mono hb.size)).trans hlw⟩
            rw [hkn, hks, ints_app]
            exact ho5
          case measure => simp [intOf]; omega
      · have s0 : decide (1 ≤ q) = false := decide_eq_false q0
        have p0 : q < 1 := by omega
        have hgo : gone l i q k = false := gone_no (by unfold outB; omega)
        have hkl := keep_len l (gone l i q) k
        have hks : keepL l (gone l i q) (k + 1) = keepL l (gone l i q) k ++ [l.getD k 0] := by rw [keepL, hgo]; rfl
        have hkn : (keepL l (gone l i q) (k + 1)).length = (keepL l (gone l i q) k).length + 1 := by rw [hks, List.length_append]; rfl
        obtain ⟨g, o, rfl, c0⟩ := (h.on (hb2.trans (hb.mono hb2.size))).get hlt
        obtain ⟨x, ex⟩ : ∃ x, l.getD k 0 = x := ⟨_, rfl⟩
        rw [ex] at c0 hks
        obtain ⟨z, ez⟩ : ∃ z, (keepL l (gone l i q) k).length = z := ⟨_, rfl⟩
        rw [ez] at ho hkl hkn ⊢
        have hz80 : z ≤ 80 := by omega
        have ka : Below wr.heap.size wr (wr.alloc (.cells #[.int .i64 x] 3)) := (Below.refl _ wr).alloc (Nat.le_refl _) _
        have ho4 : (wr.alloc (.cells #[.int .i64 x] 3)).ownsRow w2.heap.size 3 1 (.slice A1 z c1) z (ints (keepL l (gone l i q) k)) := ownB_below ho ka
        have hv4 : Sees (wr.alloc (.cells #[.int .i64 x] 3)) 1 (some ⟨wr.heap.size, 0, none⟩) 1 1 (ints [x]) := sees_one wr x
        have HX := Lib.hid (And.intro hks (And.intro hkn (And.intro ez (And.intro ka (And.intro ho4 (And.intro hv4 (And.intro ho hkl)))))))
        clear hgo hks hkn ez ex ka ho4 hv4 ho hkl hzz
        go_wp2_with (at_builtin; refine wpList_app rfl _ _ 28 rfl w2.heap.size 3 i0 (.int .i64 0) 1 8 Tryd.underlying28 hi0 hz0 hz1 hz2 rfl (by decide) A1 z c1 (ints (keepL l (gone l i q) k)) rfl HX.out.2.2.2.2.1 (some ⟨wr.heap.size, 0, none⟩) 1 1 (ints [x]) rfl HX.out.2.2.2.2.2.1 (flat_one int1_one _) (by unfold maxLen; omega) (by omega) (by have := HX.out.2.2.2.1.size; have := hb.size; omega) ?_; intro A5 c5 w5 ho5 hg5 hl5)
        obtain ⟨hks, hkn, ez, ka, ho4, hv4, ho, hkl⟩ := HX.out
        have hlw : Below w2.heap.size (wr.alloc (.cells #[.int .i64 x] 3)) w5 := (Below.refl _ _).grown hg5 (Nat.le_trans hb.size ka.size) (fun p hp => (ho4.lt p hp).1)
        go_roundw
        case rel =>
          refine ⟨k + 1, A5, c5, by simp, by omega, by rw [hkn], ?_, (hb.trans (ka.mono hb.size)).trans hlw⟩
          rw [hkn, hks, ints_app]
          exact ho5
        case measure => simp [intOf]; omega

    · obtain rfl : k = m := by omega
      have t1 : decide ((k : Int) < (k : Int)) = false := decide_eq_false (by omega)
      have hka : keepL l (gone l i q) k = woL l i q := by rw [← HE.out]; exact keep_all l i q
      rw [hka] at ho ⊢
      clear hka
      have hwlen := wo_len l i q
      rw [HE.out] at hwlen
      have hwr : Below w1.heap.size w1 wr := hb2.trans (hb.mono hb2.size)
      have hcur := h.on hwr
      have hwk1 : IntKind.i64.wrap ((k : Int) - 1) = (k : Int) - 1 := by rw [IntKind.wrap_i64]; omega
      have HN := Lib.hid hwlen
      clear hwlen
      by_cases hx : exB l i
      · obtain ⟨a, rfl⟩ := Int.eq_ofNat_of_zero_le hx.1
        have ha : a + 1 < k := by have := hx.2; rw [HE.out] at this; omega
        have s1 : decide ((0 : Int) ≤ (a : Int)) = true := decide_eq_true (by omega)
        have s2 : decide ((a : Int) < (k : Int) - 1) = true := decide_eq_true (by omega)
        have p2 : (a : Int) < (k : Int) - 1 := by omega
        have p1 : (0 : Int) ≤ (a : Int) := by omega
        have p3 : (a : Int) < (k : Int) := by omega
        obtain ⟨b, eb⟩ : ∃ b : Nat, a + 1 = b := ⟨_, rfl⟩
        have hwa : IntKind.i64.wrap ((a : Int) + 1) = (b : Int) := by rw [IntKind.wrap_i64]; omega
        have p4 : (b : Int) < (k : Int) := by omega
        have p6 : (0 : Int) ≤ (b : Int) := by omega
        have HA := Lib.hid hx
        clear hx
        obtain ⟨gl, o, rfl, _, _⟩ := getJ hcur ha
        go_wp2_with (
          at_builtin
          refine wpList_app rfl _ _ 28 rfl wr.heap.size 3 i0 (.int .i64 0) 1 8 Tryd.underlying28 hi0 hz0 hz1 hz2 rfl (by decide) none 0 0 [] rfl (World.ownsRow_nil _ _ _ _) (some ⟨gl, o, none⟩) k cap (ints l) rfl hcur (flat_one int1_one l) (by unfold maxLen; omega) (by omega) (Nat.le_refl _) ?_
          intro A5 c5 w5 ho5 hg5 hl5
          simp only [List.nil_append, Nat.zero_add] at ho5 ⊢
          have hb5 : Below wr.heap.size wr w5 := (Below.refl _ _).grown hg5 (Nat.le_refl _) (fun p hp => by simp [Value.ownBlock] at hp)
          obtain ⟨g, cur, rfl, hg, hh, hnc, hmc, hs, ht⟩ := own_row ho5 (by omega)
          obtain ⟨gl', o', e', c0, d0⟩ := getJ (hcur.on hb5) ha
          injection e' with e'
          injection e' with e1 e2 _
          subst e1 e2
          have x0 : w5.cell? ⟨g, a, none⟩ = some (.int .i64 (l.getD a 0)) := (hh.cell a).trans (row_get ht HE.out (by omega))
          have kk1 : ∀ v, Below wr.heap.size wr (w5.setCell ⟨g, a, none⟩ v) := fun v => below_set hb5 hg
          have c1' : ∀ v, (w5.setCell ⟨g, a, none⟩ v).cell? ⟨gl, o + a, none⟩ = some (.int .i64 (l.getD a 0)) := fun v => by
            obtain ⟨gl', o', e', c', _⟩ := getJ (hcur.on (kk1 v)) ha
            injection e' with e'
            injection e' with e1 e2 _
            subst e1 e2
            exact c'
          have y1 : ∀ v, (w5.setCell ⟨g, a, none⟩ v).cell? ⟨g, a + 1, none⟩ = some (.int .i64 (l.getD (a + 1) 0)) := fun v => by
            rw [World.cell?_setCell_other _ _ _ _ (by simp)]
            exact (hh.cell (a + 1)).trans (row_get ht HE.out (by omega))
          have f0 : w5.frozen? ⟨g, a, none⟩ = false := hh.free a
          have f1 : ∀ v, (w5.setCell ⟨g, a, none⟩ v).frozen? ⟨g, a + 1, none⟩ = false := fun v => frozen_set hh a (a + 1) v
          have z0 := swapped hg hh hnc hmc hs ht HE.out a _ _ rfl rfl ha
          generalize l.getD a 0 = x at *
          generalize l.getD (a + 1) 0 = y at *
          have f2 := f1 (.int .i64 y)
          have y2 := y1 (.int .i64 y)
          have c2 := c1' (.int .i64 y)
          have kR : Below wr.heap.size wr ((w5.setCell ⟨g, a, none⟩ (.int .i64 y)).setCell ⟨g, a + 1, none⟩ (.int .i64 x)) := below_set (kk1 _) hg
          obtain ⟨W6, e6⟩ : ∃ W6, (w5.setCell ⟨g, a, none⟩ (.int .i64 y)).setCell ⟨g, a + 1, none⟩ (.int .i64 x) = W6 := ⟨_, rfl⟩
          rw [e6] at kR z0
          have kW : Below w1.heap.size w1 W6 := hwr.trans (kR.mono hwr.size)
          obtain ⟨AS, eAS⟩ : ∃ AS, AS = (some ⟨g, 0, none⟩ : Option Addr) := ⟨_, rfl⟩
          have hS0 : SeesI W6 AS k c5 (exL l (a : Int)) := by rw [eAS]; exact own_sees z0
          have n1 : (k : Int) ≤ (c5 : Int) := by omega
          have HS := Lib.hid (And.intro kR (And.intro kW hS0))
          rw [eb] at y2 f2 d0 e6
          have HBB := Lib.hid eb
          clear eb
          clear f1 y1 c1' kk1 hh hg ht hs hg5 hl5 hb5 ho5 z0 hcur hwr kR kW hS0 hmc)
        obtain ⟨kR, kW, hS0⟩ := HS.out
        subst eAS
        have ho' : SeesI wr A1 (woL l (a : Int) q).length c1 (woL l (a : Int) q) := own_sees ho
        have hwl := wo_len l (a : Int) q
        rw [HE.out] at hwl
        have hel : (exL l (a : Int)).length = k := by rw [ex_len, HE.out]
        have HO := Lib.hid (And.intro ho' (And.intro kW (And.intro kR (And.intro hS0 hel))))
        clear ho' ho kW kR hS0 hel
        refine (without_any (h.on HO.out.2.1) (by omega) (a : Int) q hq).mono ?_
        rintro e w6 ⟨A6, c6, rfl, ho6, hb6⟩
        have k6 : Below w1.heap.size w1 w6 := HO.out.2.1.trans (hb6.mono HO.out.2.1.size)
        have ho6' : SeesI w6 A6 (woL l (a : Int) q).length c6 (woL l (a : Int) q) := own_sees ho6
        have HP := Lib.hid (And.intro k6 (And.intro hb6 ho6'))
        clear k6 hb6 ho6 ho6'
        go_wp2_with fail
        refine (swap_any (h.on HP.out.1) (by omega) (a : Int)).mono ?_
        rintro e w7 ⟨A7, c7, rfl, ho7, hb7⟩
        rw [HO.out.2.2.2.2] at ho7 ⊢
        have ho7' : SeesI w7 A7 k c7 (exL l (a : Int)) := own_sees ho7
        have i1 := ints_same A6 A1 (woL l (a : Int) q).length c6 c1 (woL l (a : Int) q) w7 (HP.out.2.2.on hb7) (HO.out.1.on ((HO.out.2.2.1.trans (HP.out.2.1.mono HO.out.2.2.1.size)).trans (hb7.mono (Nat.le_trans HO.out.2.2.1.size HP.out.2.1.size))))
        have HQ := Lib.hid (And.intro hb7 (And.intro ho7' (show Below w2.heap.size w2 w7 from ((hb.trans (HO.out.2.2.1.mono hb.size)).trans (HP.out.2.1.mono (Nat.le_trans hb.size HO.out.2.2.1.size))).trans (hb7.mono (Nat.le_trans hb.size (Nat.le_trans HO.out.2.2.1.size HP.out.2.1.size))))))
        clear hb7 ho7 ho7'
        obtain ⟨u, eu⟩ : ∃ u, (woL l (a : Int) q).length = u := ⟨_, rfl⟩
        rw [eu] at i1 ⊢
        clear eu
        go_wp2_with fail
        refine i1.mono ?_
        rintro e w8 ⟨rfl, hb8⟩
        have i2 := ints_same A7 (some ⟨g, 0, none⟩) k c7 c5 (exL l (a : Int)) w8 (HQ.out.2.1.on hb8) (HO.out.2.2.2.1.on ((HP.out.2.1.trans (HQ.out.1.mono HP.out.2.1.size)).trans (hb8.mono (Nat.le_trans HP.out.2.1.size HQ.out.1.size))))
        have k8 : Below w1.heap.size w1 w8 := (HP.out.1.trans (HQ.out.1.mono HP.out.1.size)).trans (hb8.mono (Nat.le_trans HP.out.1.size HQ.out.1.size))
        have H8 := Lib.hid (And.intro k8 (show Below w2.heap.size w2 w8 from HQ.out.2.2.trans (hb8.mono HQ.out.2.2.size)))
        clear k8 hb8
        go_wp2_with fail
        refine i2.mono ?_
        rintro e w9 ⟨rfl, hb9⟩
        have k9 : Below w1.heap.size w1 w9 := H8.out.1.trans (hb9.mono H8.out.1.size)
        have kw9 : Below w2.heap.size w2 w9 := H8.out.2.trans (hb9.mono H8.out.2.size)
        have i3 := ints_same (some ⟨gl, o, none⟩) A3 k cap c3 l w9 (h.on k9) (HW.out.2.on kw9)
        have H9 := Lib.hid k9
        clear k9 kw9 hb9
        go_wp2_with fail
        refine i3.mono ?_
        rintro e wA ⟨rfl, hbA⟩
        go_wp2
        go_ret
        exact ⟨by simp, (hb1.trans (H9.out.mono hb1.size)).trans (hbA.mono (Nat.le_trans hb1.size H9.out.size))⟩
      · have q1 : ¬ (0 ≤ i) ∨ (0 ≤ i ∧ (k : Int) - 1 ≤ i) := by unfold exB at hx; rw [HE.out] at hx; omega
        rcases q1 with q1 | q1
        · have s1 : decide (0 ≤ i) = false := decide_eq_false q1
          have p1 : i < 0 := by omega
          clear q1
          go_wp2_with (at_builtin; refine wpList_app rfl _ _ 28 rfl wr.heap.size 3 i0 (.int .i64 0) 1 8 Tryd.underlying28 hi0 hz0 hz1 hz2 rfl (by decide) none 0 0 [] rfl (World.ownsRow_nil _ _ _ _) A k cap (ints l) rfl hcur (flat_one int1_one l) (by unfold maxLen; omega) (by omega) (Nat.le_refl _) ?_; intro A5 c5 w5 ho5 hg5 hl5)
          simp only [List.nil_append, Nat.zero_add] at ho5 ⊢
          have hb5 : Below wr.heap.size wr w5 := (Below.refl _ _).grown hg5 (Nat.le_refl _) (fun p hp => by simp [Value.ownBlock] at hp)
          clear hg5 hl5 hcur
          have he : exL l i = l := by unfold exL; rw [if_neg hx]
          have kR : Below wr.heap.size wr w5 := hb5
          have kW : Below w1.heap.size w1 w5 := hwr.trans (kR.mono hwr.size)
          obtain ⟨AS, eAS⟩ : ∃ AS, AS = A5 := ⟨_, rfl⟩
          have hS0 : SeesI w5 AS k c5 (exL l i) := by rw [he, eAS]; exact own_sees ho5
          subst eAS
          clear he hx ho5 hb5 hwr
          have ho' : SeesI wr A1 (woL l i q).length c1 (woL l i q) := own_sees ho
          have hwl := wo_len l i q
          rw [HE.out] at hwl
          have hel : (exL l i).length = k := by rw [ex_len, HE.out]
          have HO := Lib.hid (And.intro ho' (And.intro kW (And.intro kR (And.intro hS0 hel))))
          clear ho' ho kW kR hS0 hel
          go_wp2_with fail
          refine (without_any (h.on HO.out.2.1) (by omega) i q hq).mono ?_
          rintro e w6 ⟨A6, c6, rfl, ho6, hb6⟩
          have k6 : Below w1.heap.size w1 w6 := HO.out.2.1.trans (hb6.mono HO.out.2.1.size)
          have ho6' : SeesI w6 A6 (woL l i q).length c6 (woL l i q) := own_sees ho6
          have HP := Lib.hid (And.intro k6 (And.intro hb6 ho6'))
          clear k6 hb6 ho6 ho6'
          go_wp2_with fail
          refine (swap_any (h.on HP.out.1) (by omega) i).mono ?_
          rintro e w7 ⟨A7, c7, rfl, ho7, hb7⟩
          rw [HO.out.2.2.2.2] at ho7 ⊢
          have ho7' : SeesI w7 A7 k c7 (exL l i) := own_sees ho7
          have i1 := ints_same A6 A1 (woL l i q).length c6 c1 (woL l i q) w7 (HP.out.2.2.on hb7) (HO.out.1.on ((HO.out.2.2.1.trans (HP.out.2.1.mono HO.out.2.2.1.size)).trans (hb7.mono (Nat.le_trans HO.out.2.2.1.size HP.out.2.1.size))))
          have HQ := Lib.hid (And.intro hb7 (And.intro ho7' (show Below w2.heap.size w2 w7 from ((hb.trans (HO.out.2.2.1.mono hb.size)).trans (HP.out.2.1.mono (Nat.le_trans hb.size HO.out.2.2.1.size))).trans (hb7.mono (Nat.le_trans hb.size (Nat.le_trans HO.out.2.2.1.size HP.out.2.1.size))))))
          clear hb7 ho7 ho7'
          obtain ⟨u, eu⟩ : ∃ u, (woL l i q).length = u := ⟨_, rfl⟩
          rw [eu] at i1 ⊢
          clear eu
          go_wp2_with fail
          refine i1.mono ?_
          rintro e w8 ⟨rfl, hb8⟩
          have i2 := ints_same A7 AS k c7 c5 (exL l i) w8 (HQ.out.2.1.on hb8) (HO.out.2.2.2.1.on ((HP.out.2.1.trans (HQ.out.1.mono HP.out.2.1.size)).trans (hb8.mono (Nat.le_trans HP.out.2.1.size HQ.out.1.size))))
          have k8 : Below w1.heap.size w1 w8 := (HP.out.1.trans (HQ.out.1.mono HP.out.1.size)).trans (hb8.mono (Nat.le_trans HP.out.1.size HQ.out.1.size))
          have H8 := Lib.hid (And.intro k8 (show Below w2.heap.size w2 w8 from HQ.out.2.2.trans (hb8.mono HQ.out.2.2.size)))
          clear k8 hb8
          go_wp2_with fail
          refine i2.mono ?_
          rintro e w9 ⟨rfl, hb9⟩
          have k9 : Below w1.heap.size w1 w9 := H8.out.1.trans (hb9.mono H8.out.1.size)
          have kw9 : Below w2.heap.size w2 w9 := H8.out.2.trans (hb9.mono H8.out.2.size)
          have i3 := ints_same A A3 k cap c3 l w9 (h.on k9) (HW.out.2.on kw9)
          have H9 := Lib.hid k9
          clear k9 kw9 hb9
          go_wp2_with fail
          refine i3.mono ?_
          rintro e wA ⟨rfl, hbA⟩
          go_wp2
          go_ret
          exact ⟨by simp, (hb1.trans (H9.out.mono hb1.size)).trans (hbA.mono (Nat.le_trans hb1.size H9.out.size))⟩
        · have s1 : decide (0 ≤ i) = true := decide_eq_true q1.1
          have s2 : decide (i < (k : Int) - 1) = false := decide_eq_false (by omega)
          have p2 : (k : Int) - 1 ≤ i := q1.2
          have p1 : 0 ≤ i := q1.1
          clear q1
          go_wp2_with (at_builtin; refine wpList_app rfl _ _ 28 rfl wr.heap.size 3 i0 (.int .i64 0) 1 8 Tryd.underlying28 hi0 hz0 hz1 hz2 rfl (by decide) none 0 0 [] rfl (World.ownsRow_nil _ _ _ _) A k cap (ints l) rfl hcur (flat_one int1_one l) (by unfold maxLen; omega) (by omega) (Nat.le_refl _) ?_; intro A5 c5 w5 ho5 hg5 hl5)
          simp only [List.nil_append, Nat.zero_add] at ho5 ⊢
          have hb5 : Below wr.heap.size wr w5 := (Below.refl _ _).grown hg5 (Nat.le_refl _) (fun p hp => by simp [Value.ownBlock] at hp)
          clear hg5 hl5 hcur
          have he : exL l i = l := by unfold exL; rw [if_neg hx]
          have kR : Below wr.heap.size wr w5 := hb5
          have kW : Below w1.heap.size w1 w5 := hwr.trans (kR.mono hwr.size)
          obtain ⟨AS, eAS⟩ : ∃ AS, AS = A5 := ⟨_, rfl⟩
          have hS0 : SeesI w5 AS k c5 (exL l i) := by rw [he, eAS]; exact own_sees ho5
          subst eAS
          clear he hx ho5 hb5 hwr
          have ho' : SeesI wr A1 (woL l i q).length c1 (woL l i q) := own_sees ho
          have hwl := wo_len l i q
          rw [HE.out] at hwl
          have hel : (exL l i).length = k := by rw [ex_len, HE.out]
          have HO := Lib.hid (And.intro ho' (And.intro kW (And.intro kR (And.intro hS0 hel))))
          clear ho' ho kW kR hS0 hel
          go_wp2_with fail
          refine (without_any (h.on HO.out.2.1) (by omega) i q hq).mono ?_
          rintro e w6 ⟨A6, c6, rfl, ho6, hb6⟩
          have k6 : Below w1.heap.size w1 w6 := HO.out.2.1.trans (hb6.mono HO.out.2.1.size)
          have ho6' : SeesI w6 A6 (woL l i q).length c6 (woL l i q) := own_sees ho6
          have HP := Lib.hid (And.intro k6 (And.intro hb6 ho6'))
          clear k6 hb6 ho6 ho6'
          go_wp2_with fail
          refine (swap_any (h.on HP.out.1) (by omega) i).mono ?_
          rintro e w7 ⟨A7, c7, rfl, ho7, hb7⟩
          rw [HO.out.2.2.2.2] at ho7 ⊢
          have ho7' : SeesI w7 A7 k c7 (exL l i) := own_sees ho7
          have i1 := ints_same A6 A1 (woL l i q).length c6 c1 (woL l i q) w7 (HP.out.2.2.on hb7) (HO.out.1.on ((HO.out.2.2.1.trans (HP.out.2.1.mono HO.out.2.2.1.size)).trans (hb7.mono (Nat.le_trans HO.out.2.2.1.size HP.out.2.1.size))))
          have HQ := Lib.hid (And.intro hb7 (And.intro ho7' (show Below w2.heap.size w2 w7 from ((hb.trans (HO.out.2.2.1.mono hb.size)).trans (HP.out.2.1.mono (Nat.le_trans hb.size HO.out.2.2.1.size))).trans (hb7.mono (Nat.le_trans hb.size (Nat.le_trans HO.out.2.2.1.size HP.out.2.1.size))))))
          clear hb7 ho7 ho7'
          obtain ⟨u, eu⟩ : ∃ u, (woL l i q).length = u := ⟨_, rfl⟩
          rw [eu] at i1 ⊢
          clear eu
          go_wp2_with fail
          refine i1.mono ?_
          rintro e w8 ⟨rfl, hb8⟩
          have i2 := ints_same A7 AS k c7 c5 (exL l i) w8 (HQ.out.2.1.on hb8) (HO.out.2.2.2.1.on ((HP.out.2.1.trans (HQ.out.1.mono HP.out.2.1.size)).trans (hb8.mono (Nat.le_trans HP.out.2.1.size HQ.out.1.size))))
          have k8 : Below w1.heap.size w1 w8 := (HP.out.1.trans (HQ.out.1.mono HP.out.1.size)).trans (hb8.mono (Nat.le_trans HP.out.1.size HQ.out.1.size))
          have H8 := Lib.hid (And.intro k8 (show Below w2.heap.size w2 w8 from HQ.out.2.2.trans (hb8.mono HQ.out.2.2.size)))
          clear k8 hb8
          go_wp2_with fail
          refine i2.mono ?_
          rintro e w9 ⟨rfl, hb9⟩
          have k9 : Below w1.heap.size w1 w9 := H8.out.1.trans (hb9.mono H8.out.1.size)
          have kw9 : Below w2.heap.size w2 w9 := H8.out.2.trans (hb9.mono H8.out.2.size)
          have i3 := ints_same A A3 k cap c3 l w9 (h.on k9) (HW.out.2.on kw9)
          have H9 := Lib.hid k9
          clear k9 kw9 hb9
          go_wp2_with fail
          refine i3.mono ?_
          rintro e wA ⟨rfl, hbA⟩
          go_wp2
          go_ret
          exact ⟨by simp, (hb1.trans (H9.out.mono hb1.size)).trans (hbA.mono (Nat.le_trans hb1.size H9.out.size))⟩
end Go.Proofs.YtcgoaallfhompaaDoor
