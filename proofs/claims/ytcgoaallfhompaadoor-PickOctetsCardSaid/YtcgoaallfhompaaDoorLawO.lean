/- PickOctets holds. Conditions: none. -/
import Derived.Test.YtcgoaallfhompaaDoorLawO0
import Derived.Test.YtcgoaallfhompaaDoorLawS
namespace Go.Proofs.YtcgoaallfhompaaDoor
open Go.RowKit Go.ChangeShapes Go.WideShapes
set_option linter.unusedSimpArgs false
set_option linter.unusedVariables false

set_option maxRecDepth 100000 in
set_option maxHeartbeats 8000000 in
theorem octets_n {w : World} {A B : Option Addr} {n cap r c0 : Nat} {l0 xs0 : List Int} (h0 : SeesI w A n cap l0) (g0 : Oct w w.heap.size B r c0 xs0) (hc : r ≤ 300) : Calls Tryd.prog 6 #[.slice A n cap, .slice B r c0] w (Trial w) := by
  obtain ⟨s, xs, hr, h9, hcut⟩ : ∃ (s : Nat) (xs : List Int), s ≤ 300 ∧ Oct w w.heap.size B s c0 xs ∧ (s = r ∧ xs = xs0) := ⟨r, xs0, hc, g0, rfl, rfl⟩
  obtain ⟨rfl, rfl⟩ := hcut
  have z0 : decide ((300 : Int) < (s : Int)) = false := decide_eq_false (by omega)
  clear g0
  go_enter Tryd.func6, Tryd.ntmps6
  go_wp2_with fail
  refine (alive_any w).mono ?_
  rintro e w1 ⟨rfl, hb1⟩
  go_wp2_with fail
  refine (few_any (h0.on hb1)).mono ?_
  rintro e w1' ⟨⟨m, rfl, h, hm⟩, rfl⟩
  clear h0
  generalize l0.take 80 = l at h
  have g1 := (h9.below hb1).more hb1.size
  have hsm := g1.small
  have hgl := g1.len
  have hl := h.len
  have hget := get_any g1 (by omega)
  have hwr := fun W (hW : Below w1.heap.size w1 W) => wrong_any ((g1.below hW).more hW.size) (by omega)
  have HE := Lib.hid (And.intro hl hgl)
  clear hl hgl
  have H1 := Lib.hid hb1
  clear hb1
  go_wp2_with fail
  refine hget.mono ?_
  rintro e w2 ⟨A2, c2, rfl, hs2, hb2⟩
  have hw2 := hwr w2 hb2
  obtain ⟨p, er, hpe⟩ : ∃ p er, wrongP xs = (p, er) := ⟨_, _, rfl⟩
  rw [hpe] at hw2 ⊢
  simp only at hw2 ⊢
  obtain ⟨G, eG⟩ : ∃ G, (gotL xs).length = G := ⟨_, rfl⟩
  rw [eG] at hs2 ⊢
  have HP := Lib.hid (And.intro hpe (And.intro eG (And.intro hs2 (And.intro hb2 (And.intro hsm g1)))))
  clear hs2 hb2 hsm g1 hget hwr
  by_cases her : er = 0
  · subst her
    obtain ⟨ok1, ok2, ok3, ok4, ok5⟩ := wrong_ok hpe
    obtain ⟨gf1, gf2, gf3⟩ := got_fine HP.out.2.2.2.2.1 hpe
    have hog := octs_got HP.out.2.2.2.2.1 hpe
    obtain ⟨q, eq⟩ : ∃ q : Nat, 2 + manyP xs = q := ⟨_, rfl⟩
    have hpq : p = (q : Int) := by omega
    subst hpq
    have hG : G ≤ 1000 := by rw [← eG, gf2]; have := HE.out.2; omega
    have hput := pput_any HP.out.2.2.1 hG
    rw [eq] at hog ok3
    have hqs : q ≤ s := by rw [← HE.out.2]; exact ok3
    have q0 : (0 : Int) ≤ (q : Int) := by omega
    have q1 : (q : Int) ≤ (s : Int) := by omega
    have q2 : (s : Int) ≤ (c0 : Int) := by have := h9.room; omega
    have hcu := cut_front B s c0 q (by have := h9.room; omega) h9.none_
    have HF := Lib.hid (And.intro gf3 (And.intro hog hqs))
    clear ok1 ok2 ok3 ok4 ok5 gf1 gf2 gf3 hog eq hpe eG hqs
    go_wp2_with fail
    refine hw2.mono ?_
    rintro e w' ⟨rfl, rfl⟩
    go_wp2_with fail
    refine hput.mono ?_
    rintro e w3 (⟨_, A3, n3, c3, rfl, ho3, hb3, _⟩ | ⟨hnf, _⟩)
    · have hb23 : Below w1.heap.size w1 w3 := HP.out.2.2.2.1.trans (hb3.mono HP.out.2.2.2.1.size)
      have t1 := oct_text (w := w3.drew) (ho3.keep fun _ _ => rfl)
      have t2 := oct_text (w := w3.drew) (((HP.out.2.2.2.2.2.below hb23).front (k := q) (by have := HF.out.2.2; omega)).keep fun _ _ => rfl)
      rw [HF.out.2.1] at t1
      generalize strOfNums (xs.take q) = tx at *
      have HC := Lib.hid hb23
      clear ho3 hb3 hb23
      go_wp2_with fail
      go_region
      have hwd : Below w1.heap.size w1 w3.drew := HC.out.drew
      clear HC t1 t2
      generalize w3.drew = wd at hwd ⊢
      have HC := Lib.hid hwd
      clear hwd
      go_wp2_with fail
      go_loop [12, 13] (fun f j => ∃ (k : Nat) (b : Bool), j = .int .i64 k ∧ k ≤ m ∧ f = .bool b ∧ b = fineB l k) (fun _ j => m - (intOf j).toNat)
      case atStart => exact ⟨0, true, rfl, Nat.zero_le _, rfl, (fineB_zero l).symm⟩
      case round =>
        obtain ⟨k, b, rfl, hk, rfl, hfb⟩ := hrel
        by_cases hlt : k < m
        · have t5 : decide ((k : Int) < (m : Int)) = true := decide_eq_true (by omega)
          obtain ⟨g, o, rfl, c1⟩ := (h.on HC.out).get hlt
          have hk1 : IntKind.i64.wrap ((k : Int) + 1) = ((k + 1 : Nat) : Int) := by rw [IntKind.wrap_i64]; omega
          have b0 : (0 : Int) ≤ (k : Int) := by omega
          have b1 : (k : Int) < (m : Int) := by omega
          have hn := fineB_next (l := l) (k := k) (by rw [HE.out.1]; exact hlt)
          obtain ⟨x, ex⟩ : ∃ x, l.getD k 0 = x := ⟨_, rfl⟩
          rw [ex] at c1 hn
          rw [← hfb] at hn
          cases b with
          | false =>
            have HX := Lib.hid hn
            clear hn hfb ex
            go_wp2
            go_round
            case rel => exact ⟨k + 1, false, by simp, by omega, rfl, by rw [HX.out]; rfl⟩
            case measure => simp [intOf]; omega
          | true =>
            by_cases z1 : 0 ≤ x
            · by_cases z2 : x ≤ 7
              · have u1 : decide (0 ≤ x) = true := decide_eq_true z1
                have u2 : decide (x ≤ 7) = true := decide_eq_true z2
                rw [u1, u2] at hn
                have HX := Lib.hid hn
                clear hn hfb ex
                go_wp2
                go_round
                case rel => exact ⟨k + 1, true, by simp, by omega, rfl, by rw [HX.out]; rfl⟩
                case measure => simp [intOf]; omega
              · have u1 : decide (0 ≤ x) = true := decide_eq_true z1
                have u2 : decide (x ≤ 7) = false := decide_eq_false z2
                have z3 : 7 < x := by omega
                rw [u1, u2] at hn
                have HX := Lib.hid hn
                clear hn hfb ex z2
                go_wp2
                go_round
                case rel => exact ⟨k + 1, false, by simp, by omega, rfl, by rw [HX.out]; rfl⟩
                case measure => simp [intOf]; omega
            · have u1 : decide (0 ≤ x) = false := decide_eq_false z1
              have z3 : x < 0 := by omega
              rw [u1] at hn
              have HX := Lib.hid hn
              clear hn hfb ex z1
              go_wp2
              go_round
              case rel => exact ⟨k + 1, false, by simp, by omega, rfl, by rw [HX.out]; rfl⟩
              case measure => simp [intOf]; omega
        · obtain rfl : k = m := by omega
          have t5 : decide ((k : Int) < (k : Int)) = false := decide_eq_false (by omega)
          have hfa : b = decide (Fine l) := by rw [hfb, ← fineB_all]; congr 1; exact HE.out.1.symm
          have hput2 := pput_any (h.on HC.out) (by omega)
          clear hfb
          go_wp2_with fail
          refine hput2.mono ?_
          rintro e w4 (⟨hfi, A4, n4, c4, rfl, ho4, hb4, hw4⟩ | ⟨hnf, rfl, hb4⟩)
          · rw [decide_eq_true hfi] at hfa
            subst hfa
            obtain ⟨pg1, pg2⟩ := put_got hfi (by rw [HE.out.1]; omega) HP.out.2.2.2.2.1
            have hn4 : n4 = 2 + k := by have := ho4.len; rw [← this]; unfold octP; rw [List.length_append, digs_len, HE.out.1]
            subst hn4
            have k4 : Below w1.heap.size w1 w4 := HC.out.trans (hb4.mono HC.out.size)
            have hx4 := HP.out.2.2.2.2.2.below k4
            have hw4' : w4.ownsRow w1.heap.size 5 1 (.slice A4 (2 + k) c4) (2 + k) (nums (octP l)) := own_base hw4 HC.out.size
            have hss := oct_small hfi
            have HZ := Lib.hid (And.intro pg1 (And.intro pg2 (And.intro hss k4)))
            clear pg1 pg2 hss ho4 hw4 hb4 hput2
            go_wp2_with (at_builtin; refine wpList_append_octets rfl _ _ rfl w1.heap.size (.slice A4 (2 + k) c4) (2 + k) (octP l) rfl hw4' w1.heap.size B s c0 xs rfl hx4 (by omega) k4.size ?_; intro v5 w5 hv5 hg5)
            obtain ⟨A5, c5, rfl, h5⟩ := oct_of hv5 (HZ.out.2.2.1.app HP.out.2.2.2.2.1)
            have k5 : Below w1.heap.size w1 w5 := HZ.out.2.2.2.grown hg5 HZ.out.2.2.2.size (fun q hq => (hw4'.lt q hq).1)
            have hg := get_any h5 (by omega)
            unfold GetsP at hg
            rw [HZ.out.1, HZ.out.2.1, HE.out.1] at hg
            simp only at hg
            rw [show ((2 : Int) + (k : Int)) = ((2 + k : Nat) : Int) by omega] at hg
            have HY := Lib.hid k5
            clear h5 k5 hv5 hg5 hw4' hx4
            refine hg.mono ?_
            rintro e w6 ⟨A6, c6, rfl, hs6, hb6⟩
            have k6 : Below w1.heap.size w1 w6 := HY.out.trans (hb6.mono HY.out.size)
            have hi := ints_same A6 A k c6 cap l w6 hs6 (h.on k6)
            have HV := Lib.hid k6
            clear k6 hs6 hb6
            go_wp2_with fail
            refine hi.mono ?_
            rintro e w7 ⟨rfl, hb7⟩
            go_wp2
            go_ret
            refine ⟨?_, (H1.out.trans (HV.out.mono H1.out.size)).trans (hb7.mono (Nat.le_trans H1.out.size HV.out.size))⟩
            first
              | rfl
              | simp
          · rw [decide_eq_false hnf] at hfa
            subst hfa
            go_wp2
            go_ret
            exact ⟨by simp, (H1.out.trans (HC.out.mono H1.out.size)).trans (hb4.mono (Nat.le_trans H1.out.size HC.out.size))⟩
    · exact absurd HF.out.1 hnf
  · have hg0 : G = 0 := by rw [← eG]; unfold gotL; rw [hpe, if_neg her]; rfl
    subst hg0
    have e0 : (er == 0) = false := by simp [her]
    have e1 : (er != 0) = true := by simp [her]
    have HC := Lib.hid (HP.out.2.2.2.1)
    have w3 := w2
    clear hpe eG her w3
    go_wp2_with fail
    refine hw2.mono ?_
    rintro e w3 ⟨rfl, rfl⟩
    go_wp2_with fail
    go_loop [12, 13] (fun f j => ∃ (k : Nat) (b : Bool), j = .int .i64 k ∧ k ≤ m ∧ f = .bool b ∧ b = fineB l k) (fun _ j => m - (intOf j).toNat)
    case atStart => exact ⟨0, true, rfl, Nat.zero_le _, rfl, (fineB_zero l).symm⟩
    case round =>
      obtain ⟨k, b, rfl, hk, rfl, hfb⟩ := hrel
      by_cases hlt : k < m
      · have t5 : decide ((k : Int) < (m : Int)) = true := decide_eq_true (by omega)
        obtain ⟨g, o, rfl, c1⟩ := (h.on HC.out).get hlt
        have hk1 : IntKind.i64.wrap ((k : Int) + 1) = ((k + 1 : Nat) : Int) := by rw [IntKind.wrap_i64]; omega
        have b0 : (0 : Int) ≤ (k : Int) := by omega
        have b1 : (k : Int) < (m : Int) := by omega
        have hn := fineB_next (l := l) (k := k) (by rw [HE.out.1]; exact hlt)
        obtain ⟨x, ex⟩ : ∃ x, l.getD k 0 = x := ⟨_, rfl⟩
        rw [ex] at c1 hn
        rw [← hfb] at hn
        cases b with
        | false =>
          have HX := Lib.hid hn
          clear hn hfb ex
          go_wp2
          go_round
          case rel => exact ⟨k + 1, false, by simp, by omega, rfl, by rw [HX.out]; rfl⟩
          case measure => simp [intOf]; omega
        | true =>
          by_cases z1 : 0 ≤ x
          · by_cases z2 : x ≤ 7
            · have u1 : decide (0 ≤ x) = true := decide_eq_true z1
              have u2 : decide (x ≤ 7) = true := decide_eq_true z2
              rw [u1, u2] at hn
              have HX := Lib.hid hn
              clear hn hfb ex
              go_wp2
              go_round
              case rel => exact ⟨k + 1, true, by simp, by omega, rfl, by rw [HX.out]; rfl⟩
              case measure => simp [intOf]; omega
            · have u1 : decide (0 ≤ x) = true := decide_eq_true z1
              have u2 : decide (x ≤ 7) = false := decide_eq_false z2
              have z3 : 7 < x := by omega
              rw [u1, u2] at hn
              have HX := Lib.hid hn
              clear hn hfb ex z2
              go_wp2
              go_round
              case rel => exact ⟨k + 1, false, by simp, by omega, rfl, by rw [HX.out]; rfl⟩
              case measure => simp [intOf]; omega
          · have u1 : decide (0 ≤ x) = false := decide_eq_false z1
            have z3 : x < 0 := by omega
            rw [u1] at hn
            have HX := Lib.hid hn
            clear hn hfb ex z1
            go_wp2
            go_round
            case rel => exact ⟨k + 1, false, by simp, by omega, rfl, by rw [HX.out]; rfl⟩
            case measure => simp [intOf]; omega
      · obtain rfl : k = m := by omega
        have t5 : decide ((k : Int) < (k : Int)) = false := decide_eq_false (by omega)
        have hfa : b = decide (Fine l) := by rw [hfb, ← fineB_all]; congr 1; exact HE.out.1.symm
        have hput2 := pput_any (h.on HC.out) (by omega)
        clear hfb
        go_wp2_with fail
        refine hput2.mono ?_
        rintro e w4 (⟨hfi, A4, n4, c4, rfl, ho4, hb4, hw4⟩ | ⟨hnf, rfl, hb4⟩)
        · rw [decide_eq_true hfi] at hfa
          subst hfa
          obtain ⟨pg1, pg2⟩ := put_got hfi (by rw [HE.out.1]; omega) HP.out.2.2.2.2.1
          have hn4 : n4 = 2 + k := by have := ho4.len; rw [← this]; unfold octP; rw [List.length_append, digs_len, HE.out.1]
          subst hn4
          have k4 : Below w1.heap.size w1 w4 := HC.out.trans (hb4.mono HC.out.size)
          have hx4 := HP.out.2.2.2.2.2.below k4
          have hw4' : w4.ownsRow w1.heap.size 5 1 (.slice A4 (2 + k) c4) (2 + k) (nums (octP l)) := own_base hw4 HC.out.size
          have hss := oct_small hfi
          have HZ := Lib.hid (And.intro pg1 (And.intro pg2 (And.intro hss k4)))
          clear pg1 pg2 hss ho4 hw4 hb4 hput2
          go_wp2_with (at_builtin; refine wpList_append_octets rfl _ _ rfl w1.heap.size (.slice A4 (2 + k) c4) (2 + k) (octP l) rfl hw4' w1.heap.size B s c0 xs rfl hx4 (by omega) k4.size ?_; intro v5 w5 hv5 hg5)
          obtain ⟨A5, c5, rfl, h5⟩ := oct_of hv5 (HZ.out.2.2.1.app HP.out.2.2.2.2.1)
          have k5 : Below w1.heap.size w1 w5 := HZ.out.2.2.2.grown hg5 HZ.out.2.2.2.size (fun q hq => (hw4'.lt q hq).1)
          have hg := get_any h5 (by omega)
          unfold GetsP at hg
          rw [HZ.out.1, HZ.out.2.1, HE.out.1] at hg
          simp only at hg
          rw [show ((2 : Int) + (k : Int)) = ((2 + k : Nat) : Int) by omega] at hg
          have HY := Lib.hid k5
          clear h5 k5 hv5 hg5 hw4' hx4
          refine hg.mono ?_
          rintro e w6 ⟨A6, c6, rfl, hs6, hb6⟩
          have k6 : Below w1.heap.size w1 w6 := HY.out.trans (hb6.mono HY.out.size)
          have hi := ints_same A6 A k c6 cap l w6 hs6 (h.on k6)
          have HV := Lib.hid k6
          clear k6 hs6 hb6
          go_wp2_with fail
          refine hi.mono ?_
          rintro e w7 ⟨rfl, hb7⟩
          go_wp2
          go_ret
          refine ⟨?_, (H1.out.trans (HV.out.mono H1.out.size)).trans (hb7.mono (Nat.le_trans H1.out.size HV.out.size))⟩
          first
            | rfl
            | simp
        · rw [decide_eq_false hnf] at hfa
          subst hfa
          go_wp2
          go_ret
          exact ⟨by simp, (H1.out.trans (HC.out.mono H1.out.size)).trans (hb4.mono (Nat.le_trans H1.out.size HC.out.size))⟩
set_option maxRecDepth 100000 in
set_option maxHeartbeats 8000000 in
theorem octets_c {w : World} {A B : Option Addr} {n cap r c0 : Nat} {l0 xs0 : List Int} (h0 : SeesI w A n cap l0) (g0 : Oct w w.heap.size B r c0 xs0) (hc : 300 < r) : Calls Tryd.prog 6 #[.slice A n cap, .slice B r c0] w (Trial w) := by
  obtain ⟨s, xs, hr, h9, hcut⟩ : ∃ (s : Nat) (xs : List Int), s ≤ 300 ∧ Oct w w.heap.size B s c0 xs ∧ s = 300 := ⟨300, xs0.take 300, Nat.le_refl _, g0.front (by omega), rfl⟩
  have z0 : decide ((300 : Int) < (r : Int)) = true := decide_eq_true (by omega)
  have hcq := cut_front B r c0 s (by have := g0.room; omega) g0.none_
  have hcq' : ∀ W : World, (Instr.slice 23 (.slice B r c0) none (some (.int .i64 300)) none).run Tryd.prog W = .ok (.slice B s c0) W := by rw [hcut] at hcq ⊢; exact hcq
  have HCU := Lib.hid hcut
  clear hcut hcq g0
  go_enter Tryd.func6, Tryd.ntmps6
  go_wp2_with fail
  refine (alive_any w).mono ?_
  rintro e w1 ⟨rfl, hb1⟩
  go_wp2_with fail
  refine (few_any (h0.on hb1)).mono ?_
  rintro e w1' ⟨⟨m, rfl, h, hm⟩, rfl⟩
  clear h0
  generalize l0.take 80 = l at h
  have g1 := (h9.below hb1).more hb1.size
  have hsm := g1.small
  have hgl := g1.len
  have hl := h.len
  have hget := get_any g1 (by omega)
  have hwr := fun W (hW : Below w1.heap.size w1 W) => wrong_any ((g1.below hW).more hW.size) (by omega)
  have HE := Lib.hid (And.intro hl hgl)
  clear hl hgl
  have H1 := Lib.hid hb1
  clear hb1
  go_wp2_with fail
  refine hget.mono ?_
  rintro e w2 ⟨A2, c2, rfl, hs2, hb2⟩
  have hw2 := hwr w2 hb2
  obtain ⟨p, er, hpe⟩ : ∃ p er, wrongP xs = (p, er) := ⟨_, _, rfl⟩
  rw [hpe] at hw2 ⊢
  simp only at hw2 ⊢
  obtain ⟨G, eG⟩ : ∃ G, (gotL xs).length = G := ⟨_, rfl⟩
  rw [eG] at hs2 ⊢
  have HP := Lib.hid (And.intro hpe (And.intro eG (And.intro hs2 (And.intro hb2 (And.intro hsm g1)))))
  clear hs2 hb2 hsm g1 hget hwr
  by_cases her : er = 0
  · subst her
    obtain ⟨ok1, ok2, ok3, ok4, ok5⟩ := wrong_ok hpe
    obtain ⟨gf1, gf2, gf3⟩ := got_fine HP.out.2.2.2.2.1 hpe
    have hog := octs_got HP.out.2.2.2.2.1 hpe
    obtain ⟨q, eq⟩ : ∃ q : Nat, 2 + manyP xs = q := ⟨_, rfl⟩
    have hpq : p = (q : Int) := by omega
    subst hpq
    have hG : G ≤ 1000 := by rw [← eG, gf2]; have := HE.out.2; omega
    have hput := pput_any HP.out.2.2.1 hG
    rw [eq] at hog ok3
    have hqs : q ≤ s := by rw [← HE.out.2]; exact ok3
    have q0 : (0 : Int) ≤ (q : Int) := by omega
    have q1 : (q : Int) ≤ (s : Int) := by omega
    have q2 : (s : Int) ≤ (c0 : Int) := by have := h9.room; omega
    have hcu := cut_front B s c0 q (by have := h9.room; omega) h9.none_
    have HF := Lib.hid (And.intro gf3 (And.intro hog hqs))
    clear ok1 ok2 ok3 ok4 ok5 gf1 gf2 gf3 hog eq hpe eG hqs
    go_wp2_with fail
    refine hw2.mono ?_
    rintro e w' ⟨rfl, rfl⟩
    go_wp2_with fail
    refine hput.mono ?_
    rintro e w3 (⟨_, A3, n3, c3, rfl, ho3, hb3, _⟩ | ⟨hnf, _⟩)
    · have hb23 : Below w1.heap.size w1 w3 := HP.out.2.2.2.1.trans (hb3.mono HP.out.2.2.2.1.size)
      have t1 := oct_text (w := w3.drew) (ho3.keep fun _ _ => rfl)
      have t2 := oct_text (w := w3.drew) (((HP.out.2.2.2.2.2.below hb23).front (k := q) (by have := HF.out.2.2; omega)).keep fun _ _ => rfl)
      rw [HF.out.2.1] at t1
      generalize strOfNums (xs.take q) = tx at *
      have HC := Lib.hid hb23
      clear ho3 hb3 hb23
      go_wp2_with fail
      go_region
      have hwd : Below w1.heap.size w1 w3.drew := HC.out.drew
      clear HC t1 t2
      generalize w3.drew = wd at hwd ⊢
      have HC := Lib.hid hwd
      clear hwd
      go_wp2_with fail
      go_loop [12, 13] (fun f j => ∃ (k : Nat) (b : Bool), j = .int .i64 k ∧ k ≤ m ∧ f = .bool b ∧ b = fineB l k) (fun _ j => m - (intOf j).toNat)
      case atStart => exact ⟨0, true, rfl, Nat.zero_le _, rfl, (fineB_zero l).symm⟩
      case round =>
        obtain ⟨k, b, rfl, hk, rfl, hfb⟩ := hrel
        by_cases hlt : k < m
        · have t5 : decide ((k : Int) < (m : Int)) = true := decide_eq_true (by omega)
          obtain ⟨g, o, rfl, c1⟩ := (h.on HC.out).get hlt
          have hk1 : IntKind.i64.wrap ((k : Int) + 1) = ((k + 1 : Nat) : Int) := by rw [IntKind.wrap_i64]; omega
          have b0 : (0 : Int) ≤ (k : Int) := by omega
          have b1 : (k : Int) < (m : Int) := by omega
          have hn := fineB_next (l := l) (k := k) (by rw [HE.out.1]; exact hlt)
          obtain ⟨x, ex⟩ : ∃ x, l.getD k 0 = x := ⟨_, rfl⟩
          rw [ex] at c1 hn
          rw [← hfb] at hn
          cases b with
          | false =>
            have HX := Lib.hid hn
            clear hn hfb ex
            go_wp2
            go_round
            case rel => exact ⟨k + 1, false, by simp, by omega, rfl, by rw [HX.out]; rfl⟩
            case measure => simp [intOf]; omega
          | true =>
            by_cases z1 : 0 ≤ x
            · by_cases z2 : x ≤ 7
              · have u1 : decide (0 ≤ x) = true := decide_eq_true z1
                have u2 : decide (x ≤ 7) = true := decide_eq_true z2
                rw [u1, u2] at hn
                have HX := Lib.hid hn
                clear hn hfb ex
                go_wp2
                go_round
                case rel => exact ⟨k + 1, true, by simp, by omega, rfl, by rw [HX.out]; rfl⟩
                case measure => simp [intOf]; omega
              · have u1 : decide (0 ≤ x) = true := decide_eq_true z1
                have u2 : decide (x ≤ 7) = false := decide_eq_false z2
                have z3 : 7 < x := by omega
                rw [u1, u2] at hn
                have HX := Lib.hid hn
                clear hn hfb ex z2
                go_wp2
                go_round
                case rel => exact ⟨k + 1, false, by simp, by omega, rfl, by rw [HX.out]; rfl⟩
                case measure => simp [intOf]; omega
            · have u1 : decide (0 ≤ x) = false := decide_eq_false z1
              have z3 : x < 0 := by omega
              rw [u1] at hn
              have HX := Lib.hid hn
              clear hn hfb ex z1
              go_wp2
              go_round
              case rel => exact ⟨k + 1, false, by simp, by omega, rfl, by rw [HX.out]; rfl⟩
              case measure => simp [intOf]; omega
        · obtain rfl : k = m := by omega
          have t5 : decide ((k : Int) < (k : Int)) = false := decide_eq_false (by omega)
          have hfa : b = decide (Fine l) := by rw [hfb, ← fineB_all]; congr 1; exact HE.out.1.symm
          have hput2 := pput_any (h.on HC.out) (by omega)
          clear hfb
          go_wp2_with fail
          refine hput2.mono ?_
          rintro e w4 (⟨hfi, A4, n4, c4, rfl, ho4, hb4, hw4⟩ | ⟨hnf, rfl, hb4⟩)
          · rw [decide_eq_true hfi] at hfa
            subst hfa
            obtain ⟨pg1, pg2⟩ := put_got hfi (by rw [HE.out.1]; omega) HP.out.2.2.2.2.1
            have hn4 : n4 = 2 + k := by have := ho4.len; rw [← this]; unfold octP; rw [List.length_append, digs_len, HE.out.1]
            subst hn4
            have k4 : Below w1.heap.size w1 w4 := HC.out.trans (hb4.mono HC.out.size)
            have hx4 := HP.out.2.2.2.2.2.below k4
            have hw4' : w4.ownsRow w1.heap.size 5 1 (.slice A4 (2 + k) c4) (2 + k) (nums (octP l)) := own_base hw4 HC.out.size
            have hss := oct_small hfi
            have HZ := Lib.hid (And.intro pg1 (And.intro pg2 (And.intro hss k4)))
            clear pg1 pg2 hss ho4 hw4 hb4 hput2
            go_wp2_with (at_builtin; refine wpList_append_octets rfl _ _ rfl w1.heap.size (.slice A4 (2 + k) c4) (2 + k) (octP l) rfl hw4' w1.heap.size B s c0 xs rfl hx4 (by omega) k4.size ?_; intro v5 w5 hv5 hg5)
            obtain ⟨A5, c5, rfl, h5⟩ := oct_of hv5 (HZ.out.2.2.1.app HP.out.2.2.2.2.1)
            have k5 : Below w1.heap.size w1 w5 := HZ.out.2.2.2.grown hg5 HZ.out.2.2.2.size (fun q hq => (hw4'.lt q hq).1)
            have hg := get_any h5 (by omega)
            unfold GetsP at hg
            rw [HZ.out.1, HZ.out.2.1, HE.out.1] at hg
            simp only at hg
            rw [show ((2 : Int) + (k : Int)) = ((2 + k : Nat) : Int) by omega] at hg
            have HY := Lib.hid k5
            clear h5 k5 hv5 hg5 hw4' hx4
            refine hg.mono ?_
            rintro e w6 ⟨A6, c6, rfl, hs6, hb6⟩
            have k6 : Below w1.heap.size w1 w6 := HY.out.trans (hb6.mono HY.out.size)
            have hi := ints_same A6 A k c6 cap l w6 hs6 (h.on k6)
            have HV := Lib.hid k6
            clear k6 hs6 hb6
            go_wp2_with fail
            refine hi.mono ?_
            rintro e w7 ⟨rfl, hb7⟩
            go_wp2
            go_ret
            refine ⟨?_, (H1.out.trans (HV.out.mono H1.out.size)).trans (hb7.mono (Nat.le_trans H1.out.size HV.out.size))⟩
            first
              | rfl
              | simp
          · rw [decide_eq_false hnf] at hfa
            subst hfa
            go_wp2
            go_ret
            exact ⟨by simp, (H1.out.trans (HC.out.mono H1.out.size)).trans (hb4.mono (Nat.le_trans H1.out.size HC.out.size))⟩
    · exact absurd HF.out.1 hnf
  · have hg0 : G = 0 := by rw [← eG]; unfold gotL; rw [hpe, if_neg her]; rfl
    subst hg0
    have e0 : (er == 0) = false := by simp [her]
    have e1 : (er != 0) = true := by simp [her]
    have HC := Lib.hid (HP.out.2.2.2.1)
    have w3 := w2
    clear hpe eG her w3
    go_wp2_with fail
    refine hw2.mono ?_
    rintro e w3 ⟨rfl, rfl⟩
    go_wp2_with fail
    go_loop [12, 13] (fun f j => ∃ (k : Nat) (b : Bool), j = .int .i64 k ∧ k ≤ m ∧ f = .bool b ∧ b = fineB l k) (fun _ j => m - (intOf j).toNat)
    case atStart => exact ⟨0, true, rfl, Nat.zero_le _, rfl, (fineB_zero l).symm⟩
    case round =>
      obtain ⟨k, b, rfl, hk, rfl, hfb⟩ := hrel
      by_cases hlt : k < m
      · have t5 : decide ((k : Int) < (m : Int)) = true := decide_eq_true (by omega)
        obtain ⟨g, o, rfl, c1⟩ := (h.on HC.out).get hlt
        have hk1 : IntKind.i64.wrap ((k : Int) + 1) = ((k + 1 : Nat) : Int) := by rw [IntKind.wrap_i64]; omega
        have b0 : (0 : Int) ≤ (k : Int) := by omega
        have b1 : (k : Int) < (m : Int) := by omega
        have hn := fineB_next (l := l) (k := k) (by rw [HE.out.1]; exact hlt)
        obtain ⟨x, ex⟩ : ∃ x, l.getD k 0 = x := ⟨_, rfl⟩
        rw [ex] at c1 hn
        rw [← hfb] at hn
        cases b with
        | false =>
          have HX := Lib.hid hn
          clear hn hfb ex
          go_wp2
          go_round
          case rel => exact ⟨k + 1, false, by simp, by omega, rfl, by rw [HX.out]; rfl⟩
          case measure => simp [intOf]; omega
        | true =>
          by_cases z1 : 0 ≤ x
          · by_cases z2 : x ≤ 7
            · have u1 : decide (0 ≤ x) = true := decide_eq_true z1
              have u2 : decide (x ≤ 7) = true := decide_eq_true z2
              rw [u1, u2] at hn
              have HX := Lib.hid hn
              clear hn hfb ex
              go_wp2
              go_round
              case rel => exact ⟨k + 1, true, by simp, by omega, rfl, by rw [HX.out]; rfl⟩
              case measure => simp [intOf]; omega
            · have u1 : decide (0 ≤ x) = true := decide_eq_true z1
              have u2 : decide (x ≤ 7) = false := decide_eq_false z2
              have z3 : 7 < x := by omega
              rw [u1, u2] at hn
              have HX := Lib.hid hn
              clear hn hfb ex z2
              go_wp2
              go_round
              case rel => exact ⟨k + 1, false, by simp, by omega, rfl, by rw [HX.out]; rfl⟩
              case measure => simp [intOf]; omega
          · have u1 : decide (0 ≤ x) = false := decide_eq_false z1
            have z3 : x < 0 := by omega
            rw [u1] at hn
            have HX := Lib.hid hn
            clear hn hfb ex z1
            go_wp2
            go_round
            case rel => exact ⟨k + 1, false, by simp, by omega, rfl, by rw [HX.out]; rfl⟩
            case measure => simp [intOf]; omega
      · obtain rfl : k = m := by omega
        have t5 : decide ((k : Int) < (k : Int)) = false := decide_eq_false (by omega)
        have hfa : b = decide (Fine l) := by rw [hfb, ← fineB_all]; congr 1; exact HE.out.1.symm
        have hput2 := pput_any (h.on HC.out) (by omega)
        clear hfb
        go_wp2_with fail
        refine hput2.mono ?_
        rintro e w4 (⟨hfi, A4, n4, c4, rfl, ho4, hb4, hw4⟩ | ⟨hnf, rfl, hb4⟩)
        · rw [decide_eq_true hfi] at hfa
          subst hfa
          obtain ⟨pg1, pg2⟩ := put_got hfi (by rw [HE.out.1]; omega) HP.out.2.2.2.2.1
          have hn4 : n4 = 2 + k := by have := ho4.len; rw [← this]; unfold octP; rw [List.length_append, digs_len, HE.out.1]
          subst hn4
          have k4 : Below w1.heap.size w1 w4 := HC.out.trans (hb4.mono HC.out.size)
          have hx4 := HP.out.2.2.2.2.2.below k4
          have hw4' : w4.ownsRow w1.heap.size 5 1 (.slice A4 (2 + k) c4) (2 + k) (nums (octP l)) := own_base hw4 HC.out.size
          have hss := oct_small hfi
          have HZ := Lib.hid (And.intro pg1 (And.intro pg2 (And.intro hss k4)))
          clear pg1 pg2 hss ho4 hw4 hb4 hput2
          go_wp2_with (at_builtin; refine wpList_append_octets rfl _ _ rfl w1.heap.size (.slice A4 (2 + k) c4) (2 + k) (octP l) rfl hw4' w1.heap.size B s c0 xs rfl hx4 (by omega) k4.size ?_; intro v5 w5 hv5 hg5)
          obtain ⟨A5, c5, rfl, h5⟩ := oct_of hv5 (HZ.out.2.2.1.app HP.out.2.2.2.2.1)
          have k5 : Below w1.heap.size w1 w5 := HZ.out.2.2.2.grown hg5 HZ.out.2.2.2.size (fun q hq => (hw4'.lt q hq).1)
          have hg := get_any h5 (by omega)
          unfold GetsP at hg
          rw [HZ.out.1, HZ.out.2.1, HE.out.1] at hg
          simp only at hg
          rw [show ((2 : Int) + (k : Int)) = ((2 + k : Nat) : Int) by omega] at hg
          have HY := Lib.hid k5
          clear h5 k5 hv5 hg5 hw4' hx4
          refine hg.mono ?_
          rintro e w6 ⟨A6, c6, rfl, hs6, hb6⟩
          have k6 : Below w1.heap.size w1 w6 := HY.out.trans (hb6.mono HY.out.size)
          have hi := ints_same A6 A k c6 cap l w6 hs6 (h.on k6)
          have HV := Lib.hid k6
          clear k6 hs6 hb6
          go_wp2_with fail
          refine hi.mono ?_
          rintro e w7 ⟨rfl, hb7⟩
          go_wp2
          go_ret
          refine ⟨?_, (H1.out.trans (HV.out.mono H1.out.size)).trans (hb7.mono (Nat.le_trans H1.out.size HV.out.size))⟩
          first
            | rfl
            | simp
        · rw [decide_eq_false hnf] at hfa
          subst hfa
          go_wp2
          go_ret
          exact ⟨by simp, (H1.out.trans (HC.out.mono H1.out.size)).trans (hb4.mono (Nat.le_trans H1.out.size HC.out.size))⟩
theorem octets_any {w : World} {A B : Option Addr} {n cap r c0 : Nat} {l0 xs0 : List Int} (h0 : SeesI w A n cap l0) (g0 : Oct w w.heap.size B r c0 xs0) : Calls Tryd.prog 6 #[.slice A n cap, .slice B r c0] w (Trial w) := by
  by_cases hc : r ≤ 300
  · exact octets_n h0 g0 hc
  · exact octets_c h0 g0 (by omega)
end Go.Proofs.YtcgoaallfhompaaDoor
