/- The walk of ConfBack. Conditions: the variables lie as they are laid. -/
import Derived.Test.YtmkdmnaonddghaaGreatDoorAlive
namespace Go.Proofs.YtmkdmnaonddghaaGreatDoor
open Go.RowKit Nine

theorem dig_zero (n : Int) : dig n 0 = n % 256 := by simp [dig]
/-- What may be is the same behind its octets. -/
theorem oct_back {c : Cfg} {a : Ask} (hc : okC c = true) (ha : okA a = true) (hs : Small (octC c a)) : wrongL (octC c a) = (10, 0) ∧ cfgOf (octC c a) = c ∧ askOf (octC c a) = a := by
  obtain ⟨s, o, t, f, d⟩ := c
  obtain ⟨m, b, st⟩ := a
  simp only [okC, okA, Bool.and_eq_true, inB_iff] at hc ha
  obtain ⟨⟨s0, s1⟩, ⟨o0, o1⟩, ⟨t0, t1⟩, ⟨f0, f1⟩, ⟨d0, d1⟩⟩ := hc
  obtain ⟨⟨m0, m1⟩, ⟨b0, b1⟩⟩ := ha
  have e : octC ⟨s, o, t, f, d⟩ ⟨m, b, st⟩ = [s, o, t, f, d, m, b / 65536 % 256, b / 256 % 256, b % 256, flagI st] := by
    simp only [octC, digs, dig, List.cons_append, List.nil_append]
    rw [show s % 256 = s by omega, show o % 256 = o by omega, show t % 256 = t by omega, show f % 256 = f by omega, show d % 256 = d by omega, show m % 256 = m by omega]
    simp
  rw [e] at hs ⊢
  obtain ⟨fl, efl⟩ : ∃ x, flagI st = x := ⟨_, rfl⟩
  have hfl : 0 ≤ fl ∧ fl ≤ 1 ∧ decide (fl = 1) = st := by rw [← efl]; cases st <;> simp [flagI]
  rw [efl] at hs ⊢
  obtain ⟨hv, -⟩ := vAt_three hs (show 9 ≤ ([s, o, t, f, d, m, b / 65536 % 256, b / 256 % 256, b % 256, fl] : List Int).length by simp)
  have hvb : vAt [s, o, t, f, d, m, b / 65536 % 256, b / 256 % 256, b % 256, fl] 6 3 = b := by
    rw [hv]
    show (b / 65536 % 256 * 256 + b / 256 % 256) * 256 + b % 256 = b
    omega
  have hA : ∀ k, k < 6 → badAt [s, o, t, f, d, m, b / 65536 % 256, b / 256 % 256, b % 256, fl] k = none := by
    intro k hk
    unfold badAt
    rw [if_neg (by simp; omega), if_pos]
    rcases (by omega : k = 0 ∨ k = 1 ∨ k = 2 ∨ k = 3 ∨ k = 4 ∨ k = 5) with rfl | rfl | rfl | rfl | rfl | rfl
    · exact (inB_iff _ _ _).2 ⟨s0, s1⟩
    · exact (inB_iff _ _ _).2 ⟨o0, o1⟩
    · exact (inB_iff _ _ _).2 ⟨t0, t1⟩
    · exact (inB_iff _ _ _).2 ⟨f0, f1⟩
    · exact (inB_iff _ _ _).2 ⟨d0, d1⟩
    · exact (inB_iff _ _ _).2 ⟨m0, m1⟩
  have hK : ∀ k, k ≤ 6 → badK [s, o, t, f, d, m, b / 65536 % 256, b / 256 % 256, b % 256, fl] k = none := by
    intro k
    induction k with
    | zero => intro _; rfl
    | succ k ih => intro hk; exact badK_none (ih (by omega)) (hA k (by omega))
  refine ⟨?_, ?_, ?_⟩
  · rw [wrong_rest (hK 6 (Nat.le_refl _))]
    unfold restL14
    rw [hvb, if_neg (by simp), if_neg (by omega), if_neg, if_neg (by simp)]
    intro h
    rcases h with h | h
    · simp at h
    · have : ([s, o, t, f, d, m, b / 65536 % 256, b / 256 % 256, b % 256, fl] : List Int).getD 9 0 = fl := rfl
      omega
  · rfl
  · unfold askOf
    rw [hvb]
    show (⟨m, b, decide (fl = 1)⟩ : Ask) = _
    rw [hfl.2.2]
/-- Blanks around it. -/
def padL : Nat → List UInt8 → List UInt8
  | 0, l => l
  | j + 1, l => 32 :: (padL j l ++ [32])
theorem padL_len : ∀ (j : Nat) (l : List UInt8), (padL j l).length = l.length + 2 * j
  | 0, _ => by simp [padL]
  | j + 1, l => by
    simp only [padL, List.length_cons, List.length_append, padL_len j l, List.length_nil]
    omega
theorem padL_words : ∀ (j : Nat) (l : List UInt8), wordsL (padL j l) = wordsL l
  | 0, _ => rfl
  | j + 1, l => by
    show wordsL (32 :: (padL j l ++ [32])) = _
    rw [words_ahead, words_pad, padL_words j l]
theorem padL_txt (j : Nat) (l : List UInt8) : (⟨#[32]⟩ : ByteArray) ++ txt (padL j l) ++ (⟨#[32]⟩ : ByteArray) = txt (padL (j + 1) l) := by
  have e : (⟨#[32]⟩ : ByteArray) = txt [32] := rfl
  rw [e, txt_app, txt_app]
  simp [padL]
theorem join_small (m : Nat) : ∀ (l : List (List UInt8)), (∀ x ∈ l, x.length ≤ m) → (joinL l).length ≤ (m + 1) * l.length
  | [], _ => by simp [joinL]
  | [x], h => by have := h x (by simp); simp [joinL]; omega
  | x :: y :: r, h => by
    have h1 := h x (by simp)
    have h2 := join_small m (y :: r) fun z hz => h z (List.mem_cons_of_mem _ hz)
    simp only [joinL, List.length_append, List.length_cons, Nat.mul_add] at h2 ⊢
    omega
theorem lineO_short {c : Cfg} {a : Ask} (hc : okC c = true) (ha : okA a = true) : (lineO c a).length ≤ 176 := by
  obtain ⟨i, p, m, hp⟩ := parts_of hc ha
  exact join_small 21 _ (lineW_short hp)
theorem two_blk (w : World) (A B : Array Value) (a b : Nat) (W : World) (hW : W = (w.alloc (.cells A a)).alloc (.cells B b)) : Blk W w.heap.size a A ∧ Blk W (w.heap.size + 1) b B ∧ Below w.heap.size w W := by
  subst hW
  exact ⟨Blk.below (heap_alloc_new w _) ((Below.refl _ _).alloc (Nat.le_refl _) _) (by simp), heap_alloc2_new w _ _, ((Below.refl _ w).alloc (Nat.le_refl _) _).alloc (by simp) _⟩
set_option maxRecDepth 100000 in
set_option maxHeartbeats 2000000 in
theorem back_any (c : Cfg) (a : Ask) (n : Int) (h0 : 0 ≤ n) (h255 : n ≤ 255) (w : World) (hL : Laid w) : Calls Tryz.prog 3 #[.agg #[.int .i64 c.s, .int .i64 c.o, .int .i64 c.t, .int .i64 c.f, .int .i64 c.d], .agg #[.int .i64 a.m, .int .i64 a.b, .bool a.st], .int .u8 n] w fun e w' => e = .returned (.bool true) ∧ Below w.heap.size w w' := by
  have hRC := fun W => refcheck_any c W
  have hRA := fun W => refask_any a W
  have hRP := fun W => refput14 c a W
  have hRL := fun W hc ha => refline_any c a W hc ha
  have hOB := fun hc ha hs => oct_back (c := c) (a := a) hc ha hs
  have hGt := fun A n cap W hW h hn => get_any (octC c a) A n cap W hW h hn
  have hPB := fun hc ha s hs hw W hW => parse_back (c := c) (a := a) hc ha s hs hw W hW
  have hLO := fun hc ha => words_lineO (c := c) (a := a) hc ha
  have hSh := fun hc ha => lineO_short (c := c) (a := a) hc ha
  have hOl := octC_len c a
  obtain ⟨K, eK⟩ : ∃ K, n.toNat % 4 = K := ⟨_, rfl⟩
  have hK4 : K < 4 := by omega
  have hn : n.tmod 4 = (K : Int) := by
    obtain ⟨k, rfl⟩ : ∃ k : Nat, n = k := ⟨n.toNat, by omega⟩
    rw [← eK]
    simp [Int.tmod]
  have hn2 : n % 4 = (K : Int) := by omega
  clear eK
  generalize okC c = x at *
  generalize okA a = y at *
  generalize lineW c a = LW at *
  generalize lineO c a = LO at *
  generalize cfgOf (octC c a) = cO at *
  generalize askOf (octC c a) = aO at *
  generalize octC c a = os at *
  have hOB' : ∀ (hc : x = true) (ha : y = true) (hs : Small os), wrongL os = (10, 0) ∧ cO = c ∧ aO = a := hOB
  clear hOB
  obtain ⟨W, eW⟩ : ∃ W, W = (w.alloc (.cells #[.int .i64 c.s, .int .i64 c.o, .int .i64 c.t, .int .i64 c.f, .int .i64 c.d] 23)).alloc (.cells #[.int .i64 a.m, .int .i64 a.b, .bool a.st] 25) := ⟨_, rfl⟩
  obtain ⟨hB0, hB1, hb⟩ := two_blk w _ _ _ _ W eW
  have hA := alive_any W (hL.on hb)
  cases x with
  | false =>
    obtain ⟨s, o, t, f, d⟩ := c
    obtain ⟨m, b, st⟩ := a
    simp only at hRC hRA hRP hRL hGt hPB eW hB0 hB1 hOB'
    go_enter Tryz.func3, Tryz.ntmps3
    go_wp2_with fail
    rw [← eW]
    clear eW
    refine hA.mono ?_
    rintro e w1 ⟨rfl, hb1⟩
    have D0 := hB0.below hb1 hB0.lt
    have D1 := hB1.below hb1 hB1.lt
    have q1 := hb.trans (hb1.mono hb.size)
    have z0 : w1.cell? ⟨w.heap.size, 0, none⟩ = some (.int .i64 s) := D0.cell 0
    have z1 : w1.cell? ⟨w.heap.size, 1, none⟩ = some (.int .i64 o) := D0.cell 1
    have z2 : w1.cell? ⟨w.heap.size, 2, none⟩ = some (.int .i64 t) := D0.cell 2
    have z3 : w1.cell? ⟨w.heap.size, 3, none⟩ = some (.int .i64 f) := D0.cell 3
    have z4 : w1.cell? ⟨w.heap.size, 4, none⟩ = some (.int .i64 d) := D0.cell 4
    have hT := hRC w1
    go_wp2_with fail
    refine hT.mono ?_
    rintro e w2 ⟨rfl, hb2⟩
    go_wp2
    go_ret
    exact ⟨rfl, q1.trans (hb2.mono q1.size)⟩
  | true =>
    cases y with
    | false =>
      obtain ⟨s, o, t, f, d⟩ := c
      obtain ⟨m, b, st⟩ := a
      simp only at hRC hRA hRP hRL hGt hPB eW hB0 hB1 hOB'
      go_enter Tryz.func3, Tryz.ntmps3
      go_wp2_with fail
      rw [← eW]
      clear eW
      refine hA.mono ?_
      rintro e w1 ⟨rfl, hb1⟩
      have D0 := hB0.below hb1 hB0.lt
      have D1 := hB1.below hb1 hB1.lt
      have q1 := hb.trans (hb1.mono hb.size)
      have z0 : w1.cell? ⟨w.heap.size, 0, none⟩ = some (.int .i64 s) := D0.cell 0
      have z1 : w1.cell? ⟨w.heap.size, 1, none⟩ = some (.int .i64 o) := D0.cell 1
      have z2 : w1.cell? ⟨w.heap.size, 2, none⟩ = some (.int .i64 t) := D0.cell 2
      have z3 : w1.cell? ⟨w.heap.size, 3, none⟩ = some (.int .i64 f) := D0.cell 3
      have z4 : w1.cell? ⟨w.heap.size, 4, none⟩ = some (.int .i64 d) := D0.cell 4
      have hT := hRC w1
      go_wp2_with fail
      refine hT.mono ?_
      rintro e w2 ⟨rfl, hb2⟩
      have E1 := D1.below hb2 D1.lt
      have y0 : w2.cell? ⟨w.heap.size + 1, 0, none⟩ = some (.int .i64 m) := E1.cell 0
      have y1 : w2.cell? ⟨w.heap.size + 1, 1, none⟩ = some (.int .i64 b) := E1.cell 1
      have y2 : w2.cell? ⟨w.heap.size + 1, 2, none⟩ = some (.bool st) := E1.cell 2
      have hT2 := hRA w2
      go_wp2_with fail
      refine hT2.mono ?_
      rintro e w3 ⟨rfl, hb3⟩
      go_wp2
      go_ret
      exact ⟨rfl, (q1.trans (hb2.mono q1.size)).trans (hb3.mono (Nat.le_trans q1.size hb2.size))⟩
    | true =>
      have hPP := fun s hs hw W hW => hPB rfl rfl s hs hw W hW
      have hLL := hLO rfl rfl
      have hSS := hSh rfl rfl
      have hRR := fun W => hRL W rfl rfl
      have hOO := fun hs => hOB' rfl rfl hs
      clear hPB hLO hSh hRL hOB'
      obtain ⟨s, o, t, f, d⟩ := c
      obtain ⟨m, b, st⟩ := a
      simp only at hRC hRA hRP hRR hGt hPP eW hB0 hB1 hOO
      have HQW : Hid (∀ W, Below w.heap.size w W → Laid W) := Lib.hid fun W h => hL.on h
      have HLL := Lib.hid hLL
      have HOO := Lib.hid hOO
      have HPP := Lib.hid hPP
      have HGt := Lib.hid hGt
      have HSS := Lib.hid hSS
      have HOL := Lib.hid hOl
      clear hLL hOO hPP hGt hL hSS hOl
      go_enter Tryz.func3, Tryz.ntmps3
      go_wp2_with fail
      rw [← eW]
      clear eW
      refine hA.mono ?_
      rintro e w1 ⟨rfl, hb1⟩
      have D0 := hB0.below hb1 hB0.lt
      have D1 := hB1.below hb1 hB1.lt
      have q1 := hb.trans (hb1.mono hb.size)
      clear hA hB0 hB1 hb hb1
      have z0 : w1.cell? ⟨w.heap.size, 0, none⟩ = some (.int .i64 s) := D0.cell 0
      have z1 : w1.cell? ⟨w.heap.size, 1, none⟩ = some (.int .i64 o) := D0.cell 1
      have z2 : w1.cell? ⟨w.heap.size, 2, none⟩ = some (.int .i64 t) := D0.cell 2
      have z3 : w1.cell? ⟨w.heap.size, 3, none⟩ = some (.int .i64 f) := D0.cell 3
      have z4 : w1.cell? ⟨w.heap.size, 4, none⟩ = some (.int .i64 d) := D0.cell 4
      have hT := hRC w1
      go_wp2_with fail
      refine hT.mono ?_
      rintro e w2 ⟨rfl, hb2⟩
      have E0 := D0.below hb2 D0.lt
      have E1 := D1.below hb2 D1.lt
      have q2 := q1.trans (hb2.mono q1.size)
      clear z0 z1 z2 z3 z4 hT D0 D1
      have y0 : w2.cell? ⟨w.heap.size + 1, 0, none⟩ = some (.int .i64 m) := E1.cell 0
      have y1 : w2.cell? ⟨w.heap.size + 1, 1, none⟩ = some (.int .i64 b) := E1.cell 1
      have y2 : w2.cell? ⟨w.heap.size + 1, 2, none⟩ = some (.bool st) := E1.cell 2
      have hT2 := hRA w2
      go_wp2_with fail
      refine hT2.mono ?_
      rintro e w3 ⟨rfl, hb3⟩
      have G0 := E0.below hb3 E0.lt
      have G1 := E1.below hb3 E1.lt
      have q3 := q2.trans (hb3.mono q2.size)
      clear y0 y1 y2 hT2 E0 E1 hb3 hb2 q1 q2
      have z0 : w3.cell? ⟨w.heap.size, 0, none⟩ = some (.int .i64 s) := G0.cell 0
      have z1 : w3.cell? ⟨w.heap.size, 1, none⟩ = some (.int .i64 o) := G0.cell 1
      have z2 : w3.cell? ⟨w.heap.size, 2, none⟩ = some (.int .i64 t) := G0.cell 2
      have z3 : w3.cell? ⟨w.heap.size, 3, none⟩ = some (.int .i64 f) := G0.cell 3
      have z4 : w3.cell? ⟨w.heap.size, 4, none⟩ = some (.int .i64 d) := G0.cell 4
      have y0 : w3.cell? ⟨w.heap.size + 1, 0, none⟩ = some (.int .i64 m) := G1.cell 0
      have y1 : w3.cell? ⟨w.heap.size + 1, 1, none⟩ = some (.int .i64 b) := G1.cell 1
      have y2 : w3.cell? ⟨w.heap.size + 1, 2, none⟩ = some (.bool st) := G1.cell 2
      have hT3 := hRP w3
      go_wp2_with fail
      refine hT3.mono ?_
      rintro e w4 ⟨A, n4, cap, rfl, ho, hb4⟩
      have hl4 := ho.len
      have hGG := HGt.out A n4 cap w4 (HQW.out _ (q3.trans (hb4.mono q3.size))) ho (by rw [HOL.out] at hl4; omega)
      obtain ⟨hw10, rfl, rfl⟩ := HOO.out ho.small
      have J0 := G0.below hb4 G0.lt
      have J1 := G1.below hb4 G1.lt
      have q4 := q3.trans (hb4.mono q3.size)
      clear hT3 G0 G1 hb4 q3 z0 z1 z2 z3 z4 y0 y1 y2 ho HOO HGt
      go_wp2_with fail
      refine hGG.mono ?_
      rintro e w5 ⟨⟨xx, yy, hxy, hyy, -⟩ | ⟨-, rfl⟩, hb5⟩
      · rw [hw10] at hxy
        exact absurd (Prod.mk.inj hxy).2.symm hyy
      obtain ⟨V, eV⟩ : ∃ V, V = (w5.alloc (.cells #[.int .i64 s, .int .i64 o, .int .i64 t, .int .i64 f, .int .i64 d] 23)).alloc (.cells #[.int .i64 m, .int .i64 b, .bool st] 25) := ⟨_, rfl⟩
      obtain ⟨H0, H1, hbV⟩ := two_blk w5 _ _ _ _ V eV
      have b5V := hb5.trans (hbV.mono hb5.size)
      have G0 := J0.below b5V J0.lt
      have G1 := J1.below b5V J1.lt
      have q5 := q4.trans (b5V.mono q4.size)
      clear hGG hw10 J0 J1 hb5 hbV b5V q4 hl4
      have EV : Hid (V = (w5.alloc (.cells #[.int .i64 s, .int .i64 o, .int .i64 t, .int .i64 f, .int .i64 d] 23)).alloc (.cells #[.int .i64 m, .int .i64 b, .bool st] 25)) := Lib.hid eV
      clear eV
      have z0 : V.cell? ⟨w.heap.size, 0, none⟩ = some (.int .i64 s) := G0.cell 0
      have z1 : V.cell? ⟨w.heap.size, 1, none⟩ = some (.int .i64 o) := G0.cell 1
      have z2 : V.cell? ⟨w.heap.size, 2, none⟩ = some (.int .i64 t) := G0.cell 2
      have z3 : V.cell? ⟨w.heap.size, 3, none⟩ = some (.int .i64 f) := G0.cell 3
      have z4 : V.cell? ⟨w.heap.size, 4, none⟩ = some (.int .i64 d) := G0.cell 4
      have y0 : V.cell? ⟨w.heap.size + 1, 0, none⟩ = some (.int .i64 m) := G1.cell 0
      have y1 : V.cell? ⟨w.heap.size + 1, 1, none⟩ = some (.int .i64 b) := G1.cell 1
      have y2 : V.cell? ⟨w.heap.size + 1, 2, none⟩ = some (.bool st) := G1.cell 2
      rw [EV.out] at z0 z1 z2 z3 z4 y0 y1 y2
      have hT5 := hRR V
      go_wp2_with fail
      rw [← EV.out]
      clear EV z0 z1 z2 z3 z4 y0 y1 y2
      refine hT5.mono ?_
      rintro e w6 ⟨rfl, hb6⟩
      have K0 := G0.below hb6 G0.lt
      have K1 := G1.below hb6 G1.lt
      have M0 := H0.below hb6 H0.lt
      have M1 := H1.below hb6 H1.lt
      have q6 := q5.trans (hb6.mono q5.size)
      clear G0 G1 H0 H1 hb6 q5 hT5
      go_wp2
      go_loop [11, 12] (fun v iv => ∃ j : Nat, j ≤ K ∧ iv = .int .i64 j ∧ v = .string (txt (padL j LO))) (fun _ iv => K - (intOf iv).toNat)
      case atStart => exact ⟨0, Nat.zero_le _, rfl, rfl⟩
      case round =>
        obtain ⟨j, hj, rfl, rfl⟩ := hrel
        have hjl := padL_len j LO
        have hs0 : (txt (padL j LO)).size ≤ 200 := by have := HSS.out; rw [txt_size]; omega
        by_cases hlt : j < K
        · have t0 : decide ((j : Int) < (K : Int)) = true := decide_eq_true (by omega)
          have HN := Lib.hid (padL_txt j LO)
          clear hjl
          generalize txt (padL j LO) = tj at *
          go_wp2
          go_round
          case rel => exact ⟨j + 1, by omega, by go_num, by rw [← HN.out]⟩
          case measure => simp [intOf]; omega
        · obtain rfl : j = K := by omega
          have t0 : decide ((j : Int) < (j : Int)) = false := decide_eq_false (by omega)
          have hPar := HPP.out (txt (padL j LO)) (by omega) (by rw [oct_txt, padL_words, HLL.out]) w6 (HQW.out _ q6)
          clear hjl HPP HLL
          generalize txt (padL j LO) = tj at *
          go_wp2_with fail
          refine hPar.mono ?_
          rintro e w7 ⟨rfl, hb7⟩
          obtain ⟨U, eU⟩ : ∃ V, V = (w7.alloc (.cells #[.int .i64 s, .int .i64 o, .int .i64 t, .int .i64 f, .int .i64 d] 23)).alloc (.cells #[.int .i64 m, .int .i64 b, .bool st] 25) := ⟨_, rfl⟩
          obtain ⟨P0, P1, hbU⟩ := two_blk w7 _ _ _ _ U eU
          have b7U := hb7.trans (hbU.mono hb7.size)
          have R0 := K0.below b7U K0.lt
          have R1 := K1.below b7U K1.lt
          have S0 := M0.below b7U M0.lt
          have S1 := M1.below b7U M1.lt
          have HF := Lib.hid (q6.trans (b7U.mono q6.size))
          have r0 : U.cell? ⟨w.heap.size, 0, none⟩ = some (.int .i64 s) := R0.cell 0
          have r1 : U.cell? ⟨w.heap.size, 1, none⟩ = some (.int .i64 o) := R0.cell 1
          have r2 : U.cell? ⟨w.heap.size, 2, none⟩ = some (.int .i64 t) := R0.cell 2
          have r3 : U.cell? ⟨w.heap.size, 3, none⟩ = some (.int .i64 f) := R0.cell 3
          have r4 : U.cell? ⟨w.heap.size, 4, none⟩ = some (.int .i64 d) := R0.cell 4
          have y0 : U.cell? ⟨w.heap.size + 1, 0, none⟩ = some (.int .i64 m) := R1.cell 0
          have y1 : U.cell? ⟨w.heap.size + 1, 1, none⟩ = some (.int .i64 b) := R1.cell 1
          have y2 : U.cell? ⟨w.heap.size + 1, 2, none⟩ = some (.bool st) := R1.cell 2
          have p0 : U.cell? ⟨w5.heap.size, 0, none⟩ = some (.int .i64 s) := S0.cell 0
          have p1 : U.cell? ⟨w5.heap.size, 1, none⟩ = some (.int .i64 o) := S0.cell 1
          have p2 : U.cell? ⟨w5.heap.size, 2, none⟩ = some (.int .i64 t) := S0.cell 2
          have p3 : U.cell? ⟨w5.heap.size, 3, none⟩ = some (.int .i64 f) := S0.cell 3
          have p4 : U.cell? ⟨w5.heap.size, 4, none⟩ = some (.int .i64 d) := S0.cell 4
          have g0 : U.cell? ⟨w5.heap.size + 1, 0, none⟩ = some (.int .i64 m) := S1.cell 0
          have g1 : U.cell? ⟨w5.heap.size + 1, 1, none⟩ = some (.int .i64 b) := S1.cell 1
          have g2 : U.cell? ⟨w5.heap.size + 1, 2, none⟩ = some (.bool st) := S1.cell 2
          rw [eU] at r0 r1 r2 r3 r4 y0 y1 y2 p0 p1 p2 p3 p4 g0 g1 g2 HF
          clear eU P0 P1 hbU b7U R0 R1 S0 S1 K0 K1 M0 M1 hb7 q6
          go_wp2
          go_ret
          exact ⟨by simp, HF.out⟩
end Go.Proofs.YtmkdmnaonddghaaGreatDoor
