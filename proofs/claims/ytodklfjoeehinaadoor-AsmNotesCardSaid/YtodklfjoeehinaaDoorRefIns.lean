/- What the reference's Instr of texts answers: the instruction of a line, or what is wrong. Conditions: a line of at most a thousand octets. -/
import Derived.Test.YtodklfjoeehinaaDoorRefAsm
namespace Go.Proofs.YtodklfjoeehinaaDoor
open Go.RowKit Nine

/-- An instruction of the numbers so far. -/
def insV (o : Int) (vs : List Int) : Array Value := ins o (vs.getD 0 0) (vs.getD 1 0) (vs.getD 2 0) (vs.getD 3 0)
theorem insV_zero (o : Int) {vs : List Int} (h : vs.length < 4) : insV o (vs ++ [0]) = insV o vs := by
  match vs, h with
  | [], _ => rfl
  | [a], _ => rfl
  | [a, b], _ => rfl
  | [a, b, c], _ => rfl
theorem insV_snoc (o v : Int) {vs : List Int} {k : Nat} (h : vs.length = k) (hk : k < 4) : ins o (if k = 0 then v else vs.getD 0 0) (if k = 1 then v else vs.getD 1 0) (if k = 2 then v else vs.getD 2 0) (if k = 3 then v else vs.getD 3 0) = insV o (vs ++ [v]) := by
  subst h
  match vs, hk with
  | [], _ => rfl
  | [a], _ => rfl
  | [a, b], _ => rfl
  | [a, b, c], _ => rfl
/-- One of the first three has no room in an octet. -/
def wideB (vs : List Int) : Bool := (vs.take 3).any fun v => !narrow v
theorem wideB_more {vs : List Int} (h : vs.length < 3) (v : Int) : wideB (vs ++ [v]) = (wideB vs || !narrow v) := by
  unfold wideB
  rw [List.take_of_length_le (by simp; omega), List.take_of_length_le (by omega), List.any_append]
  simp
theorem wideB_same {vs : List Int} (h : 3 ≤ vs.length) (v : Int) : wideB (vs ++ [v]) = wideB vs := by
  unfold wideB
  rw [List.take_append_of_le_length h]
theorem wideB_zero (vs : List Int) : wideB (vs ++ [0]) = wideB vs := by
  rcases Nat.lt_or_ge vs.length 3 with h | h
  · rw [wideB_more h]
    simp [narrow]
  · exact wideB_same h 0
theorem wide_cases (vs : List Int) (k : Nat) (hk : vs.length = k) (v : Int) :
    (wideB vs = true ∧ wideB (vs ++ [v]) = true) ∨ (wideB vs = false ∧ ¬ k < 3 ∧ wideB (vs ++ [v]) = false) ∨ (wideB vs = false ∧ k < 3 ∧ v < 0 ∧ wideB (vs ++ [v]) = true) ∨
    (wideB vs = false ∧ k < 3 ∧ ¬ v < 0 ∧ 255 < v ∧ wideB (vs ++ [v]) = true) ∨ (wideB vs = false ∧ k < 3 ∧ ¬ v < 0 ∧ ¬ 255 < v ∧ wideB (vs ++ [v]) = false) := by
  subst hk
  rcases Nat.lt_or_ge vs.length 3 with h | h
  · rw [wideB_more h]
    cases hb : wideB vs with
    | true => exact .inl ⟨rfl, rfl⟩
    | false =>
      by_cases h1 : v < 0
      · exact .inr (.inr (.inl ⟨rfl, h, h1, by simp [narrow]; omega⟩))
      by_cases h2 : 255 < v
      · exact .inr (.inr (.inr (.inl ⟨rfl, h, h1, h2, by simp [narrow]; omega⟩)))
      · exact .inr (.inr (.inr (.inr ⟨rfl, h, h1, h2, by simp [narrow]; omega⟩)))
  · rw [wideB_same h]
    cases hb : wideB vs with
    | true => exact .inl ⟨rfl, rfl⟩
    | false => exact .inr (.inl ⟨rfl, by omega, rfl⟩)
/-- How far the letters are gone through. -/
structure RGot (w1 : World) (g0 g1 : Nat) (o : Int) (ls : List UInt8) (all : List (List UInt8)) (k : Nat) (vs : List Int) (j : Nat) (wr : World) : Prop where
  len : vs.length = k
  j1 : 1 ≤ j
  j2 : j ≤ all.length
  rest : opsA ls (all.drop 1) = (opsA (ls.drop k) (all.drop j)).map (vs ++ ·)
  b0 : Blk wr g0 25 (ins 0 0 0 0 0)
  b1 : Blk wr g1 25 (insV o vs)
  bel : Below w1.heap.size w1 wr
  b2 : w1.heap.size ≤ g1
theorem end_cases (k : Nat) (ol : Option (List Int)) (vs : List Int) (r : List (List UInt8)) (h4 : vs.length = 4) (h : ol = (opsA [] r).map (vs ++ ·)) :
    (r ≠ [] ∧ insA k ol = (zeroI, 1)) ∨ (r = [] ∧ wideB vs = true ∧ insA k ol = (zeroI, 3)) ∨ (r = [] ∧ wideB vs = false ∧ ∃ a b c n, insV k vs = ins k a b c n ∧ insA k ol = (⟨k, a, b, c, n⟩, 0)) := by
  match vs, h4 with
  | [a, b, c, n], _ =>
    cases r with
    | cons x r =>
      refine .inl ⟨by simp, ?_⟩
      subst h
      simp [opsA, insA]
    | nil =>
      subst h
      have e : insA k ((opsA [] []).map ([a, b, c, n] ++ ·)) = if narrow a && narrow b && narrow c then (⟨k, a, b, c, n⟩, 0) else (zeroI, 3) := by simp [opsA, insA]
      have ew : wideB [a, b, c, n] = !(narrow a && narrow b && narrow c) := by
        simp only [wideB, List.take, List.any_cons, List.any_nil]
        cases narrow a <;> cases narrow b <;> cases narrow c <;> rfl
      rw [e, ew]
      cases hh : narrow a && narrow b && narrow c with
      | true => exact .inr (.inr ⟨rfl, rfl, a, b, c, n, rfl, by simp⟩)
      | false => exact .inr (.inl ⟨rfl, rfl, by simp⟩)

set_option maxRecDepth 100000 in
set_option maxHeartbeats 4000000 in
theorem refinstr_any (s : ByteArray) (hs : s.size ≤ 1000) (w : World) : Calls Tryd.prog 9 #[.string s] w (Told (instrA (wordsL (oct s))) w) := by
  have hw := words_len (oct s)
  rw [oct_len] at hw
  have hwl := words_le (oct s)
  rw [oct_len] at hwl
  obtain ⟨W0, eW0⟩ : ∃ W0, W0 = w.alloc (.cells #[.int .i64 0, .int .i64 0, .int .i64 0, .int .i64 0, .int .i64 0] 25) := ⟨_, rfl⟩
  have b0 : Below w.heap.size w W0 := by rw [eW0]; exact (Below.refl _ w).alloc (Nat.le_refl _) _
  have p0 : Blk W0 w.heap.size 25 (ins 0 0 0 0 0) := by rw [eW0]; exact heap_alloc_new w _
  have hW := refwords_any s hs W0
  obtain ⟨z, hz⟩ : ∃ z, instrA (wordsL (oct s)) = z := ⟨_, rfl⟩
  rw [hz]
  have HZ := Lib.hid hz
  clear hz
  go_enter Tryd.func9, Tryd.ntmps9
  go_wp2_with fail
  rw [← eW0]
  clear eW0
  refine hW.mono ?_
  rintro e w1 ⟨v, rfl, ho, hb1⟩
  obtain ⟨A, cap, rfl, hR⟩ := Row.own ho
  have p1 := p0.below hb1 p0.lt
  have q1 : Below w.heap.size w w1 := b0.trans (hb1.mono b0.size)
  generalize wordsL (oct s) = all at *
  obtain ⟨n, hn⟩ : ∃ n, all.length = n := ⟨_, rfl⟩
  rw [hn] at hR hwl ⊢
  have HN := Lib.hid hn
  clear ho hW p0 b0 hb1 hn
  cases all with
  | nil =>
    obtain rfl : n = 0 := by simpa using HN.out.symm
    obtain rfl : z = (zeroI, 2) := HZ.out.symm
    clear hR HN HZ
    go_wp2_with (refine wpList_store_row rfl 25 (.tmp 2) (.tmp 24) rfl w.heap.size (ins 0 0 0 0 0) rfl rfl 25 (ins 0 0 0 0 0) p1 info25 rfl (ins_one 0 0 0 0 0) ?_)
    refine bodyPost_ret (resI _ (by kernel_rfl) _ _ w.heap.size 0 0 0 0 0 _ rfl rfl (setRow_heap _ _ _ _ _ _ p1)) rfl ?_
    exact ⟨rfl, below_setRow q1 (Nat.le_refl _) _⟩
  | cons x r =>
    obtain ⟨ad, rfl, hadl, hcw⟩ := hR.at_ 0 (by have := HN.out; simp at this; omega)
    rw [add_nought] at hcw
    simp only [List.getD_cons_zero] at hcw
    have HO : Hid (∀ W, Calls Tryd.prog 19 #[.string (txt x)] W fun e w' => e = .returned (.int .i64 (opOf x : Nat)) ∧ Below W.heap.size W w') := Lib.hid fun W => by
      have := refop_any (txt x) W
      rwa [oct_txt] at this
    have n1 : 1 ≤ n := by have := HN.out; simp at this; omega
    have HR := Lib.hid hR
    clear hR
    obtain ⟨k, hk⟩ : ∃ k, opOf x = k := ⟨_, rfl⟩
    have hcs := opOf_cases x
    rw [hk] at HO hcs
    have t1 : ((n : Int) == 0) = false := by simp; omega
    have i0 : (0 : Int) < (n : Int) := by omega
    by_cases h0 : k = 0
    · have hI : instrA (x :: r) = (zeroI, 2) := by simp [instrA, hk, h0]
      obtain rfl : z = (zeroI, 2) := HZ.out.symm.trans hI
      subst h0
      clear hI hk hcs HZ
      go_wp2_with fail
      refine (HO.out _).mono ?_
      rintro e w2 ⟨rfl, hb2⟩
      have p2 := p1.below hb2 p1.lt
      go_wp2_with (refine wpList_store_row rfl 25 (.tmp 2) (.tmp 24) rfl w.heap.size (ins 0 0 0 0 0) rfl rfl 25 (ins 0 0 0 0 0) p2 info25 rfl (ins_one 0 0 0 0 0) ?_)
      refine bodyPost_ret (resI _ (by kernel_rfl) _ _ w.heap.size 0 0 0 0 0 _ rfl rfl (setRow_heap _ _ _ _ _ _ p2)) rfl ?_
      exact ⟨rfl, below_setRow (q1.trans (hb2.mono q1.size)) (Nat.le_refl _) _⟩
    · have hI : instrA (x :: r) = insA k (opsA (shapeAt k) ((x :: r).drop 1)) := by simp [instrA, hk, h0]
      obtain ⟨hk1, hk2, _⟩ := hcs.resolve_right h0
      have HI := Lib.hid (hI.symm.trans HZ.out)
      have eS : shapeZ (k : Int) = shapeAt k := by
        have : isOp (k : Int) = true := decide_eq_true (by omega)
        simp [shapeZ, this]
      have HS : Hid (∀ W, Calls Tryd.prog 20 #[.int .i64 k] W fun e w' => e = .returned (.string (txt (shapeAt k))) ∧ Below W.heap.size W w') := Lib.hid fun W => by rw [← eS]; exact refshape_any k W
      have h4 := shapes_four k hk1 hk2
      have HL : Hid (∀ (i : Nat) (hi : i < (txt (shapeAt k)).size), (shapeAt k).drop i = (txt (shapeAt k))[i] :: (shapeAt k).drop (i + 1)) := Lib.hid fun i hi => (let_eq (shapeAt k) i hi _ rfl).1
      have hz : (txt (shapeAt k)).size = 4 := by rw [txt_size, h4]
      have HD : Hid ((shapeAt k).drop 4 = []) := Lib.hid (List.drop_eq_nil_of_le (by omega))
      have HX : Hid (∀ y ∈ x :: r, y.length ≤ 1000) := Lib.hid fun y hy => Nat.le_trans (hw y hy) hs
      have t0 : ((k : Int) == 0) = false := by simp; omega
      clear hI hk hcs hw eS h4 hk1 hk2 HZ
      generalize txt (shapeAt k) = ss at *
      generalize shapeAt k = ls at *
      generalize x :: r = all at *
      go_wp2_with fail
      refine (HO.out _).mono ?_
      rintro e w2 ⟨rfl, hb2⟩
      have p2 := p1.below hb2 p1.lt
      have hc2 := (hb2.cell hadl).trans hcw
      go_wp2_with fail
      refine (HO.out _).mono ?_
      rintro e w3 ⟨rfl, hb3⟩
      have p3 := p2.below hb3 p2.lt
      have q3 := hb2.trans (hb3.mono hb2.size)
      have P1 := Lib.hid p1.lt
      clear p1 p2 hcw hc2 HO
      obtain ⟨W4, eW4⟩ : ∃ W4, W4 = w3.alloc (.cells #[.int .i64 k, .int .i64 0, .int .i64 0, .int .i64 0, .int .i64 0] 25) := ⟨_, rfl⟩
      obtain ⟨g, hg⟩ : ∃ g, w3.heap.size = g := ⟨_, rfl⟩
      have b4 : Below w3.heap.size w3 W4 := by rw [eW4]; exact (Below.refl _ w3).alloc (Nat.le_refl _) _
      have m4 : Blk W4 g 25 (insV k []) := by rw [eW4, ← hg]; exact heap_alloc_new w3 _
      have p4 := p3.below b4 p3.lt
      have q4 := q3.trans (b4.mono q3.size)
      have hg1 : w1.heap.size ≤ g := by rw [← hg]; exact q3.size
      have y0 : W4.cell? ⟨g, 0, none⟩ = some (.int .i64 k) := m4.cell 0
      go_wp2_with fail
      rw [← eW4]
      clear eW4 hg b4 p3 q3 hb3 hb2
      refine (HS.out _).mono ?_
      rintro e w5 ⟨rfl, hb5⟩
      have m5 := m4.below hb5 m4.lt
      have p5 := p4.below hb5 p4.lt
      have q5 := q4.trans (hb5.mono q4.size)
      clear y0 m4 p4 q4 hb5 HS
      have G0 : Hid (RGot w1 w.heap.size g k ls all 0 [] 1 w5) := Lib.hid ⟨rfl, Nat.le_refl _, by have := HN.out; omega, by simp, p5, m5, q5, hg1⟩
      clear p5 m5 q5
      go_wp2_with fail
      go_loopw [7, 8, 9] (fun v b u wr => ∃ i vs j, i ≤ 4 ∧ v = .int .i64 (j : Nat) ∧ b = .bool (wideB vs) ∧ u = .int .i64 (i : Nat) ∧ RGot w1 w.heap.size g k ls all i vs j wr) (fun _ _ u _ => 4 - (intOf u).toNat)
      case atStart => exact ⟨0, [], 1, by decide, rfl, rfl, rfl, G0.out⟩
      case round =>
        clear G0
        obtain ⟨i, vs, j, hi, rfl, rfl, rfl, hG⟩ := hrel
        have hvl := hG.len
        have r0 := hG.b0
        have r1 := hG.b1
        have hj1 := hG.j1
        have hj2 := hG.j2
        have hb := hG.bel
        rw [HN.out] at hj2
        have HG := Lib.hid hG
        have H1 := Lib.hid hj1
        clear hG hj1
        by_cases hlt : i < 4
        · have t2 : decide ((i : Int) < 4) = true := decide_eq_true (by omega)
          have hks : i < ss.size := by omega
          have i1 : (0 : Int) ≤ (i : Int) := by omega
          have i2 : (i : Int) < (ss.size : Int) := by omega
          have hd := HL.out i hks
          rcases oct_ne ss i 45 hks (by decide) with ⟨t3, hc⟩ | ⟨t3, hc⟩
          · have hrest2 : opsA ls (all.drop 1) = (opsA (ls.drop (i + 1)) (all.drop j)).map ((vs ++ [0]) ++ ·) := by
              rw [HG.out.rest, hd, hc]
              simp [opsA, Function.comp_def]
            have HQ := Lib.hid hrest2
            replace t3 : ((ss[i].toNat : Int) == 45) = true := t3
            clear hrest2 hc hd
            go_wp2
            go_roundw
            case rel => exact ⟨i + 1, vs ++ [0], j, by omega, rfl, by rw [wideB_zero], by go_num, by simp [hvl], H1.out, HG.out.j2, HQ.out, r0, by rw [insV_zero _ (by omega)]; exact r1, hb, HG.out.b2⟩
            case measure => simp [intOf]; omega
          · replace t3 : ((ss[i].toNat : Int) == 45) = false := t3
            have hl45 : ¬ ss[i] = 45 := fun e => hc (by rw [e]; rfl)
            by_cases hjn : n ≤ j
            · have t4 : decide ((n : Int) ≤ (j : Int)) = true := decide_eq_true (by omega)
              obtain rfl : z = (zeroI, 1) := by
                refine HI.out.symm.trans (insA_none _ _ fun a b c m => ?_)
                have hdn : all.drop j = [] := List.drop_eq_nil_of_le (by rw [HN.out]; exact hjn)
                rw [HG.out.rest, hd, hdn]
                simp [opsA, hl45]
              clear hd hl45 hc
              go_wp2_with (refine wpList_store_row rfl 25 (.tmp 2) (.tmp 45) rfl w.heap.size (ins 0 0 0 0 0) rfl rfl 25 (ins 0 0 0 0 0) r0 info25 rfl (ins_one 0 0 0 0 0) ?_)
              refine bodyPost_ret (resI _ (by kernel_rfl) _ _ w.heap.size 0 0 0 0 0 _ rfl rfl (setRow_heap _ _ _ _ _ _ r0)) rfl ?_
              exact ⟨rfl, below_setRow (q1.trans (hb.mono q1.size)) (Nat.le_refl _) _⟩
            · have t4 : decide ((n : Int) ≤ (j : Int)) = false := decide_eq_false (by omega)
              obtain ⟨ad2, e2, _, hcj⟩ := (HR.out.below hb).at_ j (by omega)
              injection e2 with e2
              subst e2
              have hjl : j < all.length := by rw [HN.out]; omega
              have hdj : all.drop j = all.getD j [] :: all.drop (j + 1) := by
                rw [List.drop_eq_getElem_cons hjl]
                simp [List.getD, List.getElem?_eq_getElem hjl]
              have hym : all.getD j [] ∈ all := by
                rw [List.getD, List.getElem?_eq_getElem hjl]
                exact List.getElem_mem hjl
              obtain ⟨y, hy⟩ : ∃ y, all.getD j [] = y := ⟨_, rfl⟩
              rw [hy] at hcj hdj hym
              have hN := refnum_any (txt y) (by rw [txt_size]; exact HX.out y hym) wr
              rw [oct_txt] at hN
              obtain ⟨v, hv⟩ : ∃ v, (numL y).1 = v := ⟨_, rfl⟩
              obtain ⟨ok, hok⟩ : ∃ ok, (numL y).2 = ok := ⟨_, rfl⟩
              rw [hv, hok] at hN
              have j0 : (0 : Int) ≤ (j : Int) := by omega
              have j3 : (j : Int) < (n : Int) := by omega
              cases ok with
              | false =>
                obtain rfl : z = (zeroI, 1) := by
                  refine HI.out.symm.trans (insA_none _ _ fun a b c m => ?_)
                  rw [HG.out.rest, hd, hdj]
                  simp [opsA, hl45, hok]
                clear hd hl45 hc hdj hjl hym hy hv hok
                go_wp2_with fail
                refine hN.mono ?_
                rintro e w6 ⟨rfl, hb6⟩
                have r2 := r0.below hb6 r0.lt
                go_wp2_with (refine wpList_store_row rfl 25 (.tmp 2) (.tmp 56) rfl w.heap.size (ins 0 0 0 0 0) rfl rfl 25 (ins 0 0 0 0 0) r2 info25 rfl (ins_one 0 0 0 0 0) ?_)
                refine bodyPost_ret (resI _ (by kernel_rfl) _ _ w.heap.size 0 0 0 0 0 _ rfl rfl (setRow_heap _ _ _ _ _ _ r2)) rfl ?_
                have q6 := hb.trans (hb6.mono hb.size)
                exact ⟨rfl, below_setRow (q1.trans (q6.mono q1.size)) (Nat.le_refl _) _⟩
              | true =>
                have hrest2 : opsA ls (all.drop 1) = (opsA (ls.drop (i + 1)) (all.drop (j + 1))).map ((vs ++ [v]) ++ ·) := by
                  rw [HG.out.rest, hd, hdj]
                  simp [opsA, hl45, hok, hv, Function.comp_def]
                have HQ := Lib.hid hrest2
                have hj5 : j + 1 ≤ all.length := by omega
                have HJ := Lib.hid hj5
                have hwc := wide_cases vs i hvl v
                obtain ⟨a0, e0⟩ : ∃ a, vs.getD 0 0 = a := ⟨_, rfl⟩
                obtain ⟨a1, e1⟩ : ∃ a, vs.getD 1 0 = a := ⟨_, rfl⟩
                obtain ⟨a2, e2⟩ : ∃ a, vs.getD 2 0 = a := ⟨_, rfl⟩
                obtain ⟨a3, e3⟩ : ∃ a, vs.getD 3 0 = a := ⟨_, rfl⟩
                have hV := insV_snoc k v hvl hlt
                rw [e0, e1, e2, e3] at hV
                have hr1 : Blk wr g 25 (ins k a0 a1 a2 a3) := by rw [← e0, ← e1, ← e2, ← e3]; exact r1
                have HW : Hid (∀ W, Calls Tryd.prog 22 #[.agg (ins k a0 a1 a2 a3), .int .i64 i, .int .i64 v] W fun e w' => e = .returned (.agg (insV k (vs ++ [v]))) ∧ Below W.heap.size W w') := Lib.hid fun W => by
                  have := with_any k a0 a1 a2 a3 i hlt v W
                  rwa [hV] at this
                obtain ⟨bo, hbo⟩ : ∃ bo, wideB vs = bo := ⟨_, rfl⟩
                obtain ⟨bn, hbn⟩ : ∃ bn, wideB (vs ++ [v]) = bn := ⟨_, rfl⟩
                rw [hbo, hbn] at hwc
                have HB := Lib.hid hbn
                clear hrest2 hd hl45 hc hdj hjl hym hy hv hok hbn hj5 e0 e1 e2 e3 hV r1
                go_wp2_with fail
                refine hN.mono ?_
                rintro e w6 ⟨rfl, hb6⟩
                have r2 := r0.below hb6 r0.lt
                have r3 := hr1.below hb6 hr1.lt
                have q6 := hb.trans (hb6.mono hb.size)
                clear r0 hr1 hb6 hN hcj
                obtain ⟨d0, d1, d2, d3, d4⟩ := At5.blk r3
                obtain ⟨nv, hnv⟩ : ∃ nv, insV k (vs ++ [v]) = nv := ⟨_, rfl⟩
                have none_ : nv.all (·.oneCell') = true := by rw [← hnv]; exact ins_one _ _ _ _ _
                have nsz : (Tryd.prog.info? 25).map (·.size) = some nv.size := by rw [← hnv]; exact info25
                have nse : (ins k a0 a1 a2 a3).size = nv.size := by rw [← hnv]; rfl
                rw [hnv] at HW
                have HNV := Lib.hid hnv
                clear hnv
                rcases hwc with ⟨rfl, rfl⟩ | ⟨rfl, u1, rfl⟩ | ⟨rfl, u1, u2, rfl⟩ | ⟨rfl, u1, u2, u3, rfl⟩ | ⟨rfl, u1, u2, u3, rfl⟩
                all_goals
                  go_wp2_with fail
                  refine (HW.out _).mono ?_
                  rintro e w7 ⟨rfl, hb7⟩
                  have r4 := r3.below hb7 r3.lt
                  have r5 := r2.below hb7 r2.lt
                  have q7 := q6.trans (hb7.mono q6.size)
                  clear d0 d1 d2 d3 d4 r2 r3 q6 hb7
                  go_wp2_with (refine wpList_store_row rfl 25 (.tmp 5) (.tmp 73) rfl g nv rfl rfl 25 (ins k a0 a1 a2 a3) r4 nsz nse none_ ?_)
                  go_roundw
                  case rel => exact ⟨i + 1, vs ++ [v], j + 1, by omega, by go_num, by rw [HB.out]; try (simp <;> omega), by go_num, by simp [hvl], by omega, HJ.out, HQ.out, (setRow_other _ _ _ _ (by have := P1.out; omega)).trans r5, by rw [HNV.out]; exact setRow_heap _ _ _ _ _ _ r4, below_setRow q7 hg1 _, hg1⟩
                  case measure => simp [intOf]; omega
        · obtain rfl : i = 4 := by omega
          have t2 : decide (((4 : Nat) : Int) < 4) = false := decide_eq_false (by omega)
          have q2 := q1.trans (hb.mono q1.size)
          rcases end_cases k (opsA ls (all.drop 1)) vs (all.drop j) hvl (by rw [HG.out.rest, HD.out]) with ⟨hr, hI⟩ | ⟨hr, hw, hI⟩ | ⟨hr, hw, a, b, c, m, hV, hI⟩
          · obtain rfl : z = (zeroI, 1) := HI.out.symm.trans hI
            have hjn : j < n := by
              rcases Nat.lt_or_ge j n with h | h
              · exact h
              · exact absurd (List.drop_eq_nil_of_le (by rw [HN.out]; exact h)) hr
            have t5 : ((j : Int) == (n : Int)) = false := by simp; omega
            have t6 : ((j : Int) != (n : Int)) = true := by rw [bne, t5]; rfl
            clear hr hI
            go_wp2_with (refine wpList_store_row rfl 25 (.tmp 2) (.tmp 80) rfl w.heap.size (ins 0 0 0 0 0) rfl rfl 25 (ins 0 0 0 0 0) r0 info25 rfl (ins_one 0 0 0 0 0) ?_)
            refine bodyPost_ret (resI _ (by kernel_rfl) _ _ w.heap.size 0 0 0 0 0 _ rfl rfl (setRow_heap _ _ _ _ _ _ r0)) rfl ?_
            exact ⟨rfl, below_setRow q2 (Nat.le_refl _) _⟩
          · obtain rfl : z = (zeroI, 3) := HI.out.symm.trans hI
            obtain rfl : j = n := by
              have := List.drop_eq_nil_iff.1 hr
              rw [HN.out] at this
              omega
            rw [hw]
            clear hr hI
            go_wp2_with (refine wpList_store_row rfl 25 (.tmp 2) (.tmp 82) rfl w.heap.size (ins 0 0 0 0 0) rfl rfl 25 (ins 0 0 0 0 0) r0 info25 rfl (ins_one 0 0 0 0 0) ?_)
            refine bodyPost_ret (resI _ (by kernel_rfl) _ _ w.heap.size 0 0 0 0 0 _ rfl rfl (setRow_heap _ _ _ _ _ _ r0)) rfl ?_
            exact ⟨rfl, below_setRow q2 (Nat.le_refl _) _⟩
          · obtain rfl : z = (⟨k, a, b, c, m⟩, 0) := HI.out.symm.trans hI
            obtain rfl : j = n := by
              have := List.drop_eq_nil_iff.1 hr
              rw [HN.out] at this
              omega
            have r1 : Blk wr g 25 (ins k a b c m) := by rw [← hV]; exact r1
            obtain ⟨d0, d1, d2, d3, d4⟩ := At5.blk r1
            rw [hw]
            clear hr hI hV
            go_wp2_with (refine wpList_store_row rfl 25 (.tmp 2) (.tmp 83) rfl w.heap.size (ins k a b c m) rfl rfl 25 (ins 0 0 0 0 0) r0 info25 rfl (ins_one k a b c m) ?_)
            refine bodyPost_ret (resI _ (by kernel_rfl) _ _ w.heap.size k a b c m _ rfl rfl (setRow_heap _ _ _ _ _ _ r0)) rfl ?_
            exact ⟨rfl, below_setRow q2 (Nat.le_refl _) _⟩
end Go.Proofs.YtodklfjoeehinaaDoor
