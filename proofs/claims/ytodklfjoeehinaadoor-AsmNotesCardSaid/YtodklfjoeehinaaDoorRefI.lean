/- What the reference's Instr answers. Conditions: of an instruction that is one; operands of 64 bits. -/
import Derived.Test.YtodklfjoeehinaaDoorLine
namespace Go.Proofs.YtodklfjoeehinaaDoor
open Go.RowKit Nine

set_option maxRecDepth 100000 in
set_option maxHeartbeats 2000000 in
theorem refline_any (o a b c n : Int) (ha : Wide a) (hb : Wide b) (hc : Wide c) (hn : Wide n) (w : World) (h4 : (shapeZ o).length = 4) :
    Calls Tryd.prog 26 #[.agg #[.int .i64 o, .int .i64 a, .int .i64 b, .int .i64 c, .int .i64 n]] w fun e w' => e = .returned (.string (txt (lineZ o a b c n))) ∧ Below w.heap.size w w' := by
  have HW := Lib.hid (fun k (hk : k ≤ 4) => joinZ_short (o := o) ha hb hc hn hk)
  have HO := Lib.hid (fun k => opd_wide ha hb hc hn k)
  obtain ⟨W0, eW0⟩ : ∃ W0, W0 = w.alloc (.cells #[.int .i64 o, .int .i64 a, .int .i64 b, .int .i64 c, .int .i64 n] 25) := ⟨_, rfl⟩
  have b0 : Below w.heap.size w W0 := by rw [eW0]; exact (Below.refl _ w).alloc (Nat.le_refl _) _
  have h0 : At5 W0 w.heap.size o a b c n := by rw [eW0]; exact At5.new w o a b c n
  have hS := refshape_any o W0
  have tz : (txt (shapeZ o)).size = 4 := by rw [txt_size]; exact h4
  have HT : Hid (∀ (k : Nat) (hk : k < (txt (shapeZ o)).size), (shapeZ o)[k]?.getD 45 = (txt (shapeZ o))[k]) := Lib.hid fun k hk => by
    have h := oct_at (txt (shapeZ o)) k hk
    rw [oct_txt] at h
    rw [h]
    rfl
  have hN := fun W => refname_any o W
  have HE : Hid (joinL (wordsZ o a b c n 0) = nameZ o) := Lib.hid rfl
  have HS : Hid (∀ k, wordsZ o a b c n (k + 1) = wordsZ o a b c n k ++ wordAt (shapeZ o) a b c n k) := Lib.hid fun k => by simp [wordsZ, wordsK]
  have HZ : Hid (∀ k, wordsZ o a b c n k ≠ []) := Lib.hid fun k => by simp [wordsZ]
  have HL : Hid (lineZ o a b c n = joinL (wordsZ o a b c n 4)) := Lib.hid rfl
  generalize txt (shapeZ o) = ss at *
  generalize wordsZ o a b c n = wz at *
  generalize lineZ o a b c n = lz at *
  obtain ⟨d0, d1, d2, d3, d4⟩ := id h0
  clear ha hb hc hn
  go_enter Tryd.func26, Tryd.ntmps26
  go_wp2_with fail
  rw [← eW0]
  clear eW0
  go_wp2_with fail
  refine hS.mono ?_
  rintro e w1 ⟨rfl, hb1⟩
  have h1 := h0.on hb1
  clear d0 d1 d2 d3 d4
  obtain ⟨d0, d1, d2, d3, d4⟩ := id h1
  have q1 := b0.trans (hb1.mono b0.size)
  go_wp2_with fail
  refine (hN _).mono ?_
  rintro e w2 ⟨rfl, hb2⟩
  have h2 := h1.on hb2
  clear d0 d1 d2 d3 d4
  have q2 := q1.trans (hb2.mono q1.size)
  clear h0 h1 b0 hb1 hb2 q1 hS hN
  go_wp2_with fail
  go_loopw [4, 5] (fun v i wr => ∃ k : Nat, k ≤ 4 ∧ i = .int .i64 k ∧ v = .string (txt (joinL (wz k))) ∧ Below w2.heap.size w2 wr) (fun _ i _ => 4 - (intOf i).toNat)
  case atStart => exact ⟨0, Nat.zero_le _, rfl, by rw [HE.out], Below.refl _ _⟩
  case round =>
    obtain ⟨k, hk, rfl, rfl, hb⟩ := hrel
    have hbs := hb.size
    have hs1 : (txt (joinL (wz k))).size ≤ 110 := by rw [txt_size]; exact HW.out k hk
    by_cases hlt : k < 4
    · have t0 : decide ((k : Int) < 4) = true := decide_eq_true (by omega)
      have hks : k < ss.size := by omega
      have hos := HO.out k
      rcases oct_ne ss k 45 hks (by decide) with ⟨t1, hc⟩ | ⟨t1, hc⟩
      · have HQ : Hid (wz (k + 1) = wz k) := Lib.hid (by
          rw [HS.out, wordAt, HT.out k hks, hc]
          simp)
        replace t1 : ((ss[k].toNat : Int) == 45) = true := t1
        have t2 : ((ss[k].toNat : Int) != 45) = false := by rw [bne, t1]; rfl
        clear hc
        go_wp2
        go_roundw
        case rel => exact ⟨k + 1, by omega, by go_num, by rw [HQ.out], hb⟩
        case measure => simp [intOf]; omega
      · have HQ : Hid (txt (joinL (wz (k + 1))) = txt (joinL (wz k)) ++ (⟨#[32]⟩ : ByteArray) ++ txt (Lib.itoa (opd a b c n k))) := Lib.hid (by
          rw [HS.out, wordAt, HT.out k hks, if_neg, join_snoc _ _ (HZ.out k), sp_app]
          intro e
          exact hc (by rw [e]; rfl))
        replace t1 : ((ss[k].toNat : Int) == 45) = false := t1
        have t2 : ((ss[k].toNat : Int) != 45) = true := by rw [bne, t1]; rfl
        have hs2 : (txt (Lib.itoa (opd a b c n k))).size ≤ 21 := by rw [txt_size]; exact itoa_short hos
        have hF := field_any o a b c n k
        clear hc
        generalize opd a b c n k = z at *
        obtain ⟨d0, d1, d2, d3, d4⟩ := h2.on hb
        go_wp2_with fail
        refine (hF _).mono ?_
        rintro e w5 ⟨rfl, hb5⟩
        have q5 := hb.trans (hb5.mono hbs)
        clear d0 d1 d2 d3 d4
        go_wp2_with fail
        refine (refdec_any z hos _).mono ?_
        rintro e w6 ⟨rfl, hb6⟩
        have q6 := q5.trans (hb6.mono q5.size)
        go_wp2
        go_roundw
        case rel => exact ⟨k + 1, by omega, by go_num, by rw [HQ.out], q6⟩
        case measure => simp [intOf]; omega
    · obtain rfl : k = 4 := by omega
      have t0 : decide (((4 : Nat) : Int) < 4) = false := decide_eq_false (by omega)
      go_wp2
      go_ret
      exact ⟨by rw [HL.out]; rfl, q2.trans (hb.mono q2.size)⟩
end Go.Proofs.YtodklfjoeehinaaDoor
