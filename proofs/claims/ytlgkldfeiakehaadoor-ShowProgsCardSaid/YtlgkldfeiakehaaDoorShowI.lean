/- What show's Instr answers. Conditions: the variables lie as they are laid; operands of 64 bits. -/
import Derived.Test.YtlgkldfeiakehaaDoorLine
namespace Go.Proofs.YtlgkldfeiakehaaDoor
open Go.RowKit Nine

theorem index_any (a b c n : Int) (k : Nat) (hk : k < 4) (w : World) : (Instr.index 43 (.agg #[.int .i64 a, .int .i64 b, .int .i64 c, .int .i64 n]) (.int .i64 (k : Int))).run Tryd.prog w = .ok (.int .i64 (opd a b c n k)) w := by
  rcases (by omega : k = 0 ∨ k = 1 ∨ k = 2 ∨ k = 3) with rfl | rfl | rfl | rfl
  · exact index_0 a b c n w
  · exact index_1 a b c n w
  · exact index_2 a b c n w
  · exact index_3 a b c n w
theorem shows_any (a b c n : Int) (w : World) (o : Int) : Calls Tryd.prog 17 #[.agg #[.int .i64 o, .int .i64 a, .int .i64 b, .int .i64 c, .int .i64 n]] w
    fun e w' => e = .returned (.agg #[.int .i64 a, .int .i64 b, .int .i64 c, .int .i64 n]) ∧ Below w.heap.size w w' := by
  obtain ⟨_, d1, d2, d3, d4⟩ := At5.new w o a b c n
  go_enter Tryd.func17, Tryd.ntmps17
  go_wp2
  refine bodyPost_ret (results_cell_row (cs := #[.int .i64 a, .int .i64 b, .int .i64 c, .int .i64 n]) rfl _ _ (w.heap.size + 1) 43 (0, 0) _ rfl (heap_alloc2_new w _ _) Tryd.underlying43 rfl (by kernel_rfl)) rfl ?_
  exact ⟨rfl, ((Below.refl _ w).alloc (Nat.le_refl _) _).alloc (by simp) _⟩
theorem show_none (o a b c n : Int) (w : World) (hL : Laid w) (ho : shapeZ o = []) :
    Calls Tryd.prog 6 #[.agg #[.int .i64 o, .int .i64 a, .int .i64 b, .int .i64 c, .int .i64 n]] w fun e w' => e = .returned (.tuple #[.string ⟨#[]⟩, .int .i64 2]) ∧ Below w.heap.size w w' := by
  obtain ⟨W0, eW0⟩ : ∃ W0, W0 = w.alloc (.cells #[.int .i64 o, .int .i64 a, .int .i64 b, .int .i64 c, .int .i64 n] 23) := ⟨_, rfl⟩
  have b0 : Below w.heap.size w W0 := by rw [eW0]; exact (Below.refl _ w).alloc (Nat.le_refl _) _
  have h0 : At5 W0 w.heap.size o a b c n := by rw [eW0]; exact At5.new w o a b c n
  obtain ⟨d0, d1, d2, d3, d4⟩ := id h0
  have hS := shape_any o W0 (hL.on b0)
  rw [ho] at hS
  have te : (txt []).toList.isEmpty = true := by rw [toList_txt]; rfl
  go_enter Tryd.func6, Tryd.ntmps6
  go_wp2_with fail
  rw [← eW0]
  clear eW0
  go_wp2_with fail
  refine hS.mono ?_
  rintro e w1 ⟨rfl, hb1⟩
  go_wp2
  go_ret2
  exact ⟨rfl, b0.trans (hb1.mono b0.size)⟩

set_option maxRecDepth 100000 in
set_option maxHeartbeats 2000000 in
theorem show_some (o a b c n : Int) (ha : Wide a) (hb : Wide b) (hc : Wide c) (hn : Wide n) (w : World) (hL : Laid w) (h4 : (shapeZ o).length = 4) :
    Calls Tryd.prog 6 #[.agg #[.int .i64 o, .int .i64 a, .int .i64 b, .int .i64 c, .int .i64 n]] w fun e w' => e = .returned (.tuple #[.string (txt (lineZ o a b c n)), .int .i64 0]) ∧ Below w.heap.size w w' := by
  obtain ⟨i0, hi, hz0, hz1, hz2⟩ := info_parts info9
  have HI := Lib.hid hi
  have HZ0 := Lib.hid hz0
  have HZ1 := Lib.hid hz1
  have HZ2 := Lib.hid hz2
  clear hi hz0 hz1 hz2
  have HW := Lib.hid (fun k => wordsZ_short (o := o) ha hb hc hn k)
  have HO := Lib.hid (fun k => opd_wide ha hb hc hn k)
  obtain ⟨W0, eW0⟩ : ∃ W0, W0 = w.alloc (.cells #[.int .i64 o, .int .i64 a, .int .i64 b, .int .i64 c, .int .i64 n] 23) := ⟨_, rfl⟩
  have b0 : Below w.heap.size w W0 := by rw [eW0]; exact (Below.refl _ w).alloc (Nat.le_refl _) _
  have h0 : At5 W0 w.heap.size o a b c n := by rw [eW0]; exact At5.new w o a b c n
  have hS := shape_any o W0 (hL.on b0)
  have te : (txt (shapeZ o)).toList.isEmpty = false := by
    rw [toList_txt]
    cases hh : shapeZ o with
    | nil => rw [hh] at h4; cases h4
    | cons x l => rfl
  have tz : (txt (shapeZ o)).size = 4 := by rw [txt_size]; exact h4
  have HT : Hid (∀ (k : Nat) (hk : k < (txt (shapeZ o)).size), (shapeZ o)[k]?.getD 45 = (txt (shapeZ o))[k]) := Lib.hid fun k hk => by
    have h := oct_at (txt (shapeZ o)) k hk
    rw [oct_txt] at h
    rw [h]
    rfl
  have hN := fun W hW => name_any o W hW
  have HE : Hid (wordsZ o a b c n 0 = [nameZ o]) := Lib.hid rfl
  have HS : Hid (∀ k, wordsZ o a b c n (k + 1) = wordsZ o a b c n k ++ wordAt (shapeZ o) a b c n k) := Lib.hid fun k => by simp [wordsZ, wordsK]
  have HL : Hid (lineZ o a b c n = joinL (wordsZ o a b c n 4)) := Lib.hid rfl
  generalize txt (shapeZ o) = ss at *
  generalize wordsZ o a b c n = wz at *
  generalize lineZ o a b c n = lz at *
  obtain ⟨d0, d1, d2, d3, d4⟩ := id h0
  clear ha hb hc hn
  go_enter Tryd.func6, Tryd.ntmps6
  go_wp2_with fail
  rw [← eW0]
  clear eW0
  go_wp2_with fail
  refine hS.mono ?_
  rintro e w1 ⟨rfl, hb1⟩
  have h1 := h0.on hb1
  clear d0 d1 d2 d3 d4
  obtain ⟨d0, d1, d2, d3, d4⟩ := id h1
  have q1 := b0.trans (hb1.mono b0.size)
  go_wp2_with fail
  refine (hN _ (hL.on q1)).mono ?_
  rintro e w2 ⟨rfl, hb2⟩
  have h2 := h1.on hb2
  clear d0 d1 d2 d3 d4
  have q2 := q1.trans (hb2.mono q1.size)
  have b2 : Below w2.heap.size w2 (w2.alloc (.cells #[.string (txt (nameZ o))] 9)) := (Below.refl _ _).alloc (Nat.le_refl _) _
  have hown2 : (w2.alloc (.cells #[.string (txt (nameZ o))] 9)).ownsRow w.heap.size 9 1 (.slice (some ⟨w2.heap.size, 0, none⟩) 1 1) 1 [.string (txt (nameZ o))] := by
    exact World.ownsRow_lit w2 #[.string (txt (nameZ o))] 1 q2.size (by unfold maxLen; omega) rfl
  have h3 := h2.on b2
  have q3 := q2.trans (b2.mono q2.size)
  obtain ⟨d0, d1, d2, d3, d4⟩ := id h3
  go_wp2_with fail
  refine (shows_any a b c n _ o).mono ?_
  rintro e w3 ⟨rfl, hb3⟩
  have hown3 := own_below hown2 hb3
  have q4 := q3.trans (hb3.mono q3.size)
  have hlw := Lib.hid hL
  clear d0 d1 d2 d3 d4 h0 h1 h2 h3 b0 hb1 hb2 b2 hb3 q1 q2 q3 hown2 hS hN hL
  have HX := Lib.hid (fun k hk => index_any a b c n k hk)
  go_wp2_with fail
  go_loopw [5, 6, 7, 19] (fun v _ _ i wr => ∃ k : Nat, k ≤ 4 ∧ i = .int .i64 k ∧ wr.ownsRow w.heap.size 9 1 v (wz k).length (vals (wz k)) ∧ Below w.heap.size w wr) (fun _ _ _ i _ => 4 - (intOf i).toNat)
  case atStart =>
    refine ⟨0, Nat.zero_le _, rfl, ?_, q4⟩
    rw [HE.out]
    exact hown3
  case round =>
    obtain ⟨k, hk, rfl, hown, hb⟩ := hrel
    have hbs := hb.size
    have hwl := (HW.out k).1
    by_cases hlt : k < 4
    · have t0 : decide ((k : Int) < 4) = true := decide_eq_true (by omega)
      have hx := HX.out k hlt
      have hos := HO.out k
      have hks : k < ss.size := by omega
      rcases oct_ne ss k 45 hks (by decide) with ⟨t1, hc⟩ | ⟨t1, hc⟩
      · have HQ : Hid (wz (k + 1) = wz k) := Lib.hid (by
          rw [HS.out, wordAt, HT.out k hks, hc]
          simp)
        replace t1 : ((ss[k].toNat : Int) == 45) = true := t1
        have t2 : ((ss[k].toNat : Int) != 45) = false := by rw [bne, t1]; rfl
        clear hc
        go_wp2
        go_roundw
        case rel => exact ⟨k + 1, by omega, by go_num, by rw [HQ.out]; exact hown, hb⟩
        case measure => simp [intOf]; omega
      · have HQ : Hid (wz (k + 1) = wz k ++ [Lib.itoa (opd a b c n k)]) := Lib.hid (by
          rw [HS.out, wordAt, HT.out k hks, if_neg]
          intro e
          exact hc (by rw [e]; rfl))
        replace t1 : ((ss[k].toNat : Int) == 45) = false := t1
        have t2 : ((ss[k].toNat : Int) != 45) = true := by rw [bne, t1]; rfl
        clear hc
        generalize opd a b c n k = z at *
        go_wp2_with fail
        refine (dec_any z hos _ (hlw.out.on hb)).mono ?_
        rintro e w5 ⟨rfl, hb5⟩
        have hown5 := own_below hown hb5
        have q5 := hb.trans (hb5.mono hb.size)
        have hbs5 := q5.size
        go_wp2_with (at_builtin; refine wpList_append_own _ rfl (.tmp 27) (.tmp 30) 39 rfl w.heap.size 9 i0 (.string ⟨#[]⟩) 1 16 Tryd.underlying39 HI.out HZ0.out HZ1.out HZ2.out rfl (by decide) _ _ _ rfl (hown5.alloc _) ⟨w5.heap.size, 0, none⟩ 1 1 [.string (txt (Lib.itoa z))] rfl rfl (cell_one_new _ _ _) (by simp [Value.oneCell']) (by unfold maxLen; omega) (by omega) (by simp; omega) ?_; intro v6 w6 hown6 hg6 _; have hb6 : Below w.heap.size w w6 := ((q5.alloc hbs5 _).grown hg6 (by simp; omega) (fun g hv => (hown5.lt g hv).1)))
        go_roundw
        case rel => exact ⟨k + 1, by omega, by go_num, by rw [HQ.out, vals_snoc]; simpa using hown6, hb6⟩
        case measure => simp [intOf]; omega
    · obtain rfl : k = 4 := by omega
      have t0 : decide (((4 : Nat) : Int) < 4) = false := decide_eq_false (by omega)
      obtain ⟨A, cap, rfl, hrow⟩ := Row.own hown
      go_wp2_with fail
      refine (join_any A _ cap (wz 4) _ hrow (by omega) (fun x hx => by have := (HW.out 4).2 x hx; omega)).mono ?_
      rintro e w7 ⟨rfl, hb7⟩
      go_wp2
      go_ret2
      exact ⟨by rw [HL.out]; rfl, hb.trans (hb7.mono hbs)⟩
end Go.Proofs.YtlgkldfeiakehaaDoor
