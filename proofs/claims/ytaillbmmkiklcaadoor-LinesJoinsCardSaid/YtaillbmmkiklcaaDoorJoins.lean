/- The walk of LinesJoins. Conditions: the library's variables lie as they are laid. -/
import Derived.Test.YtaillbmmkiklcaaDoorAlive
namespace Go.Proofs.YtaillbmmkiklcaaDoor
open Go.RowKit

theorem join_len20 : ∀ (l : List (List UInt8)), (∀ x ∈ l, x.length ≤ 20) → (joinL l).length ≤ 21 * l.length
  | [], _ => by simp [joinL]
  | [x], h => by have := h x (by simp); simp [joinL]; omega
  | x :: y :: r, h => by
    have h1 := h x (by simp)
    have h2 := join_len20 (y :: r) fun z hz => h z (List.mem_cons_of_mem _ hz)
    simp only [joinL, List.length_append, List.length_cons] at h2 ⊢
    omega
/-- The words that are looked at. -/
def cutW (xs : List (List UInt8)) : List (List UInt8) := (xs.take 20).map (·.take 20)
theorem cutW_len (xs : List (List UInt8)) : (cutW xs).length = min 20 xs.length := by simp [cutW]
theorem cutW_small (xs : List (List UInt8)) : ∀ x ∈ cutW xs, x.length ≤ 20 := by
  intro x hx
  obtain ⟨y, _, rfl⟩ := List.mem_map.1 hx
  rw [List.length_take]
  omega
theorem cutW_at (xs : List (List UInt8)) (k : Nat) (hk : k < 20) : (cutW xs).getD k [] = (xs.getD k []).take 20 := by
  simp only [cutW, List.getD, List.getElem?_map, List.getElem?_take, if_pos hk]
  cases xs[k]? <;> simp
theorem add_none (a : Addr) : a.add 0 = a := by
  unfold Addr.add
  split
  · rfl
  · rename_i h
    exact absurd rfl h
def fineB (x : List UInt8) : Bool := decide (wordsL x = [x])
theorem all_snoc (ys : List (List UInt8)) (k : Nat) (hk : k < ys.length) : (ys.take (k + 1)).all fineB = ((ys.take k).all fineB && fineB (ys.getD k [])) := by
  rw [List.take_succ_eq_append_getElem hk, List.all_append]
  simp [List.getD, hk]
theorem take_snoc (ys : List (List UInt8)) (k : Nat) (hk : k < ys.length) : ys.take (k + 1) = ys.take k ++ [ys.getD k []] := by
  rw [List.take_succ_eq_append_getElem hk]
  simp [List.getD, hk]
theorem fine_cases (y : List UInt8) : (¬ (wordsL y).length = 1 ∧ fineB y = false) ∨ ((wordsL y).length = 1 ∧ ((txt ((wordsL y).getD 0 [])).toList == (txt y).toList) = fineB y) := by
  by_cases h : (wordsL y).length = 1
  · refine .inr ⟨h, ?_⟩
    obtain ⟨z, hz⟩ := List.length_eq_one_iff.1 h
    unfold fineB
    rw [hz, eq_txt]
    refine decide_eq_decide.2 ⟨fun e => ?_, fun e => ?_⟩
    · have := txt_inj (a := z) (b := y) e
      rw [this]
    · have : z = y := by simpa using e
      simp [this]
  · refine .inl ⟨h, decide_eq_false fun e => h (by rw [e]; rfl)⟩

set_option maxRecDepth 100000 in
set_option maxHeartbeats 1000000 in
theorem joins_walk (A : Option Addr) (n cap : Nat) (xs : List (List UInt8)) (w : World) (h : Row w w.heap.size A n cap xs) (hL : Laid w) :
    Calls Tryd.prog 6 #[.slice A n cap] w fun e w' => e = .returned (.bool true) ∧ Below w.heap.size w w' := by
  have hl := h.len
  have hmx := h.most
  have hrm := h.room
  unfold maxLen at hmx
  obtain ⟨i0, hi, hz0, hz1, hz2⟩ := info_parts info9
  have HI := Lib.hid hi
  have HZ0 := Lib.hid hz0
  have HZ1 := Lib.hid hz1
  have HZ2 := Lib.hid hz2
  clear hi hz0 hz1 hz2
  have hyl := cutW_len xs
  rw [hl] at hyl
  have hys := cutW_small xs
  have hyat := fun k hk => cutW_at xs k hk
  obtain ⟨ys, hyd⟩ : ∃ ys, cutW xs = ys := ⟨_, rfl⟩
  rw [hyd] at hyl hys hyat
  clear hyd
  obtain ⟨m, hm⟩ : ∃ m, min 20 n = m := ⟨_, rfl⟩
  rw [hm] at hyl
  have hm20 : m ≤ 20 := by omega
  have hmn : m ≤ n := by omega
  have HM : Hid (m = 20 ∨ m = n) := Lib.hid (by omega)
  have HL := Lib.hid hyl
  clear hm hyl hl
  go_enter Tryd.func6, Tryd.ntmps6
  go_wp2_with fail
  refine (alive_any w hL).mono ?_
  rintro e w1 ⟨rfl, hb1⟩
  go_wp2_with fail
  go_loopw [3, 4, 5, 6] (fun v b i _ wr => ∃ k : Nat, k ≤ m ∧ i = .int .i64 k ∧ b = .bool ((ys.take k).all fineB) ∧ wr.ownsRow w.heap.size 9 1 v k (vals (ys.take k)) ∧ Below w.heap.size w wr) (fun _ _ i _ _ => 20 - (intOf i).toNat)
  case atStart => exact ⟨0, Nat.zero_le _, rfl, rfl, World.ownsRow_nil _ _ _ _, hb1⟩
  case round =>
    obtain ⟨k, hk, rfl, rfl, hown, hb⟩ := hrel
    have hbs := hb.size
    by_cases hlt : k < m
    · have t1 : decide ((k : Int) < (n : Int)) = true := decide_eq_true (by omega)
      have t2 : decide ((k : Int) < 20) = true := decide_eq_true (by omega)
      obtain ⟨ad, rfl, _, hcy⟩ := (h.below hb).at_ k (by omega)
      have hC := fun w => cut_any (txt (xs.getD k [])) 20 (by decide) w
      rw [oct_txt, ← hyat k (by omega)] at hC
      have HA := Lib.hid (all_snoc ys k (by rw [HL.out]; exact hlt))
      have HT := Lib.hid (take_snoc ys k (by rw [HL.out]; exact hlt))
      have hy20 : (ys.getD k []).length ≤ 1000 := getD_small (fun x hx => Nat.le_trans (hys x hx) (by decide)) k
      generalize xs.getD k [] = x at *
      generalize ys.getD k [] = y at *
      obtain ⟨b, hbd⟩ : ∃ b, (ys.take k).all fineB = b := ⟨_, rfl⟩
      rw [hbd] at HA
      rw [hbd]
      clear hbd
      cases b with
      | false =>
        go_wp2_with (first
          | (go_at_call 8; refine (hC _).mono ?_; rintro e w' ⟨rfl, rfl⟩)
          | (at_builtin; refine wpList_append_own _ rfl (.tmp 25) (.tmp 27) 25 rfl w.heap.size 9 i0 (.string ⟨#[]⟩) 1 16 Tryd.underlying25 HI.out HZ0.out HZ1.out HZ2.out rfl (by decide) _ _ _ rfl (hown.alloc _) ⟨wr.heap.size, 0, none⟩ 1 1 [.string (txt y)] rfl rfl (cell_one_new _ _ _) (by simp [Value.oneCell']) (by unfold maxLen; omega) (by omega) (by simp; omega) ?_; intro v2 w2 hown2 hg2 _; have hb2 : Below w.heap.size w w2 := ((hb.alloc hbs _).grown hg2 (by simp; omega) (fun g hv => (hown.lt g hv).1))))
        go_roundw
        case rel => exact ⟨k + 1, by omega, by go_num, by rw [HA.out]; rfl, by rw [HT.out, vals_snoc]; simpa using hown2, hb2⟩
        case measure => simp [intOf]; omega
      | true =>
        rcases fine_cases y with ⟨hne, hf⟩ | ⟨h1, hf⟩
        · have t3 : (((wordsL y).length : Int) == 1) = false := beq_eq_false_iff_ne.2 (by omega)
          have HF := Lib.hid hf
          clear hf hne
          go_wp2_with (first
            | (go_at_call 8; refine (hC _).mono ?_; rintro e w' ⟨rfl, rfl⟩)
            | (at_builtin; refine wpList_append_own _ rfl (.tmp 25) (.tmp 27) 25 rfl w.heap.size 9 i0 (.string ⟨#[]⟩) 1 16 Tryd.underlying25 HI.out HZ0.out HZ1.out HZ2.out rfl (by decide) _ _ _ rfl (hown.alloc _) ⟨wr.heap.size, 0, none⟩ 1 1 [.string (txt y)] rfl rfl (cell_one_new _ _ _) (by simp [Value.oneCell']) (by unfold maxLen; omega) (by omega) (by simp; omega) ?_; intro v2 w2 hown2 hg2 _; have hb2 : Below w.heap.size w w2 := ((hb.alloc hbs _).grown hg2 (by simp; omega) (fun g hv => (hown.lt g hv).1))))
          refine (refwords_row (txt y) (by rw [txt_size]; exact hy20) w2).mono ?_
          rw [oct_txt]
          rintro e w3 ⟨A3, c3, rfl, r3, hb3⟩
          go_wp2
          go_roundw
          case rel => exact ⟨k + 1, by omega, by go_num, by rw [HA.out, HF.out]; rfl, by rw [HT.out, vals_snoc]; exact ownsRow_on (by simpa using hown2) hb3, hb2.trans (hb3.mono hb2.size)⟩
          case measure => simp [intOf]; omega
        · obtain ⟨q, hq⟩ : ∃ q, (wordsL y).getD 0 [] = q := ⟨_, rfl⟩
          rw [hq] at hf
          obtain ⟨fb, hfb⟩ : ∃ fb, fineB y = fb := ⟨_, rfl⟩
          rw [hfb] at hf
          have HF := Lib.hid hfb
          clear hfb
          go_wp2_with (first
            | (go_at_call 8; refine (hC _).mono ?_; rintro e w' ⟨rfl, rfl⟩)
            | (at_builtin; refine wpList_append_own _ rfl (.tmp 25) (.tmp 27) 25 rfl w.heap.size 9 i0 (.string ⟨#[]⟩) 1 16 Tryd.underlying25 HI.out HZ0.out HZ1.out HZ2.out rfl (by decide) _ _ _ rfl (hown.alloc _) ⟨wr.heap.size, 0, none⟩ 1 1 [.string (txt y)] rfl rfl (cell_one_new _ _ _) (by simp [Value.oneCell']) (by unfold maxLen; omega) (by omega) (by simp; omega) ?_; intro v2 w2 hown2 hg2 _; have hb2 : Below w.heap.size w w2 := ((hb.alloc hbs _).grown hg2 (by simp; omega) (fun g hv => (hown.lt g hv).1))))
          refine (refwords_row (txt y) (by rw [txt_size]; exact hy20) w2).mono ?_
          rw [oct_txt, h1]
          rintro e w3 ⟨A3, c3, rfl, r3, hb3⟩
          go_wp2_with fail
          refine (refwords_row (txt y) (by rw [txt_size]; exact hy20) w3).mono ?_
          rw [oct_txt, h1]
          rintro e w4 ⟨A4, c4, rfl, r4, hb4⟩
          obtain ⟨a4, rfl, _, hc4⟩ := r4.at_ 0 (by decide)
          rw [hq] at hc4
          have hc5 : w4.cell? a4 = some (.string (txt q)) := by rw [add_none] at hc4; exact hc4
          go_wp2
          go_roundw
          case rel => exact ⟨k + 1, by omega, by go_num, by rw [HA.out, HF.out]; rfl, by rw [HT.out, vals_snoc]; exact ownsRow_on (ownsRow_on (by simpa using hown2) hb3) hb4, (hb2.trans (hb3.mono hb2.size)).trans (hb4.mono (Nat.le_trans hb2.size hb3.size))⟩
          case measure => simp [intOf]; omega
    · have ek : k = m := by omega
      rw [List.take_of_length_le (by rw [HL.out]; omega)] at hown
      rw [List.take_of_length_le (by rw [HL.out]; omega)]
      rw [ek] at hown
      obtain ⟨A5, c5, rfl, r5⟩ := Row.own hown
      have hjl : (joinL ys).length ≤ 1000 := by
        have := join_len20 ys hys
        have := HL.out
        omega
      have hys2 : ∀ x ∈ ys, x.length ≤ 1000 := fun x hx => Nat.le_trans (hys x hx) (by decide)
      have hq : ((txt (joinL ys)).toList == (txt (joinL ys)).toList) = true := by simp
      have HJ : Hid (ys.all fineB = true → wordsL (joinL ys) = ys) := Lib.hid fun hf => words_join ys fun x hx => fine_of (of_decide_eq_true (List.all_eq_true.1 hf x hx))
      have hsz : (txt (joinL ys)).size ≤ 1000 := by rw [txt_size]; exact hjl
      have hW := words_row (txt (joinL ys)) hsz
      rw [oct_txt] at hW
      have r5' : Row wr wr.heap.size A5 m c5 ys := r5
      obtain ⟨b, hbd⟩ : ∃ b, ys.all fineB = b := ⟨_, rfl⟩
      rw [hbd] at HJ
      rw [hbd]
      clear hbd
      have out : (n ≤ k ∧ decide ((k : Int) < (n : Int)) = false) ∨ (k < n ∧ 20 ≤ k ∧ decide ((k : Int) < (n : Int)) = true ∧ decide ((k : Int) < 20) = false) := by
        rcases HM.out with e | e
        · by_cases hkn : k < n
          · exact .inr ⟨hkn, by omega, decide_eq_true (by omega), decide_eq_false (by omega)⟩
          · exact .inl ⟨by omega, decide_eq_false (by omega)⟩
        · exact .inl ⟨by omega, decide_eq_false (by omega)⟩
      have hbw : w.heap.size ≤ wr.heap.size := hbs
      have jn := fun w => refjoin_any A5 m c5 ys wr.heap.size w
      clear ek
      cases b with
      | false =>
        rcases out with ⟨k1, t1⟩ | ⟨k1, k2, t1, t2⟩
        all_goals
          go_wp2_with fail
          refine (join_any A5 m c5 ys wr r5' (by omega) hys2).mono ?_
          rintro e w2 ⟨rfl, hb2⟩
          go_wp2_with fail
          refine (jn w2 (r5'.below hb2) (by omega) hys2).mono ?_
          rintro e w' ⟨rfl, rfl⟩
          go_wp2
          go_ret
          exact ⟨rfl, hb.trans (hb2.mono hbw)⟩
      | true =>
        rw [HJ.out rfl] at hW
        rcases out with ⟨k1, t1⟩ | ⟨k1, k2, t1, t2⟩
        all_goals
          go_wp2_with fail
          refine (join_any A5 m c5 ys wr r5' (by omega) hys2).mono ?_
          rintro e w2 ⟨rfl, hb2⟩
          have r6 := r5'.below hb2
          go_wp2_with fail
          refine (jn w2 r6 (by omega) hys2).mono ?_
          rintro e w' ⟨rfl, rfl⟩
          go_wp2_with fail
          refine (hW w2).mono ?_
          rintro e w3 ⟨A3, c3, rfl, r3, hb3⟩
          go_wp2_with fail
          have e3 := HL.out
          rw [e3] at r3 ⊢
          refine (texts_same A3 A5 m c3 c5 ys _ _ w3 r3 ((r6.more hb2.size).below hb3)).mono ?_
          rintro e w4 ⟨rfl, hb4⟩
          go_wp2
          go_ret
          exact ⟨rfl, ((hb.trans (hb2.mono hbw)).trans (hb3.mono (Nat.le_trans hbw hb2.size))).trans (hb4.mono (Nat.le_trans hbw (Nat.le_trans hb2.size hb3.size)))⟩
end Go.Proofs.YtaillbmmkiklcaaDoor
