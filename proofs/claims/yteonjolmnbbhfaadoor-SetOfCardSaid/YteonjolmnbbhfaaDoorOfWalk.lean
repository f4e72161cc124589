/- The set of any numbers has just those of them that may be in one; its list has them rising, each once: the walk. Conditions: the table of math/bits lies as it is laid. -/
import Derived.Test.YteonjolmnbbhfaaDoorLeast
import Derived.WalkSpells
import Derived.Laws.BytesArg
namespace Go.Proofs.YteonjolmnbbhfaaDoor
open Go.RowKit

/-- The numbers below k that are in ys. -/
def want (ys : List Int) (k : Nat) : List Nat := (List.range k).filter fun j => decide ((j : Int) ∈ ys)
theorem want_hit (ys : List Int) (k : Nat) (h : (k : Int) ∈ ys) : want ys (k + 1) = want ys k ++ [k] := by
  unfold want
  rw [List.range_succ, List.filter_append]
  simp [h]
theorem want_miss (ys : List Int) (k : Nat) (h : ¬ (k : Int) ∈ ys) : want ys (k + 1) = want ys k := by
  unfold want
  rw [List.range_succ, List.filter_append]
  simp [h]
theorem want_len (ys : List Int) (k : Nat) : (want ys k).length ≤ k := by
  unfold want
  exact Nat.le_trans (List.length_filter_le _ _) (by simp)
theorem want_all (ys : List Int) : want ys 64 = mem (ofN ys) := by
  unfold want mem
  exact List.filter_congr fun j hj => (of_bit ys j (by simpa using hj)).symm
theorem take_in (ys : List Int) (q : Nat) (k : Int) (hq : q < ys.length) : decide (k ∈ ys.take (q + 1)) = (decide (k ∈ ys.take q) || (ys[q]?.getD 0 == k)) := by
  rw [List.take_succ_eq_append_getElem hq, List.getElem?_eq_getElem hq, Bool.eq_iff_iff]
  simp only [decide_eq_true_eq, List.mem_append, List.mem_singleton, Option.getD_some, Bool.or_eq_true, beq_iff_eq]
  exact ⟨fun h => h.elim .inl (fun h => .inr h.symm), fun h => h.elim .inl (fun h => .inr h.symm)⟩

theorem under22 : Tryd.prog.underlying 22 = some (.slice (Tryd.prog.elem 22)) := by kernel_rfl
theorem size22 (w : World) : (sizeOf (Tryd.prog.elem 22)).run Tryd.prog w = .ok 1 w := by kernel_rfl
theorem cut_front (A : Option Addr) (n cap k : Nat) (h1 : 1 ≤ k) (hc : k ≤ cap) (w : World) :
    (Instr.slice 22 (.slice A n cap) none (some (.int .i64 (k : Int))) none).run Tryd.prog w = .ok (.slice A k cap) w := by
  rw [run_slice_h w 22 A n cap under22 .i64 _ (by omega) (by omega), size22]
  have e3 : ¬ cap = 0 := by omega
  simp only [Result.andThen, sliced, Int.toNat_natCast, if_neg e3, Nat.sub_zero, Nat.zero_mul]
  rcases A with _ | ad
  · rfl
  · simp [Addr.add]
theorem cut_200 (A : Option Addr) (n cap : Nat) (hc : 200 ≤ cap) : ∃ m : Nat, m = 200 ∧ ∀ w, (Instr.slice 22 (.slice A n cap) none (some (.int .i64 200)) none).run Tryd.prog w = .ok (.slice A m cap) w :=
  ⟨200, rfl, fun w => cut_front A n cap 200 (by omega) hc w⟩

theorem has_of (ys : List Int) (k : Nat) (hk : k < 64) (w : World) : Calls Tryd.prog 8 #[.int .u64 (ofN ys : Int), .int .i64 (k : Int)] w fun e w' => e = .returned (.bool (decide ((k : Int) ∈ ys))) ∧ w = w' := by
  have h := has_any (ofN ys) (k : Int) (of_lt ys) w
  rw [has_in _ k hk, of_bit ys k hk] at h
  exact h

set_option maxRecDepth 100000 in
set_option maxHeartbeats 1000000 in
theorem of_walk (A : Option Addr) (n cap : Nat) (xs : List Int) (w : World) (h : Row w w.heap.size A n cap xs) (hT : Tab w) :
    Calls Tryd.prog 3 #[.slice A n cap] w fun e w' => e = .returned (.bool true) ∧ Below w.heap.size w w' := by
  have hw0 := tab_lt hT
  have hr := h.room
  have hmx := h.most
  unfold maxLen at hmx
  obtain ⟨i0, hi, hz0, hz1, hz2⟩ := info_parts info3
  rcases Nat.lt_or_ge 200 n with hn | hn
  all_goals first
    | (have t1 : decide ((200 : Int) < (n : Int)) = true := by simp; omega
       obtain ⟨m, hm, hc⟩ := cut_200 A n cap (by omega)
       have hf := h.front (k := m) (by omega)
       generalize xs.take m = ys at *
       have HL := Lib.hid hf.len
       have hm1 : m ≤ 200 := by omega
       have hm2 : (m : Int) ≤ 200 := by omega
       clear hm
       go_enter Tryd.func3, Tryd.ntmps3
       go_wp2_with (first
         | (go_at_call 6; refine (alive_any _ hT).mono ?_; rintro e w1 ⟨rfl, hb1⟩; have hT1 := hT.below hw0 hb1)
         | (go_at_call 7; refine (of_any _ _ _ _ _ _ (hf.below hb1)).mono ?_; rintro e w' ⟨rfl, rfl⟩)))
    | (have t1 : decide ((200 : Int) < (n : Int)) = false := by simp; omega
       obtain ⟨m, hm⟩ : ∃ m, m = n := ⟨_, rfl⟩
       obtain ⟨ys, hys⟩ : ∃ ys, ys = xs := ⟨_, rfl⟩
       have hf := h
       rw [← hm, ← hys] at hf
       have HL := Lib.hid hf.len
       have hm1 : m ≤ 200 := by omega
       have hm2 : (m : Int) ≤ 200 := by omega
       subst hm
       subst hys
       go_enter Tryd.func3, Tryd.ntmps3
       go_wp2_with (first
         | (go_at_call 6; refine (alive_any _ hT).mono ?_; rintro e w1 ⟨rfl, hb1⟩; have hT1 := hT.below hw0 hb1)
         | (go_at_call 7; refine (of_any _ _ _ _ _ _ (hf.below hb1)).mono ?_; rintro e w' ⟨rfl, rfl⟩)))
  all_goals
    have HI := Lib.hid hi
    have HZ0 := Lib.hid hz0
    have HZ1 := Lib.hid hz1
    have HZ2 := Lib.hid hz2
    clear hi hz0 hz1 hz2
    go_loopw [4, 5] (fun v i wr => ∃ k : Nat, k ≤ 64 ∧ i = .int .i64 k ∧ wr.ownsRow w.heap.size 3 1 v (want ys k).length (vals (want ys k)) ∧ Below w.heap.size w wr) (fun _ i _ => 64 - (intOf i).toNat)
    case atStart => exact ⟨0, by omega, rfl, World.ownsRow_nil _ _ _ _, hb1⟩
    case round =>
      obtain ⟨k, hk, rfl, hown, hb⟩ := hrel
      have hwl := want_len ys k
      have hTr := hT.below hw0 hb
      by_cases hlt : k < 64
      · have hk64 : (k : Int) < 64 := by omega
        go_wp2
        go_loop [6, 7] (fun b j => ∃ q : Nat, q ≤ m ∧ j = .int .i64 q ∧ b = .bool (decide ((k : Int) ∈ ys.take q))) (fun _ j => m - (intOf j).toNat)
        case atStart => exact ⟨0, Nat.zero_le _, rfl, by simp⟩
        case round =>
          obtain ⟨q, hq, rfl, rfl⟩ := hrel
          by_cases hqt : q < m
          · obtain ⟨ad, rfl⟩ : ∃ ad, A = some ad := by
              cases A with
              | none => have := hf.zero.1; omega
              | some ad => exact ⟨ad, rfl⟩
            have hcy := ((hf.below hb).cell ad rfl q hqt).2
            have HN := Lib.hid (take_in ys q (k : Int) (by rw [HL.out]; exact hqt))
            by_cases hq2 : (k : Int) ∈ ys.take q
            · have hd : decide ((k : Int) ∈ ys.take q) = true := by simp [hq2]
              have HD := Lib.hid hd
              clear hq2
              go_wp2
              go_round
              case rel => exact ⟨q + 1, by omega, by go_num, by rw [HN.out, HD.out]; rfl⟩
              case measure => simp [intOf]; omega
            · have hd : decide ((k : Int) ∈ ys.take q) = false := by simp [hq2]
              have HD := Lib.hid hd
              clear hq2
              go_wp2
              go_round
              case rel => exact ⟨q + 1, by omega, by go_num, by rw [HN.out, HD.out]; rfl⟩
              case measure => simp [intOf]; omega
          · have eq : q = m := by omega
            subst eq
            have et : ys.take q = ys := List.take_of_length_le (by rw [HL.out]; omega)
            obtain ⟨b, eb⟩ : ∃ b, b = decide ((k : Int) ∈ ys) := ⟨_, rfl⟩
            have HQ : ∀ w : World, Calls Tryd.prog 8 #[.int .u64 (ofN ys : Int), .int .i64 (k : Int)] w fun e w' => e = .returned (.bool b) ∧ w = w' := by
              rw [eb]
              exact has_of ys k hlt
            rw [et, ← eb]
            clear et
            cases b with
            | true =>
              have HW := Lib.hid (want_hit ys k (by simpa using eb.symm))
              clear eb
              have hb0 := hb.size
              go_wp2_with (first
                | (at_builtin; refine wpList_append_own _ rfl (.tmp 37) (.tmp 39) 22 rfl w.heap.size 3 i0 (.int .i64 0) 1 8 Tryd.underlying22 HI.out HZ0.out HZ1.out HZ2.out rfl (by decide) _ _ _ rfl (hown.alloc _) ⟨wr.heap.size, 0, none⟩ 1 1 [.int .i64 (k : Int)] rfl rfl (cell_one_new _ _ _) (by simp [Value.oneCell']) (by unfold maxLen; omega) (by omega) (by simp; omega) ?_; intro v2 w2 hown2 hg2 _; have hb2 : Below w.heap.size w w2 := ((hb.alloc hb0 _).grown hg2 (by simp; omega) (fun g hv => (hown.lt g hv).1)))
                | (go_at_call 8; refine (HQ _).mono ?_; rintro e w' ⟨rfl, rfl⟩))
              go_roundw
              case rel => exact ⟨k + 1, by omega, by go_num, by rw [HW.out, vals_snoc]; simpa using hown2, hb2⟩
              case measure => simp [intOf]; omega
            | false =>
              have HW := Lib.hid (want_miss ys k (by simpa using eb.symm))
              clear eb
              go_wp2_with (first
                | (go_at_call 8; refine (HQ _).mono ?_; rintro e w' ⟨rfl, rfl⟩))
              go_roundw
              case rel => exact ⟨k + 1, by omega, by go_num, by rw [HW.out]; exact hown, hb⟩
              case measure => simp [intOf]; omega
      · have ek : k = 64 := by omega
        subst ek
        rw [want_all] at hown
        obtain ⟨A4, cap4, rfl, hr4⟩ := Row.own hown
        have hml := mem_len (ofN ys)
        have hmI : ((mem (ofN ys)).length : Int) ≤ 64 := by omega
        go_wp2_with fail
        refine (list_row _ (of_lt ys) wr hTr).mono ?_
        rintro e w5 ⟨A5, cap5, rfl, hr5, hb5⟩
        have hT5 := hTr.below (tab_lt hTr) hb5
        go_wp2_with fail
        refine (ints_same A5 A4 _ cap5 cap4 _ _ _ w5 hr5 (hr4.below hb5)).mono ?_
        rintro e w6 ⟨rfl, hb6⟩
        have hT6 := hT5.below (tab_lt hT5) hb6
        go_wp2_with fail
        refine (count_any _ (of_lt ys) _).mono ?_
        rintro e w' ⟨rfl, rfl⟩
        go_wp2_with fail
        refine (list_row _ (of_lt ys) w6 hT6).mono ?_
        rintro e w7 ⟨A7, cap7, rfl, hr7, hb7⟩
        go_wp2_with fail
        have ho := of_any A7 _ cap7 _ _ w7 hr7
        rw [of_mem _ (of_lt ys)] at ho
        refine ho.mono ?_
        rintro e w' ⟨rfl, rfl⟩
        go_wp2
        go_ret
        exact ⟨rfl, hb.trans ((hb5.trans ((hb6.trans (hb7.mono hb6.size)).mono hb5.size)).mono hb.size)⟩
end Go.Proofs.YteonjolmnbbhfaaDoor
