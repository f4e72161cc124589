/- What the law's words, the reference's Join and warrenerplain's Texts (of two equal rows) answer. Conditions: texts of at most 2000 octets; at most 1000 words of at most 1000 octets each. -/
import Derived.Test.YtmkdmnaonddghaaDoorJoin
import Derived.OwnWalk
import Derived.Deep.QuietTactic
import Derived.BigQuiet
namespace Go.Proofs.YtmkdmnaonddghaaDoor
open Go.RowKit Nine

theorem refjoin_any (A : Option Addr) (n cap : Nat) (xs : List (List UInt8)) (B : Nat) (w : World) (h : Row w B A n cap xs) (hn : n ≤ 1000) (hx : ∀ x ∈ xs, x.length ≤ 1000) :
    Calls Tryd.prog 31 #[.slice A n cap] w fun e w' => e = .returned (.string (txt (joinL xs))) ∧ w = w' := by
  have hl := h.len
  have hmx := h.most
  have hrm := h.room
  unfold maxLen at hmx
  have HL := Lib.hid hl
  clear hl
  go_enter Tryd.func31, Tryd.ntmps31
  go_wp2
  go_loop [3, 4] (fun s i => ∃ k : Nat, k ≤ n ∧ i = .int .i64 k ∧ s = .string (txt (joinL (xs.take k)))) (fun _ i => n - (intOf i).toNat)
  case atStart => exact ⟨0, Nat.zero_le _, rfl, rfl⟩
  case round =>
    obtain ⟨k, hk, rfl, rfl⟩ := hrel
    have hs1 : (txt (joinL (xs.take k))).size ≤ 1001000 := by rw [txt_size]; exact take_small hx k (by omega)
    by_cases hlt : k < n
    · obtain ⟨ad, rfl, _, hcy⟩ := h.at_ k hlt
      have HT := Lib.hid (join_take HL.out hlt)
      have hs2 : (txt (xs.getD k [])).size ≤ 1000 := by rw [txt_size]; exact getD_small hx k
      have HE0 : Hid (k = 0 → joinL (xs.take k) = []) := Lib.hid fun h0 => by rw [h0]; rfl
      generalize xs.getD k [] = y at *
      generalize joinL (xs.take k) = q at *
      by_cases h0 : k = 0
      · have HQ : Hid (joinL (xs.take (k + 1)) = y) := Lib.hid (by rw [HT.out, if_pos h0])
        have HE : Hid (q = []) := Lib.hid (HE0.out h0)
        have t1 : decide ((0 : Int) < (k : Int)) = false := decide_eq_false (by omega)
        have hz : k ≤ 0 := by omega
        clear h0
        go_wp2
        go_round
        case rel => exact ⟨k + 1, by omega, by go_num, by rw [HQ.out, HE.out, txt_app]; rfl⟩
        case measure => simp [intOf]; omega
      · have HQ : Hid (joinL (xs.take (k + 1)) = q ++ 32 :: y) := Lib.hid (by rw [HT.out, if_neg h0])
        have t1 : decide ((0 : Int) < (k : Int)) = true := decide_eq_true (by omega)
        have hz : 0 < k := by omega
        clear h0
        go_wp2
        go_round
        case rel => exact ⟨k + 1, by omega, by go_num, by rw [HQ.out, sp_app]⟩
        case measure => simp [intOf]; omega
    · go_wp2
      go_ret
      have ek : k = n := by omega
      refine ⟨?_, rfl⟩
      rw [List.take_of_length_le (by rw [HL.out]; omega)]
      rfl

theorem texts_same (A A' : Option Addr) (n cap cap' : Nat) (xs : List (List UInt8)) (B B' : Nat) (w : World) (h : Row w B A n cap xs) (h' : Row w B' A' n cap' xs) :
    Calls Tryd.prog 18 #[.slice A n cap, .slice A' n cap'] w fun e w' => e = .returned (.bool true) ∧ Below w.heap.size w w' := by
  have hmx := h.most
  have hrm := h.room
  unfold maxLen at hmx
  go_enter Tryd.func18, Tryd.ntmps18
  go_wp2
  go_loopw [5] (fun i wr => ∃ k : Nat, k ≤ n ∧ i = .int .i64 k ∧ Below w.heap.size w wr ∧ Row wr B A n cap xs ∧ Row wr B' A' n cap' xs) (fun i _ => n - (intOf i).toNat)
  case atStart => exact ⟨0, Nat.zero_le _, rfl, Below.refl _ _, h, h'⟩
  case round =>
    obtain ⟨k, hk, rfl, hb, r, r'⟩ := hrel
    by_cases hlt : k < n
    · obtain ⟨ad, rfl, _, hcy⟩ := r.at_ k hlt
      obtain ⟨ad', rfl, _, hcz⟩ := r'.at_ k hlt
      go_wp2
      go_quiet (fail)
      go_wp2
      go_roundw
      case rel => exact ⟨k + 1, by omega, by go_num, below_drewN hb _, r.drewN _, r'.drewN _⟩
      case measure => simp [intOf]; omega
    · go_wp2
      go_ret
      exact ⟨rfl, hb⟩
set_option maxRecDepth 100000 in
set_option maxHeartbeats 1000000 in
theorem lwords_any (s : ByteArray) (hs : s.size ≤ 2000) (w : World) :
    Calls Tryd.prog 19 #[.string s] w fun e w' => ∃ v, e = .returned v ∧ w'.ownsRow w.heap.size 9 1 v (wordsL (oct s)).length (vals (wordsL (oct s))) ∧ Below w.heap.size w w' := by
  obtain ⟨i0, hi, hz0, hz1, hz2⟩ := info_parts info9
  have HI := Lib.hid hi
  have HZ0 := Lib.hid hz0
  have HZ1 := Lib.hid hz1
  have HZ2 := Lib.hid hz2
  clear hi hz0 hz1 hz2
  go_enter Tryd.func19, Tryd.ntmps19
  go_wp2
  go_loopw [3, 4, 5] (fun v a i wr => ∃ (pre : List (List UInt8)) (x k : Nat), a = .int .i64 x ∧ i = .int .i64 k ∧ ((k ≤ s.size ∧ WordsAt s pre x k) ∨ (k = s.size + 1 ∧ x ≤ k ∧ pre.length ≤ s.size ∧ wordsL (oct s) = pre)) ∧ wr.ownsRow w.heap.size 9 1 v pre.length (vals pre) ∧ Below w.heap.size w wr) (fun _ _ i _ => s.size + 1 - (intOf i).toNat)
  case atStart => exact ⟨[], 0, 0, rfl, rfl, .inl ⟨Nat.zero_le _, WordsAt.start s⟩, World.ownsRow_nil _ _ _ _, Below.refl _ _⟩
  case round =>
    obtain ⟨pre, x, k, rfl, rfl, hS, hown, hb⟩ := hrel
    have hbs := hb.size
    rcases hS with ⟨hk0, hS⟩ | ⟨rfl, hx0, hpl, hl⟩
    · have hx0 := hS.1
      have hpl := hS.len
      have t0 : decide ((k : Int) ≤ (s.size : Int)) = true := decide_eq_true (by omega)
      by_cases hlt : k < s.size
      · have t1 : ((k : Int) == (s.size : Int)) = false := by simp; omega
        rcases oct_ne s k 32 hlt (by decide) with ⟨t2, hc⟩ | ⟨t2, hc⟩
        · have hn := hS.cut hlt hc
          by_cases hx : x < k
          · rw [if_pos hx] at hn
            have HS := Lib.hid hn
            clear hS hc hn
            have t3 : decide ((x : Int) < (k : Int)) = true := decide_eq_true (by omega)
            go_wp2_with (at_builtin; refine wpList_append_own _ rfl (.tmp 25) (.tmp 30) 48 rfl w.heap.size 9 i0 (.string ⟨#[]⟩) 1 16 Tryd.underlying48 HI.out HZ0.out HZ1.out HZ2.out rfl (by decide) _ _ _ rfl (hown.alloc _) ⟨wr.heap.size, 0, none⟩ 1 1 [.string (s.extract x k)] rfl rfl (cell_one_new _ _ _) (by simp [Value.oneCell']) (by unfold maxLen; omega) (by omega) (by simp; omega) ?_; intro v2 w2 hown2 hg2 _; have hb2 : Below w.heap.size w w2 := ((hb.alloc hbs _).grown hg2 (by simp; omega) (fun g hv => (hown.lt g hv).1)))
            go_roundw
            case rel => exact ⟨_, k + 1, k + 1, by go_num, by go_num, .inl ⟨by omega, HS.out⟩, by rw [vals_snoc, ← extract_txt]; simpa using hown2, hb2⟩
            case measure => simp [intOf]; omega
          · rw [if_neg hx, List.append_nil] at hn
            have HS := Lib.hid hn
            clear hS hc hn
            have t3 : decide ((x : Int) < (k : Int)) = false := decide_eq_false (by omega)
            go_wp2
            go_roundw
            case rel => exact ⟨_, k + 1, k + 1, by go_num, by go_num, .inl ⟨by omega, HS.out⟩, hown, hb⟩
            case measure => simp [intOf]; omega
        · have HS := Lib.hid (hS.on hlt hc)
          clear hS hc
          go_wp2
          go_roundw
          case rel => exact ⟨pre, x, k + 1, rfl, by go_num, .inl ⟨by omega, HS.out⟩, hown, hb⟩
          case measure => simp [intOf]; omega
      · obtain rfl : k = s.size := by omega
        have hl := hS.last
        have t1 : ((s.size : Int) == (s.size : Int)) = true := by simp
        by_cases hx : x < s.size
        · rw [if_pos hx] at hl
          have HL := Lib.hid hl
          have hlen : (pre ++ [((oct s).take s.size).drop x]).length ≤ s.size := by rw [← hl]; have := words_le (oct s); rwa [oct_len] at this
          clear hl hS
          have t3 : decide ((x : Int) < (s.size : Int)) = true := decide_eq_true (by omega)
          go_wp2_with (at_builtin; refine wpList_append_own _ rfl (.tmp 25) (.tmp 30) 48 rfl w.heap.size 9 i0 (.string ⟨#[]⟩) 1 16 Tryd.underlying48 HI.out HZ0.out HZ1.out HZ2.out rfl (by decide) _ _ _ rfl (hown.alloc _) ⟨wr.heap.size, 0, none⟩ 1 1 [.string (s.extract x s.size)] rfl rfl (cell_one_new _ _ _) (by simp [Value.oneCell']) (by unfold maxLen; omega) (by omega) (by simp; omega) ?_; intro v2 w2 hown2 hg2 _; have hb2 : Below w.heap.size w w2 := ((hb.alloc hbs _).grown hg2 (by simp; omega) (fun g hv => (hown.lt g hv).1)))
          go_roundw
          case rel => exact ⟨_, s.size + 1, s.size + 1, by go_num, by go_num, .inr ⟨rfl, Nat.le_refl _, hlen, HL.out⟩, by rw [vals_snoc, ← extract_txt]; simpa using hown2, hb2⟩
          case measure => simp [intOf]
        · rw [if_neg hx, List.append_nil] at hl
          have HL := Lib.hid hl
          clear hl hS
          have t3 : decide ((x : Int) < (s.size : Int)) = false := decide_eq_false (by omega)
          go_wp2
          go_roundw
          case rel => exact ⟨_, s.size + 1, s.size + 1, by go_num, by go_num, .inr ⟨rfl, Nat.le_refl _, hpl, HL.out⟩, hown, hb⟩
          case measure => simp [intOf]
    · have t0 : decide (((s.size + 1 : Nat) : Int) ≤ (s.size : Int)) = false := decide_eq_false (by omega)
      have HL := Lib.hid hl
      clear hl
      go_wp2
      go_ret
      exact ⟨_, rfl, by rw [HL.out]; exact hown, hb⟩

end Go.Proofs.YtmkdmnaonddghaaDoor
