/- What the reference's Words answers. Conditions: texts of at most 1000 octets. -/
import Derived.Test.YtngnnpmojaglnaaDoorRow
namespace Go.Proofs.YtngnnpmojaglnaaDoor
open Go.RowKit

theorem drop_mid {α : Type} (l : List α) (a k : Nat) (h : a ≤ k) (hk : k ≤ l.length) : l.drop a = (l.take k).drop a ++ l.drop k := by
  have e := congrArg (List.drop a) (List.take_append_drop k l)
  rw [List.drop_append_of_le_length (by rw [List.length_take]; omega)] at e
  exact e.symm
theorem mid_snoc (s : ByteArray) (a k : Nat) (ha : a ≤ k) (hk : k < s.size) : ((oct s).take (k + 1)).drop a = ((oct s).take k).drop a ++ [s[k]] := by
  rw [oct_take s k hk, List.drop_append_of_le_length (by rw [List.length_take, oct_len]; omega)]
theorem mid_none {α : Type} (l : List α) (k : Nat) : (l.take k).drop k = [] := List.drop_eq_nil_of_le (by rw [List.length_take]; omega)

theorem oct_ne (s : ByteArray) (k c : Nat) (hk : k < s.size) (hc : c < 256) : (((s[k].toNat : Int) == (c : Int)) = true ∧ s[k] = UInt8.ofNat c) ∨ (((s[k].toNat : Int) == (c : Int)) = false ∧ s[k] ≠ UInt8.ofNat c) := by
  by_cases h : s[k].toNat = c
  · refine .inl ⟨by simp [h], ?_⟩
    rw [← h]
    exact UInt8.ofNat_toNat.symm
  · refine .inr ⟨by simp; omega, fun e => h ?_⟩
    rw [e, UInt8.toNat_ofNat']
    omega

/-- How far the reference's Words has come. -/
def WordsAt (s : ByteArray) (pre : List (List UInt8)) (a k : Nat) : Prop :=
  a ≤ k ∧ k ≤ s.size ∧ wordsL (oct s) = pre ++ wordsL ((oct s).drop a) ∧ (32 : UInt8) ∉ ((oct s).take k).drop a
theorem WordsAt.start (s : ByteArray) : WordsAt s [] 0 0 := ⟨Nat.le_refl _, Nat.zero_le _, rfl, by simp⟩
theorem WordsAt.on {s : ByteArray} {pre : List (List UInt8)} {a k : Nat} (h : WordsAt s pre a k) (hk : k < s.size) (hx : s[k] ≠ 32) : WordsAt s pre a (k + 1) := by
  refine ⟨by have := h.1; omega, by omega, h.2.2.1, ?_⟩
  rw [mid_snoc s a k h.1 hk]
  simp only [List.mem_append, List.mem_singleton, not_or]
  exact ⟨h.2.2.2, fun e => hx e.symm⟩
theorem mid_len (s : ByteArray) (a k : Nat) (hk : k ≤ s.size) : (((oct s).take k).drop a).length = k - a := by
  rw [List.length_drop, List.length_take, oct_len]
  omega
theorem WordsAt.cut {s : ByteArray} {pre : List (List UInt8)} {a k : Nat} (h : WordsAt s pre a k) (hk : k < s.size) (hx : s[k] = 32) : WordsAt s (pre ++ (if a < k then [((oct s).take k).drop a] else [])) (k + 1) (k + 1) := by
  refine ⟨Nat.le_refl _, by omega, ?_, by rw [mid_none]; simp⟩
  have hl := mid_len s a k (by omega)
  rw [h.2.2.1, drop_mid _ a k h.1 (by rw [oct_len]; omega), oct_drop s k hk, hx, words_cut _ _ h.2.2.2]
  by_cases ha : a < k
  · rw [if_pos ha, if_neg (by intro h0; rw [h0] at hl; simp at hl; omega)]
    simp
  · rw [if_neg ha, if_pos (List.eq_nil_of_length_eq_zero (by omega))]
    simp
theorem WordsAt.last {s : ByteArray} {pre : List (List UInt8)} {a : Nat} (h : WordsAt s pre a s.size) : wordsL (oct s) = pre ++ (if a < s.size then [((oct s).take s.size).drop a] else []) := by
  have e : (oct s).take s.size = oct s := List.take_of_length_le (by rw [oct_len]; exact Nat.le_refl _)
  have hn := h.2.2.2
  rw [e] at hn ⊢
  rw [h.2.2.1, words_last _ hn]
  congr 1
  by_cases ha : a < s.size
  · rw [if_pos ha, if_neg (by intro h0; have := congrArg List.length h0; rw [List.length_drop, oct_len] at this; simp at this; omega)]
  · rw [if_neg ha, if_pos (List.drop_eq_nil_of_le (by rw [oct_len]; omega))]
theorem WordsAt.len {s : ByteArray} {pre : List (List UInt8)} {a k : Nat} (h : WordsAt s pre a k) : pre.length ≤ s.size := by
  have h1 := congrArg List.length h.2.2.1
  have h2 := words_le (oct s)
  rw [oct_len] at h2
  rw [List.length_append] at h1
  omega

set_option maxRecDepth 100000 in
set_option maxHeartbeats 1000000 in
theorem refwords_any (s : ByteArray) (hs : s.size ≤ 1000) (w : World) :
    Calls Tryd.prog 16 #[.string s] w fun e w' => ∃ v, e = .returned v ∧ w'.ownsRow w.heap.size 9 1 v (wordsL (oct s)).length (vals (wordsL (oct s))) ∧ Below w.heap.size w w' := by
  obtain ⟨i0, hi, hz0, hz1, hz2⟩ := info_parts info9
  have HI := Lib.hid hi
  have HZ0 := Lib.hid hz0
  have HZ1 := Lib.hid hz1
  have HZ2 := Lib.hid hz2
  clear hi hz0 hz1 hz2
  go_enter Tryd.func16, Tryd.ntmps16
  go_wp2
  go_loopw [3, 4, 5] (fun v a i wr => ∃ (pre : List (List UInt8)) (x k : Nat), a = .int .i64 x ∧ i = .int .i64 k ∧ ((k ≤ s.size ∧ WordsAt s pre x k) ∨ (k = s.size + 1 ∧ x ≤ k ∧ pre.length ≤ s.size ∧ wordsL (oct s) = pre)) ∧ wr.ownsRow w.heap.size 9 1 v pre.length (vals pre) ∧ Below w.heap.size w wr) (fun _ _ i _ => s.size + 1 - (intOf i).toNat)
  case atStart => exact ⟨[], 0, 0, rfl, rfl, .inl ⟨Nat.zero_le _, WordsAt.start s⟩, World.ownsRow_nil _ _ _ _, Below.refl _ _⟩
  case round =>
    obtain ⟨pre, x, k, rfl, rfl, hS, hown, hb⟩ := hrel
    have hbs := hb.size
    rcases hS with ⟨hk0, hS⟩ | ⟨rfl, hx0, hpl, hl⟩
    · have hx0 := hS.1
      have hpl := hS.len
      have t0 : decide ((k : Int) ≤ (s.size : Int)) = true := decide_eq_true (by omega)
      by_cases hlt : k < s.size
      · have t1 : decide ((k : Int) < (s.size : Int)) = true := decide_eq_true (by omega)
        rcases oct_ne s k 32 hlt (by decide) with ⟨t2, hc⟩ | ⟨t2, hc⟩
        · have hn := hS.cut hlt hc
          by_cases hx : x < k
          · rw [if_pos hx] at hn
            have HS := Lib.hid hn
            clear hS hc hn
            have t3 : decide ((x : Int) < (k : Int)) = true := decide_eq_true (by omega)
            go_wp2_with (at_builtin; refine wpList_append_own _ rfl (.tmp 25) (.tmp 30) 31 rfl w.heap.size 9 i0 (.string ⟨#[]⟩) 1 16 Tryd.underlying31 HI.out HZ0.out HZ1.out HZ2.out rfl (by decide) _ _ _ rfl (hown.alloc _) ⟨wr.heap.size, 0, none⟩ 1 1 [.string (s.extract x k)] rfl rfl (cell_one_new _ _ _) (by simp [Value.oneCell']) (by unfold maxLen; omega) (by omega) (by simp; omega) ?_; intro v2 w2 hown2 hg2 _; have hb2 : Below w.heap.size w w2 := ((hb.alloc hbs _).grown hg2 (by simp; omega) (fun g hv => (hown.lt g hv).1)))
            go_roundw
            case rel => exact ⟨_, k + 1, k + 1, by go_num, by go_num, .inl ⟨by omega, HS.out⟩, by rw [vals_snoc, ← extract_txt]; simpa using hown2, hb2⟩
            case measure => simp [intOf]; omega
          · rw [if_neg hx, List.append_nil] at hn
            have HS := Lib.hid hn
            clear hS hc hn
            have t3 : decide ((x : Int) < (k : Int)) = false := decide_eq_false (by omega)
            go_wp2
            go_roundw
            case rel => exact ⟨_, k + 1, k + 1, by go_num, by go_num, .inl ⟨by omega, HS.out⟩, hown, hb⟩
            case measure => simp [intOf]; omega
        · have HS := Lib.hid (hS.on hlt hc)
          clear hS hc
          go_wp2
          go_roundw
          case rel => exact ⟨pre, x, k + 1, rfl, by go_num, .inl ⟨by omega, HS.out⟩, hown, hb⟩
          case measure => simp [intOf]; omega
      · obtain rfl : k = s.size := by omega
        have hl := hS.last
        have t1 : decide ((s.size : Int) < (s.size : Int)) = false := decide_eq_false (by omega)
        by_cases hx : x < s.size
        · rw [if_pos hx] at hl
          have HL := Lib.hid hl
          have hlen : (pre ++ [((oct s).take s.size).drop x]).length ≤ s.size := by rw [← hl]; have := words_le (oct s); rwa [oct_len] at this
          clear hl hS
          have t3 : decide ((x : Int) < (s.size : Int)) = true := decide_eq_true (by omega)
          go_wp2_with (at_builtin; refine wpList_append_own _ rfl (.tmp 25) (.tmp 30) 31 rfl w.heap.size 9 i0 (.string ⟨#[]⟩) 1 16 Tryd.underlying31 HI.out HZ0.out HZ1.out HZ2.out rfl (by decide) _ _ _ rfl (hown.alloc _) ⟨wr.heap.size, 0, none⟩ 1 1 [.string (s.extract x s.size)] rfl rfl (cell_one_new _ _ _) (by simp [Value.oneCell']) (by unfold maxLen; omega) (by omega) (by simp; omega) ?_; intro v2 w2 hown2 hg2 _; have hb2 : Below w.heap.size w w2 := ((hb.alloc hbs _).grown hg2 (by simp; omega) (fun g hv => (hown.lt g hv).1)))
          go_roundw
          case rel => exact ⟨_, s.size + 1, s.size + 1, by go_num, by go_num, .inr ⟨rfl, Nat.le_refl _, hlen, HL.out⟩, by rw [vals_snoc, ← extract_txt]; simpa using hown2, hb2⟩
          case measure => simp [intOf]
        · rw [if_neg hx, List.append_nil] at hl
          have HL := Lib.hid hl
          clear hl hS
          have t3 : decide ((x : Int) < (s.size : Int)) = false := decide_eq_false (by omega)
          go_wp2
          go_roundw
          case rel => exact ⟨_, s.size + 1, s.size + 1, by go_num, by go_num, .inr ⟨rfl, Nat.le_refl _, hpl, HL.out⟩, hown, hb⟩
          case measure => simp [intOf]
    · have t0 : decide (((s.size + 1 : Nat) : Int) ≤ (s.size : Int)) = false := decide_eq_false (by omega)
      have HL := Lib.hid hl
      clear hl
      go_wp2
      go_ret
      exact ⟨_, rfl, by rw [HL.out]; exact hown, hb⟩
end Go.Proofs.YtngnnpmojaglnaaDoor
