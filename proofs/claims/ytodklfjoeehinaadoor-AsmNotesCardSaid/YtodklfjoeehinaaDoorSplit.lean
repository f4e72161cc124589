/- What the reference's Split answers. Conditions: a text of at most 100000 octets. -/
import Derived.Test.YtodklfjoeehinaaDoorDecs
namespace Go.Proofs.YtodklfjoeehinaaDoor
open Go.RowKit Nine

/-- How far the reference's Split has come. -/
def SplitAt (s : ByteArray) (pre : List (List UInt8)) (a k : Nat) : Prop :=
  a ≤ k ∧ k ≤ s.size ∧ parts 10 (oct s) = pre ++ parts 10 ((oct s).drop a) ∧ (10 : UInt8) ∉ ((oct s).take k).drop a
theorem SplitAt.start (s : ByteArray) : SplitAt s [] 0 0 := ⟨Nat.le_refl _, Nat.zero_le _, rfl, by simp⟩
theorem SplitAt.on {s : ByteArray} {pre : List (List UInt8)} {a k : Nat} (h : SplitAt s pre a k) (hk : k < s.size) (hx : s[k] ≠ 10) : SplitAt s pre a (k + 1) := by
  refine ⟨by have := h.1; omega, by omega, h.2.2.1, ?_⟩
  rw [mid_snoc s a k h.1 hk]
  simp only [List.mem_append, List.mem_singleton, not_or]
  exact ⟨h.2.2.2, fun e => hx e.symm⟩
theorem SplitAt.cut {s : ByteArray} {pre : List (List UInt8)} {a k : Nat} (h : SplitAt s pre a k) (hk : k < s.size) (hx : s[k] = 10) : SplitAt s (pre ++ [((oct s).take k).drop a]) (k + 1) (k + 1) := by
  refine ⟨Nat.le_refl _, by omega, ?_, by rw [mid_none]; simp⟩
  rw [h.2.2.1, drop_mid _ a k h.1 (by rw [oct_len]; omega), oct_drop s k hk, hx, parts_cut 10 _ _ h.2.2.2]
  simp
theorem SplitAt.last {s : ByteArray} {pre : List (List UInt8)} {a : Nat} (h : SplitAt s pre a s.size) : parts 10 (oct s) = pre ++ (if a < s.size then [((oct s).take s.size).drop a] else []) := by
  have e : (oct s).take s.size = oct s := List.take_of_length_le (by rw [oct_len]; exact Nat.le_refl _)
  have hn := h.2.2.2
  rw [e] at hn ⊢
  rw [h.2.2.1, parts_last 10 _ hn]
  congr 1
  by_cases ha : a < s.size
  · rw [if_pos ha, if_neg (by intro h0; have := congrArg List.length h0; rw [List.length_drop, oct_len] at this; simp at this; omega)]
  · rw [if_neg ha, if_pos (List.drop_eq_nil_of_le (by rw [oct_len]; omega))]
theorem SplitAt.len {s : ByteArray} {pre : List (List UInt8)} {a k : Nat} (h : SplitAt s pre a k) : pre.length ≤ s.size := by
  have h1 := congrArg List.length h.2.2.1
  have h2 := parts_le 10 (oct s)
  rw [oct_len] at h2
  rw [List.length_append] at h1
  omega
set_option maxRecDepth 100000 in
set_option maxHeartbeats 1000000 in
theorem refsplit_any (s : ByteArray) (hs : s.size ≤ 100000) (w : World) :
    Calls Tryd.prog 15 #[.string s] w fun e w' => ∃ v, e = .returned v ∧ w'.ownsRow w.heap.size 9 1 v (parts 10 (oct s)).length (vals (parts 10 (oct s))) ∧ Below w.heap.size w w' := by
  obtain ⟨i0, hi, hz0, hz1, hz2⟩ := info_parts info9
  have HI := Lib.hid hi
  have HZ0 := Lib.hid hz0
  have HZ1 := Lib.hid hz1
  have HZ2 := Lib.hid hz2
  clear hi hz0 hz1 hz2
  go_enter Tryd.func15, Tryd.ntmps15
  go_wp2
  go_loopw [3, 4, 5] (fun v a i wr => ∃ (pre : List (List UInt8)) (x k : Nat), a = .int .i64 x ∧ i = .int .i64 k ∧ SplitAt s pre x k ∧ wr.ownsRow w.heap.size 9 1 v pre.length (vals pre) ∧ Below w.heap.size w wr) (fun _ _ i _ => s.size - (intOf i).toNat)
  case atStart => exact ⟨[], 0, 0, rfl, rfl, SplitAt.start s, World.ownsRow_nil _ _ _ _, Below.refl _ _⟩
  case round =>
    obtain ⟨pre, x, k, rfl, rfl, hS, hown, hb⟩ := hrel
    have hx0 := hS.1
    have hk0 := hS.2.1
    have hpl := hS.len
    have hbs := hb.size
    by_cases hlt : k < s.size
    · rcases oct_ne s k 10 hlt (by decide) with ⟨t1, hc⟩ | ⟨t1, hc⟩
      · have HS := Lib.hid (hS.cut hlt hc)
        clear hS hc
        go_wp2_with (at_builtin; refine wpList_append_own _ rfl (.tmp 16) (.tmp 21) 39 rfl w.heap.size 9 i0 (.string ⟨#[]⟩) 1 16 Tryd.underlying39 HI.out HZ0.out HZ1.out HZ2.out rfl (by decide) _ _ _ rfl (hown.alloc _) ⟨wr.heap.size, 0, none⟩ 1 1 [.string (s.extract x k)] rfl rfl (cell_one_new _ _ _) (by simp [Value.oneCell']) (by unfold maxLen; omega) (by omega) (by simp; omega) ?_; intro v2 w2 hown2 hg2 _; have hb2 : Below w.heap.size w w2 := ((hb.alloc hbs _).grown hg2 (by simp; omega) (fun g hv => (hown.lt g hv).1)))
        go_roundw
        case rel => exact ⟨_, k + 1, k + 1, by go_num, by go_num, HS.out, by rw [vals_snoc, ← extract_txt]; simpa using hown2, hb2⟩
        case measure => simp [intOf]; omega
      · have HS := Lib.hid (hS.on hlt hc)
        clear hS hc
        go_wp2
        go_roundw
        case rel => exact ⟨pre, x, k + 1, rfl, by go_num, HS.out, hown, hb⟩
        case measure => simp [intOf]; omega
    · obtain rfl : k = s.size := by omega
      have hl := hS.last
      by_cases ht : x < s.size
      · rw [if_pos ht] at hl
        have HL := Lib.hid hl
        clear hl hS
        have t1 : decide ((x : Int) < (s.size : Int)) = true := decide_eq_true (by omega)
        go_wp2_with (at_builtin; refine wpList_append_own _ rfl (.tmp 29) (.tmp 33) 39 rfl w.heap.size 9 i0 (.string ⟨#[]⟩) 1 16 Tryd.underlying39 HI.out HZ0.out HZ1.out HZ2.out rfl (by decide) _ _ _ rfl (hown.alloc _) ⟨wr.heap.size, 0, none⟩ 1 1 [.string (s.extract x s.size)] rfl rfl (cell_one_new _ _ _) (by simp [Value.oneCell']) (by unfold maxLen; omega) (by omega) (by simp; omega) ?_; intro v2 w2 hown2 hg2 _; have hb2 : Below w.heap.size w w2 := ((hb.alloc hbs _).grown hg2 (by simp; omega) (fun g hv => (hown.lt g hv).1)))
        go_ret
        exact ⟨_, rfl, by rw [HL.out, vals_snoc, ← extract_txt]; simpa using hown2, hb2⟩
      · rw [if_neg ht, List.append_nil] at hl
        have HL := Lib.hid hl
        clear hl hS
        have t1 : decide ((x : Int) < (s.size : Int)) = false := decide_eq_false (by omega)
        go_wp2
        go_ret
        exact ⟨_, rfl, by rw [HL.out]; exact hown, hb⟩

end Go.Proofs.YtodklfjoeehinaaDoor
