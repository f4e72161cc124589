/- What an instruction's octets tell, and what may be: plain facts; the contract of Check over any instruction; the front of a slice of octets that came in. Conditions: the variable 'rows' lies as it is laid. -/
import Derived.Test.YtcbekkbhhepeaaaDoorChecks
import Derived.DataShut
namespace Go.Proofs.YtcbekkbhhepeaaaDoor
open Go.RowKit

theorem shapes_four (k : Nat) (h1 : 1 ≤ k) (h2 : k ≤ 25) : (shapeAt k).length = 4 :=
  (by decide : ∀ k, k < 26 → 1 ≤ k → (shapeAt k).length = 4) k (by omega) h1
/-- Of an instruction's A, B and C the letter is never n. -/
theorem shapes_abc (k : Nat) (h1 : 1 ≤ k) (h2 : k ≤ 25) : ∀ i, i < 3 → (shapeAt k).getD i 0 ≠ 110 :=
  (by decide +kernel : ∀ k, k < 26 → 1 ≤ k → ∀ i, i < 3 → (shapeAt k).getD i 0 ≠ 110) k (by omega) h1
theorem shape_cases (o : Int) : (isOp o = false ∧ shapeZ o = []) ∨ (isOp o = true ∧ ∃ k l0 l1 l2 l3, 1 ≤ k ∧ k ≤ 25 ∧ shapeZ o = shapeAt k ∧ shapeAt k = [l0, l1, l2, l3]) := by
  cases ho : isOp o with
  | false => exact .inl ⟨rfl, by simp [shapeZ, ho]⟩
  | true =>
    have hb : 1 ≤ o ∧ o ≤ 25 := of_decide_eq_true ho
    have h4 := shapes_four o.toNat (by omega) (by omega)
    have e : shapeZ o = shapeAt o.toNat := by simp [shapeZ, ho]
    match hs : shapeAt o.toNat, h4 with
    | [l0, l1, l2, l3], _ => exact .inr ⟨rfl, o.toNat, l0, l1, l2, l3, by omega, by omega, e, hs⟩
theorem check_any (o a b c n r q s k : Int) (A : Option Addr) (l m : Nat) (w : World) (hL : Laid w) :
    Calls Tryd.prog 40 #[.agg #[.int .i64 o, .int .i64 a, .int .i64 b, .int .i64 c, .int .i64 n], .agg #[.int .i64 r, .int .i64 q, .int .i64 s, .slice A l m], .int .i64 k] w
      fun e w' => e = .returned (.int .i64 (chk o a b c n r s k)) ∧ Below w.heap.size w w' := by
  unfold chk
  rcases shape_cases o with ⟨_, h⟩ | ⟨_, i, l0, l1, l2, l3, _, _, h, h4⟩
  · rw [h]
    exact check_none o a b c n r q s k A l m w hL h
  · rw [h, h4]
    exact check_some o a b c n r q s k l0 l1 l2 l3 A l m w hL (h.trans h4)

theorem chk_halt : chk 1 0 0 0 0 0 0 0 = 0 := by decide +kernel
theorem fit_small {l x k : Int} (hl : l ≠ 110) (hk : k ≤ 16) (h : fitB l x 4 2 k = true) : 0 ≤ x ∧ x ≤ 16 := by
  unfold fitB at h
  simp only [inB] at h
  split at h
  · simp at h; omega
  split at h
  · simp at h; omega
  split at h
  · simp at h; omega
  split at h
  · simp at h; omega
  split at h
  · simp at h; omega
  simp at h
  omega
theorem chk_zero {o a b c n k : Int} (hk : k ≤ 16) (h : chk o a b c n 4 2 k = 0) : (1 ≤ o ∧ o ≤ 25) ∧ (0 ≤ a ∧ a ≤ 16) ∧ (0 ≤ b ∧ b ≤ 16) ∧ (0 ≤ c ∧ c ≤ 16) := by
  unfold chk at h
  rcases shape_cases o with ⟨_, h'⟩ | ⟨ho, i, l0, l1, l2, l3, h1, h2, h', h4⟩
  · rw [h'] at h
    simp [chkL] at h
  · rw [h', h4] at h
    simp only [chkL] at h
    split at h
    · rename_i hf
      simp only [Bool.and_eq_true] at hf
      obtain ⟨⟨⟨f0, f1⟩, f2⟩, f3⟩ := hf
      have hn := shapes_abc i h1 h2
      rw [h4] at hn
      have n0 : (l0.toNat : Int) ≠ 110 := fun e => hn 0 (by omega) (UInt8.toNat_inj.1 (by simpa using (by omega : l0.toNat = 110)))
      have n1 : (l1.toNat : Int) ≠ 110 := fun e => hn 1 (by omega) (UInt8.toNat_inj.1 (by simpa using (by omega : l1.toNat = 110)))
      have n2 : (l2.toNat : Int) ≠ 110 := fun e => hn 2 (by omega) (UInt8.toNat_inj.1 (by simpa using (by omega : l2.toNat = 110)))
      exact ⟨of_decide_eq_true ho, fit_small n0 hk f0, fit_small n1 hk f1, fit_small n2 hk f2⟩
    · omega

/-! ### octets -/
theorem five_len (o a b c n : Int) : (five o a b c n).length = 12 := rfl
theorem five_small (o a b c n : Int) : Small (five o a b c n) := by
  intro x hx
  simp only [five, List.mem_cons] at hx
  rcases hx with rfl | rfl | rfl | rfl | hx
  · exact dig_in _ _
  · exact dig_in _ _
  · exact dig_in _ _
  · exact dig_in _ _
  · exact digs_small _ _ x hx
theorem val_digs (x : Int) (k : Nat) (h8 : k ≤ 8) : val (digs x k) = x % 256 ^ k := by
  induction k with
  | zero => simp [digs, val]
  | succ k ih =>
    rw [digs, val_cons, digs_len, ih (by omega)]
    unfold dig
    rcases (by omega : k = 0 ∨ k = 1 ∨ k = 2 ∨ k = 3 ∨ k = 4 ∨ k = 5 ∨ k = 6 ∨ k = 7) with rfl | rfl | rfl | rfl | rfl | rfl | rfl | rfl <;>
      simp only [Nat.reduceMul, Nat.reduceAdd, Int.reducePow] <;> omega
theorem val_eight (n : Int) (h : (Lit.int .i64 n).wf = true) : wrap64 (val (digs n 8)) = n := by
  rw [val_digs n 8 (by omega)]
  have := (Lit.wf_int_iff .i64 n).1 h
  simp [IntKind.min, IntKind.max, IntKind.bits, IntKind.signed] at this
  unfold wrap64
  simp only [Int.reducePow]
  omega
theorem dig_byte {x : Int} (h : 0 ≤ x ∧ x ≤ 255) : dig x 0 = x := by
  unfold dig
  simp
  omega
theorem digs_val (y0 y1 y2 y3 y4 y5 y6 y7 : Int) (h0 : 0 ≤ y0 ∧ y0 ≤ 255) (h1 : 0 ≤ y1 ∧ y1 ≤ 255) (h2 : 0 ≤ y2 ∧ y2 ≤ 255) (h3 : 0 ≤ y3 ∧ y3 ≤ 255) (h4 : 0 ≤ y4 ∧ y4 ≤ 255) (h5 : 0 ≤ y5 ∧ y5 ≤ 255) (h6 : 0 ≤ y6 ∧ y6 ≤ 255) (h7 : 0 ≤ y7 ∧ y7 ≤ 255) :
    digs (wrap64 (val [y0, y1, y2, y3, y4, y5, y6, y7])) 8 = [y0, y1, y2, y3, y4, y5, y6, y7] := by
  have hv : val [y0, y1, y2, y3, y4, y5, y6, y7] = y0 * 72057594037927936 + y1 * 281474976710656 + y2 * 1099511627776 + y3 * 4294967296 + y4 * 16777216 + y5 * 65536 + y6 * 256 + y7 := by
    simp only [val, List.foldl_cons, List.foldl_nil]
    omega
  rw [hv]
  simp only [digs, dig, List.cons.injEq, and_true, Nat.reduceMul, Int.reducePow]
  unfold wrap64
  refine ⟨?_, ?_, ?_, ?_, ?_, ?_, ?_, ?_⟩ <;> omega
/-- What twelve octets tell, put, is the octets. -/
theorem five_back {xs : List Int} (hl : xs.length = 12) (hs : Small xs) : five (xs[0]?.getD 0) (xs[1]?.getD 0) (xs[2]?.getD 0) (xs[3]?.getD 0) (wrap64 (val (xs.drop 4))) = xs := by
  match xs, hl with
  | [x0, x1, x2, x3, y0, y1, y2, y3, y4, y5, y6, y7], _ =>
    have hm : ∀ x ∈ [x0, x1, x2, x3, y0, y1, y2, y3, y4, y5, y6, y7], 0 ≤ x ∧ x ≤ 255 := hs
    simp only [List.mem_cons, List.not_mem_nil, or_false, forall_eq_or_imp, forall_eq] at hm
    obtain ⟨a0, a1, a2, a3, b0, b1, b2, b3, b4, b5, b6, b7⟩ := hm
    show dig x0 0 :: dig x1 0 :: dig x2 0 :: dig x3 0 :: digs (wrap64 (val [y0, y1, y2, y3, y4, y5, y6, y7])) 8 = _
    rw [digs_val y0 y1 y2 y3 y4 y5 y6 y7 b0 b1 b2 b3 b4 b5 b6 b7, dig_byte a0, dig_byte a1, dig_byte a2, dig_byte a3]

/-! ### a slice of octets that came in -/
theorem oct_in {w : World} {a : Option Addr} {len cap : Nat} {zs : List Int} (h : (a = none ∧ len = 0 ∧ cap = 0 ∧ zs = []) ∨
    ∃ x, a = some x ∧ len ≤ cap ∧ cap ≤ maxLen ∧ zs.length = cap ∧ (∀ i, i < zs.length → w.cell? (x.add i) = some (.int .u8 (zs.getD i 0))) ∧ ∀ n ∈ zs, (Lit.int .u8 n).wf = true) :
    Oct w w.heap.size a len cap (zs.take len) := by
  rcases h with ⟨rfl, rfl, rfl, rfl⟩ | ⟨x, rfl, hl, hm, hz, hc, hw⟩
  · exact Oct.nil _ _
  · refine ⟨by rw [List.length_take]; omega, hl, hm, fun h => (by cases h), ?_, fun ad ha i hi => ?_⟩
    · intro n hn
      have := (Lit.wf_int_iff .u8 n).1 (hw n (List.mem_of_mem_take hn))
      exact ⟨this.1, this.2⟩
    · injection ha with ha
      subst ha
      have hci := hc i (by omega)
      refine ⟨by have := World.block_lt_of_cell? w _ hci; rwa [add_block] at this, ?_⟩
      rw [hci]
      simp [List.getD, hi]
/-- 'b[:k]', k not 0. -/
theorem cut_front (A : Option Addr) (n cap k : Nat) (h1 : 1 ≤ k) (hc : k ≤ cap) (w : World) :
    (Instr.slice 29 (.slice A n cap) none (some (.int .i64 (k : Int))) none).run Tryd.prog w = .ok (.slice A k cap) w := by
  rw [run_slice_h w 29 A n cap under22 .i64 _ (by omega) (by omega), size22]
  have e3 : ¬ cap = 0 := by omega
  simp only [Result.andThen, sliced, Int.toNat_natCast, if_neg e3, Nat.sub_zero, Nat.zero_mul]
  rcases A with _ | ad
  · rfl
  · simp [Addr.add]
end Go.Proofs.YtcbekkbhhepeaaaDoor
