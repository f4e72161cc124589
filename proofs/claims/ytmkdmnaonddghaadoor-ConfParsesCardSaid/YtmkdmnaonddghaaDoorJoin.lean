/- What lines' Join answers. Conditions: at most 1000 words of at most 1000 octets each. -/
import Derived.Test.YtmkdmnaonddghaaDoorDecs
namespace Go.Proofs.YtmkdmnaonddghaaDoor
open Go.RowKit Nine

theorem join_len : ∀ (l : List (List UInt8)), (∀ x ∈ l, x.length ≤ 1000) → (joinL l).length ≤ 1001 * l.length
  | [], _ => by simp [joinL]
  | [x], h => by have := h x (by simp); simp [joinL]; omega
  | x :: y :: r, h => by
    have h1 := h x (by simp)
    have h2 := join_len (y :: r) fun z hz => h z (List.mem_cons_of_mem _ hz)
    simp only [joinL, List.length_append, List.length_cons] at h2 ⊢
    omega
theorem join_take {xs : List (List UInt8)} {n k : Nat} (hl : xs.length = n) (hk : k < n) : joinL (xs.take (k + 1)) = if k = 0 then xs.getD k [] else joinL (xs.take k) ++ 32 :: xs.getD k [] := by
  have hk' : k < xs.length := by omega
  rw [List.take_succ_eq_append_getElem hk']
  have e : xs[k] = xs.getD k [] := by simp [List.getD, hk']
  rw [e]
  by_cases h0 : k = 0
  · subst h0; rfl
  · rw [if_neg h0, join_snoc _ _ (by intro h; have hh := congrArg List.length h; rw [List.length_take, List.length_nil] at hh; omega)]
theorem take_small {xs : List (List UInt8)} (h : ∀ x ∈ xs, x.length ≤ 1000) (k : Nat) (hk : k ≤ 1000) : (joinL (xs.take k)).length ≤ 1001000 := by
  have h1 := join_len (xs.take k) fun x hx => h x (List.mem_of_mem_take hx)
  have h2 : (xs.take k).length ≤ k := by rw [List.length_take]; omega
  omega
theorem getD_small {xs : List (List UInt8)} (h : ∀ x ∈ xs, x.length ≤ 1000) (k : Nat) : (xs.getD k []).length ≤ 1000 := by
  rw [List.getD]
  cases e : xs[k]? with
  | none => simp
  | some x => exact h x (List.mem_of_getElem? e)

theorem sp_app (q y : List UInt8) : txt q ++ (⟨#[32]⟩ : ByteArray) ++ txt y = txt (q ++ 32 :: y) := by
  have e : (⟨#[32]⟩ : ByteArray) = txt [32] := rfl
  rw [e, txt_app, txt_app]
  simp
def cellsB (l : List UInt8) : List Value := Lib.byteCells l
theorem cellsB_app (a b : List UInt8) : cellsB (a ++ b) = cellsB a ++ cellsB b := Lib.byteCells_append a b
theorem cellsB_len (a : List UInt8) : (cellsB a).length = a.length := by simp [cellsB, Lib.byteCells]
theorem write_any (B b : Nat) (q y : List UInt8) (w : World) (h : Lib.IsBuilder 90 5 B b (cellsB q) w) (hq : q.length ≤ 2000000) (hy : y.length ≤ 1000) (hB : B ≤ w.heap.size) :
    Calls Tryd.prog 48 #[.pointer (some ⟨b, 0, none⟩), .string (txt y)] w fun e w' => ∃ v, e = .returned v ∧ Lib.IsBuilder 90 5 B b (cellsB (q ++ y)) w' ∧ Below B w w' := by
  refine (Tryd.Builder_WriteString B b (cellsB q) (txt y) w h (by rw [cellsB_len, txt_size]; omega) hB).mono ?_
  rintro e w' ⟨rfl, h1, h2⟩
  refine ⟨_, rfl, .inr ?_, h2⟩
  rw [cellsB_app]
  have e : cellsB y = Lib.byteCells (txt y).data.toList := by
    have : (txt y).data.toList = y := oct_txt y
    rw [this]
    rfl
  rw [e]
  exact h1
set_option maxRecDepth 100000 in
set_option maxHeartbeats 1000000 in
theorem join_any (A : Option Addr) (n cap : Nat) (xs : List (List UInt8)) (w : World) (h : Row w w.heap.size A n cap xs) (hn : n ≤ 1000) (hx : ∀ x ∈ xs, x.length ≤ 1000) :
    Calls Tryd.prog 27 #[.slice A n cap] w fun e w' => e = .returned (.string (txt (joinL xs))) ∧ Below w.heap.size w w' := by
  have hl := h.len
  have hmx := h.most
  have hrm := h.room
  unfold maxLen at hmx
  have HL := Lib.hid hl
  clear hl
  go_enter Tryd.func27, Tryd.ntmps27
  go_wp2
  go_loopw [4, 5, 8] (fun _ _ i wr => ∃ k : Nat, k ≤ n ∧ i = .int .i64 k ∧ Lib.IsBuilder 90 5 w.heap.size w.heap.size (cellsB (joinL (xs.take k))) wr ∧ Below w.heap.size w wr) (fun _ _ i _ => n - (intOf i).toNat)
  case atStart => exact ⟨0, Nat.zero_le _, rfl, Lib.fresh_isBuilder 90 5 w, (Below.refl _ _).alloc (Nat.le_refl _) _⟩
  case round =>
    obtain ⟨k, hk, rfl, hIB, hb⟩ := hrel
    have hbs := hb.size
    have hs1 := take_small hx k (by omega)
    by_cases hlt : k < n
    · obtain ⟨ad, rfl, _, hcy⟩ := (h.below hb).at_ k hlt
      have HT := Lib.hid (join_take HL.out hlt)
      have hs2 := getD_small hx k
      have HE0 : Hid (k = 0 → joinL (xs.take k) = []) := Lib.hid fun h0 => by rw [h0]; rfl
      generalize xs.getD k [] = y at *
      generalize joinL (xs.take k) = q at *
      by_cases h0 : k = 0
      · have HQ : Hid (joinL (xs.take (k + 1)) = q ++ y) := Lib.hid (by rw [HT.out, if_pos h0, HE0.out h0]; rfl)
        have t1 : decide ((0 : Int) < (k : Int)) = false := decide_eq_false (by omega)
        have hz : k ≤ 0 := by omega
        clear h0
        go_wp2_with fail
        refine (write_any _ _ q y _ hIB (by omega) hs2 hbs).mono ?_
        rintro e w1 ⟨v, rfl, hI1, hb1⟩
        go_wp2
        go_roundw
        case rel => exact ⟨k + 1, by omega, by go_num, by rw [HQ.out]; exact hI1, hb.trans hb1⟩
        case measure => simp [intOf]; omega
      · have HQ : Hid (joinL (xs.take (k + 1)) = (q ++ [32]) ++ y) := Lib.hid (by rw [HT.out, if_neg h0]; simp)
        have t1 : decide ((0 : Int) < (k : Int)) = true := decide_eq_true (by omega)
        have hz : 0 < k := by omega
        clear h0
        go_wp2_with fail
        refine (write_any _ _ q [32] _ hIB (by omega) (by decide) hbs).mono ?_
        rintro e w1 ⟨v, rfl, hI1, hb1⟩
        go_wp2_with fail
        refine (write_any _ _ (q ++ [32]) y _ hI1 (by simp; omega) hs2 (by have := hb1.size; omega)).mono ?_
        rintro e w2 ⟨v2, rfl, hI2, hb2⟩
        go_wp2
        go_roundw
        case rel => exact ⟨k + 1, by omega, by go_num, by rw [HQ.out]; exact hI2, (hb.trans hb1).trans hb2⟩
        case measure => simp [intOf]; omega
    · have ek : k = n := by omega
      rw [List.take_of_length_le (by rw [HL.out]; omega)] at hIB
      go_wp2_with fail
      refine (Tryd.Builder_String_any _ _ (joinL xs) _ hIB hbs).mono ?_
      rintro e w1 ⟨rfl, hb1⟩
      go_wp2
      go_ret
      exact ⟨rfl, hb.trans hb1⟩

end Go.Proofs.YtmkdmnaonddghaaDoor
