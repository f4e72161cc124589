/- Decimals as octets; what lines' Decimal and Join answer. Conditions: the library's table of powers of ten lies as it is laid; at most 1000 words of at most 1000 octets each. -/
import Derived.Test.YtabnfiligbpocaaDoorClone
import Derived.Test.YtabnfiligbpocaaDoorShelf
import Derived.Lib.ItoaLen
import Derived.OwnWalk
import Derived.Maps.AppendAt
import Derived.Deep.QuietTactic
namespace Go.Proofs.YtabnfiligbpocaaDoor
open Go.RowKit

/-- The numbers of 64 bits. -/
def Wide (n : Int) : Prop := -9223372036854775808 ≤ n ∧ n ≤ 9223372036854775807
theorem txt_app (a b : List UInt8) : txt a ++ txt b = txt (a ++ b) := by
  have h : oct (txt a ++ txt b) = a ++ b := by simp [oct, txt]
  rw [← h, txt_oct]
theorem grow_below (w : World) (k : Nat) (os : Array Obj) : Below w.heap.size w (Sort.grow (w.drewN k) os) := by
  refine ⟨rfl, rfl, rfl, ?_, fun b hb => ?_⟩
  · show w.heap.size ≤ (w.heap ++ os).size
    simp
  · show (w.heap ++ os)[b]? = w.heap[b]?
    rw [Array.getElem?_append_left hb]
theorem txt_itoa (n : Int) : (⟨(Lib.itoa n).toArray⟩ : ByteArray) = txt (Lib.itoa n) := rfl
theorem dec_any (n : Int) (hn : Wide n) (w : World) (hL : Laid w) : Calls Tryd.prog 17 #[.int .i64 n] w fun e w' => e = .returned (.string (txt (Lib.itoa n))) ∧ Below w.heap.size w w' := by
  go_enter Tryd.func17, Tryd.ntmps17
  go_wp2_with fail
  refine (Tryd.strconv_FormatInt_10 n hn.1 hn.2 w hL.tens).mono ?_
  rintro e w1 ⟨rfl, k, os, rfl⟩
  rw [txt_itoa]
  have hb := grow_below w k os
  have hs : (txt (Lib.itoa n)).size ≤ 21 := by rw [txt_size]; exact Lib.itoa_length_le n hn.1 hn.2
  generalize Sort.grow (w.drewN k) os = w1 at *
  go_wp2_with fail
  refine (clone_any _ (by omega) w1).mono ?_
  rintro e w2 ⟨rfl, hb2⟩
  go_wp2
  go_ret
  exact ⟨rfl, hb.trans (hb2.mono hb.size)⟩

def joinL : List (List UInt8) → List UInt8
  | [] => []
  | [x] => x
  | x :: y :: r => x ++ 32 :: joinL (y :: r)
theorem join_snoc (x : List UInt8) : ∀ (l : List (List UInt8)), l ≠ [] → joinL (l ++ [x]) = joinL l ++ (32 :: x)
  | [], h => absurd rfl h
  | [a], _ => rfl
  | a :: b :: r, _ => by
    have ih := join_snoc x (b :: r) (by simp)
    simp only [List.cons_append, joinL] at ih ⊢
    rw [ih]
    simp
/-- Texts as the cells hold them. -/
def vals (xs : List (List UInt8)) : List Value := xs.map fun x => Value.string (txt x)
theorem vals_snoc (pre : List (List UInt8)) (x : List UInt8) : vals (pre ++ [x]) = vals pre ++ [Value.string (txt x)] := by simp [vals]
theorem vals_len (xs : List (List UInt8)) : (vals xs).length = xs.length := by simp [vals]

/-- The slice value '.slice A n cap' holds the texts xs, and lies below block B. -/
structure Row (w : World) (B : Nat) (A : Option Addr) (n cap : Nat) (xs : List (List UInt8)) : Prop where
  len : xs.length = n
  room : n ≤ cap
  most : cap ≤ maxLen
  none_ : A = none → cap = 0
  cell : ∀ ad, A = some ad → ∀ i, i < n → ad.block < B ∧ w.cell? (ad.add i) = some (.string (txt (xs.getD i [])))
theorem add_block9 (a : Addr) (n : Nat) : (a.add n).block = a.block := by unfold Addr.add; split <;> rfl
section
variable {w w' : World} {B n cap : Nat} {A : Option Addr} {xs : List (List UInt8)}
theorem Row.nil (w : World) (B : Nat) : Row w B none 0 0 [] := ⟨rfl, Nat.le_refl _, Nat.zero_le _, fun _ => rfl, fun _ h => (by cases h)⟩
theorem Row.below (h : Row w B A n cap xs) (hb : Below B w w') : Row w' B A n cap xs :=
  ⟨h.len, h.room, h.most, h.none_, fun ad ha i hi => ⟨(h.cell ad ha i hi).1, (hb.cell (by rw [add_block9]; exact (h.cell ad ha i hi).1)).trans (h.cell ad ha i hi).2⟩⟩
theorem Row.drewN (h : Row w B A n cap xs) (q : Nat) : Row (w.drewN q) B A n cap xs := ⟨h.len, h.room, h.most, h.none_, h.cell⟩
theorem below_drewN {b : Nat} (h : Below b w w') (q : Nat) : Below b w (w'.drewN q) := ⟨h.os, h.tape, h.output, h.size, h.block⟩
theorem Row.more {B' : Nat} (h : Row w B A n cap xs) (hB : B ≤ B') : Row w B' A n cap xs :=
  ⟨h.len, h.room, h.most, h.none_, fun ad ha i hi => ⟨Nat.lt_of_lt_of_le (h.cell ad ha i hi).1 hB, (h.cell ad ha i hi).2⟩⟩
theorem Row.zero (h : Row w B none n cap xs) : n = 0 ∧ cap = 0 ∧ xs = [] := by
  have hc := h.none_ rfl
  have hr := h.room
  have hl := h.len
  exact ⟨by omega, hc, List.eq_nil_of_length_eq_zero (by omega)⟩
theorem Row.at_ (h : Row w B A n cap xs) (i : Nat) (hi : i < n) : ∃ ad, A = some ad ∧ ad.block < B ∧ w.cell? (ad.add i) = some (.string (txt (xs.getD i []))) := by
  cases A with
  | none => have := h.zero.1; omega
  | some ad => exact ⟨ad, rfl, h.cell ad rfl i hi⟩
/-- What the call owns reads so. -/
theorem Row.own {base : Nat} {v : Value} (h : w.ownsRow base 9 1 v n (vals xs)) : ∃ A cap, v = .slice A n cap ∧ Row w w.heap.size A n cap xs := by
  have hl : xs.length = n := by have := h.1; rw [vals_len] at this; omega
  rcases h.2 with ⟨rfl, rfl⟩ | ⟨g, cap, cur, rfl, _, hg, hnc, hcm, hcs, ht⟩
  · refine ⟨none, 0, rfl, ?_⟩
    obtain rfl : xs = [] := List.eq_nil_of_length_eq_zero hl
    exact Row.nil _ _
  · refine ⟨_, cap, rfl, by simpa using hl, hnc, hcm, fun hh => (by cases hh), fun ad ha i hi => ?_⟩
    injection ha with ha
    subst ha
    refine ⟨(Array.getElem?_eq_some_iff.1 hg).1, h.cells (g := g) rfl i _ ?_⟩
    rw [vals, List.getElem?_map, List.getElem?_eq_getElem (by omega)]
    simp [List.getD, List.getElem?_eq_getElem (show i < xs.length by omega)]
end


theorem join_len : ∀ (l : List (List UInt8)), (∀ x ∈ l, x.length ≤ 1000) → (joinL l).length ≤ 1001 * l.length
  | [], _ => by simp [joinL]
  | [x], h => by have := h x (by simp); simp [joinL]; omega
  | x :: y :: r, h => by
    have h1 := h x (by simp)
    have h2 := join_len (y :: r) fun z hz => h z (List.mem_cons_of_mem _ hz)
    simp only [joinL, List.length_append, List.length_cons] at h2 ⊢
    omega
theorem join_take {xs : List (List UInt8)} {n k : Nat} (hl : xs.length = n) (hk : k < n) : joinL (xs.take (k + 1)) = if k = 0 then xs.getD k [] else joinL (xs.take k) ++ 32 :: xs.getD k [] := by
  have hk' : k < xs.length := by omega
  rw [List.take_succ_eq_append_getElem hk']
  have e : xs[k] = xs.getD k [] := by simp [List.getD, hk']
  rw [e]
  by_cases h0 : k = 0
  · subst h0; rfl
  · rw [if_neg h0, join_snoc _ _ (by intro h; have hh := congrArg List.length h; rw [List.length_take, List.length_nil] at hh; omega)]
theorem take_small {xs : List (List UInt8)} (h : ∀ x ∈ xs, x.length ≤ 1000) (k : Nat) (hk : k ≤ 1000) : (joinL (xs.take k)).length ≤ 1001000 := by
  have h1 := join_len (xs.take k) fun x hx => h x (List.mem_of_mem_take hx)
  have h2 : (xs.take k).length ≤ k := by rw [List.length_take]; omega
  omega
theorem getD_small {xs : List (List UInt8)} (h : ∀ x ∈ xs, x.length ≤ 1000) (k : Nat) : (xs.getD k []).length ≤ 1000 := by
  rw [List.getD]
  cases e : xs[k]? with
  | none => simp
  | some x => exact h x (List.mem_of_getElem? e)

theorem sp_app (q y : List UInt8) : txt q ++ (⟨#[32]⟩ : ByteArray) ++ txt y = txt (q ++ 32 :: y) := by
  have e : (⟨#[32]⟩ : ByteArray) = txt [32] := rfl
  rw [e, txt_app, txt_app]
  simp
def cellsB (l : List UInt8) : List Value := Lib.byteCells l
theorem cellsB_app (a b : List UInt8) : cellsB (a ++ b) = cellsB a ++ cellsB b := Lib.byteCells_append a b
theorem cellsB_len (a : List UInt8) : (cellsB a).length = a.length := by simp [cellsB, Lib.byteCells]
theorem write_any (B b : Nat) (q y : List UInt8) (w : World) (h : Lib.IsBuilder 68 5 B b (cellsB q) w) (hq : q.length ≤ 2000000) (hy : y.length ≤ 1000) (hB : B ≤ w.heap.size) :
    Calls Tryd.prog 39 #[.pointer (some ⟨b, 0, none⟩), .string (txt y)] w fun e w' => ∃ v, e = .returned v ∧ Lib.IsBuilder 68 5 B b (cellsB (q ++ y)) w' ∧ Below B w w' := by
  refine (Tryd.Builder_WriteString B b (cellsB q) (txt y) w h (by rw [cellsB_len, txt_size]; omega) hB).mono ?_
  rintro e w' ⟨rfl, h1, h2⟩
  refine ⟨_, rfl, .inr ?_, h2⟩
  rw [cellsB_app]
  have e : cellsB y = Lib.byteCells (txt y).data.toList := by
    have : (txt y).data.toList = y := oct_txt y
    rw [this]
    rfl
  rw [e]
  exact h1
set_option maxRecDepth 100000 in
set_option maxHeartbeats 1000000 in
theorem join_any (A : Option Addr) (n cap : Nat) (xs : List (List UInt8)) (w : World) (h : Row w w.heap.size A n cap xs) (hn : n ≤ 1000) (hx : ∀ x ∈ xs, x.length ≤ 1000) :
    Calls Tryd.prog 34 #[.slice A n cap] w fun e w' => e = .returned (.string (txt (joinL xs))) ∧ Below w.heap.size w w' := by
  have hl := h.len
  have hmx := h.most
  have hrm := h.room
  unfold maxLen at hmx
  have HL := Lib.hid hl
  clear hl
  go_enter Tryd.func34, Tryd.ntmps34
  go_wp2
  go_loopw [4, 5, 8] (fun _ _ i wr => ∃ k : Nat, k ≤ n ∧ i = .int .i64 k ∧ Lib.IsBuilder 68 5 w.heap.size w.heap.size (cellsB (joinL (xs.take k))) wr ∧ Below w.heap.size w wr) (fun _ _ i _ => n - (intOf i).toNat)
  case atStart => exact ⟨0, Nat.zero_le _, rfl, Lib.fresh_isBuilder 68 5 w, (Below.refl _ _).alloc (Nat.le_refl _) _⟩
  case round =>
    obtain ⟨k, hk, rfl, hIB, hb⟩ := hrel
    have hbs := hb.size
    have hs1 := take_small hx k (by omega)
    by_cases hlt : k < n
    · obtain ⟨ad, rfl, _, hcy⟩ := (h.below hb).at_ k hlt
      have HT := Lib.hid (join_take HL.out hlt)
      have hs2 := getD_small hx k
      have HE0 : Hid (k = 0 → joinL (xs.take k) = []) := Lib.hid fun h0 => by rw [h0]; rfl
      generalize xs.getD k [] = y at *
      generalize joinL (xs.take k) = q at *
      by_cases h0 : k = 0
      · have HQ : Hid (joinL (xs.take (k + 1)) = q ++ y) := Lib.hid (by rw [HT.out, if_pos h0, HE0.out h0]; rfl)
        have t1 : decide ((0 : Int) < (k : Int)) = false := decide_eq_false (by omega)
        have hz : k ≤ 0 := by omega
        clear h0
        go_wp2_with fail
        refine (write_any _ _ q y _ hIB (by omega) hs2 hbs).mono ?_
        rintro e w1 ⟨v, rfl, hI1, hb1⟩
        go_wp2
        go_roundw
        case rel => exact ⟨k + 1, by omega, by go_num, by rw [HQ.out]; exact hI1, hb.trans hb1⟩
        case measure => simp [intOf]; omega
      · have HQ : Hid (joinL (xs.take (k + 1)) = (q ++ [32]) ++ y) := Lib.hid (by rw [HT.out, if_neg h0]; simp)
        have t1 : decide ((0 : Int) < (k : Int)) = true := decide_eq_true (by omega)
        have hz : 0 < k := by omega
        clear h0
        go_wp2_with fail
        refine (write_any _ _ q [32] _ hIB (by omega) (by decide) hbs).mono ?_
        rintro e w1 ⟨v, rfl, hI1, hb1⟩
        go_wp2_with fail
        refine (write_any _ _ (q ++ [32]) y _ hI1 (by simp; omega) hs2 (by have := hb1.size; omega)).mono ?_
        rintro e w2 ⟨v2, rfl, hI2, hb2⟩
        go_wp2
        go_roundw
        case rel => exact ⟨k + 1, by omega, by go_num, by rw [HQ.out]; exact hI2, (hb.trans hb1).trans hb2⟩
        case measure => simp [intOf]; omega
    · have ek : k = n := by omega
      rw [List.take_of_length_le (by rw [HL.out]; omega)] at hIB
      go_wp2_with fail
      refine (Tryd.Builder_String_any _ _ (joinL xs) _ hIB hbs).mono ?_
      rintro e w1 ⟨rfl, hb1⟩
      go_wp2
      go_ret
      exact ⟨rfl, hb.trans hb1⟩

end Go.Proofs.YtabnfiligbpocaaDoor
