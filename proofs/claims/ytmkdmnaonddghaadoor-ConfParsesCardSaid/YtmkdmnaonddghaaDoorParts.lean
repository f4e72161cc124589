/- strings.Cut at one octet, and the iterator over a text's pieces. Conditions: texts of at most 100000 octets; the loop's body keeps what lay below a mark. -/
import Derived.RangeFuncNested
import Derived.RangeFuncBound
import Derived.RangeFuncCalls
import Derived.RangeFuncLeaves
import Derived.RangeFuncBox
import Derived.Shelf.Abstract
import Derived.OwnWalkIn
import Derived.TacticsInMore
import Derived.LoopNIn
import Derived.LoopIn
import Derived.Test.YtmkdmnaonddghaaDoorNumber
namespace Go.Proofs.YtmkdmnaonddghaaDoor
open Go.RowKit Go.Shelf Nine

theorem idx_cases (c : UInt8) : ∀ l : List UInt8, (Lib.indexByte l c = -1 ∧ c ∉ l) ∨ ∃ i : Nat, Lib.indexByte l c = (i : Int) ∧ i < l.length ∧ l.take i = l.takeWhile (off c) ∧ l.drop (i + 1) = (l.dropWhile (off c)).drop 1
  | [] => .inl ⟨rfl, by simp⟩
  | b :: l => by
    by_cases hb : b = c
    · subst hb
      exact .inr ⟨0, by simp [Lib.indexByte], by simp, by simp [off], by simp [off]⟩
    · have ho : off c b = true := by simpa [off] using hb
      have hf : (b == c) = false := by simpa using hb
      rcases idx_cases c l with ⟨h, hn⟩ | ⟨i, h, hi, h1, h2⟩
      · refine .inl ⟨by simp [Lib.indexByte, hf, h], ?_⟩
        simp only [List.mem_cons, not_or]
        exact ⟨fun e => hb e.symm, hn⟩
      · refine .inr ⟨i + 1, ?_, by simp; omega, ?_, ?_⟩
        · have hz : ((i : Int) == -1) = false := beq_eq_false_iff_ne.2 (by omega)
          simp [Lib.indexByte, hf, h, hz]
        · simp [ho, h1]
        · simp [ho, h2]

theorem slcut_any (s : ByteArray) (c : UInt8) (hs : s.size ≤ 100000) (w : World) :
    Calls Tryd.prog 64 #[.string s, .string (txt [c])] w fun e w' => ∃ b, e = .returned (.tuple #[.string (txt ((oct s).takeWhile (off c))), .string (txt (((oct s).dropWhile (off c)).drop 1)), .bool b]) ∧ Below w.heap.size w w' := by
  have hI := Tryd.stringslite_Index_one s c w
  have h1 : (txt [c]).size = 1 := rfl
  have hl := oct_len s
  have hJ : Calls Tryd.prog 77 #[.string s, .string (txt [c])] w fun e w' => e = .returned (.int .i64 (Lib.indexByte (oct s) c)) ∧ w' = w := hI
  clear hI
  rcases idx_cases c (oct s) with ⟨hx, hn⟩ | ⟨i, hx, hi, e1, e2⟩
  · rw [hx] at hJ
    obtain ⟨e1, e2⟩ := takeWhile_all c _ hn
    rw [e1, e2, txt_oct]
    clear e1 e2 hx hn hl
    go_enter Tryd.func64, Tryd.ntmps64
    go_wp2_with fail
    refine hJ.mono ?_
    rintro e w1 ⟨rfl, rfl⟩
    go_wp2
    go_ret3
    exact ⟨false, rfl, Below.refl _ _⟩
  · rw [hx] at hJ
    rw [← e1, ← e2]
    have a1 : Hid (s.extract 0 i = txt ((oct s).take i)) := Lib.hid (by rw [extract_txt]; simp)
    have a2 : Hid (s.extract (i + 1) s.size = txt ((oct s).drop (i + 1))) := Lib.hid (by rw [extract_txt, List.take_of_length_le (by omega)])
    have hi2 : i < s.size := by omega
    clear e1 e2 hx hl hi
    go_enter Tryd.func64, Tryd.ntmps64
    go_wp2_with fail
    refine hJ.mono ?_
    rintro e w1 ⟨rfl, rfl⟩
    go_wp2
    go_quiet (fail)
    go_wp2
    rw [a1.out, a2.out]
    go_ret3
    exact ⟨true, rfl, below_drewN (Below.refl _ _) _⟩
theorem cutc_any (s : ByteArray) (c : UInt8) (hs : s.size ≤ 100000) (w : World) :
    Calls Tryd.prog 54 #[.string s, .string (txt [c])] w fun e w' => ∃ b, e = .returned (.tuple #[.string (txt ((oct s).takeWhile (off c))), .string (txt (((oct s).dropWhile (off c)).drop 1)), .bool b]) ∧ Below w.heap.size w w' := by
  have hC := slcut_any s c hs w
  generalize txt ((oct s).takeWhile (off c)) = x1 at *
  generalize txt (((oct s).dropWhile (off c)).drop 1) = x2 at *
  go_enter Tryd.func54, Tryd.ntmps54
  go_wp2_with fail
  refine hC.mono ?_
  rintro e w1 ⟨b, rfl, hb⟩
  go_wp2
  go_ret3
  exact ⟨b, rfl, hb⟩

attribute [local go_sem] Oper.semAt_some
theorem parts_any (n : Nat) (s by' : ByteArray) (w : World) :
    CallsIn Fence.wide n Tryd.prog 53 #[.string s, .string by'] w fun e w' => e = .returned (.func (.func 63) #[] #[.pointer (some ⟨w.heap.size, 0, none⟩), .pointer (some ⟨w.heap.size + 1, 0, none⟩)]) ∧ w' = (w.alloc (.cells #[.string s] 9)).alloc (.cells #[.string by'] 9) := by
  refine callsIn_of_wp Tryd.func53 rfl trivial ?_ rfl
  simp only [Tryd.ntmps53, List.size_toArray, List.length_cons, List.length_nil, Nat.reduceAdd, Nat.reduceSub, Array.replicate_succ, Array.replicate_zero, List.push_toArray, List.append_toArray, List.nil_append, List.cons_append]
  gi_wp2
  go_ret
  exact ⟨rfl, rfl⟩

theorem grown_below {w w' : World} (h : Below w.heap.size w w') (row : Option Nat) : w.grownBy w' row := ⟨h.os, h.tape, h.output, h.size, fun k hk _ => h.block k hk⟩
/-- What a round keeps: what lay below a mark, and the box of the octet between pieces. -/
def Keeps (n₀ Bb : Nat) (c : UInt8) (W W' : World) : Prop := Below n₀ W W' ∧ (Boxed W Bb 9 (.string (txt [c])) → Boxed W' Bb 9 (.string (txt [c])))
theorem keeps_t {n₀ Bb : Nat} {c : UInt8} {A B C : World} (h : Keeps n₀ Bb c A B) (k : Keeps n₀ Bb c B C) : Keeps n₀ Bb c A C := ⟨h.1.trans k.1, fun hb => k.2 (h.2 hb)⟩
theorem keeps_b {n₀ Bb : Nat} {c : UInt8} {w : World} (hn : n₀ ≤ w.heap.size) (W : World) (l : Nat) (o o' : Obj) (hl : w.heap.size ≤ l) (h : W.heap[l]? = some o) (ho : o.isCells = false) (hw : o.isWalk = false) : Keeps n₀ Bb c W (W.putObj l o') := by
  refine ⟨belowK_b hn W l o o' hl h ho hw, fun hb => hb.kept (grownBy_putObj' W l o') fun e => ?_⟩
  injection e with e
  subst e
  rw [show W.heap[Bb]? = _ from hb] at h
  cases h
  cases ho

def sizeV (v : Value) : Nat := match v with | .string b => b.size | _ => 0
theorem sizeV_txt (l : List UInt8) : sizeV (.string (txt l)) = l.length := txt_size l
theorem txt_nil_eq (l : List UInt8) : (txt l).toList.isEmpty = decide (l = []) := by
  have h : (txt l).toList = l := by rw [ByteArray.toList_eq]; exact oct_txt l
  rw [h]
  cases l <;> simp
/-- A piece, of at most 100000 octets. -/
abbrev Pc := { x : List UInt8 // x.length ≤ 100000 }
def raw (l : List Pc) : List (List UInt8) := l.map Subtype.val
theorem raw_snoc (l : List Pc) (x : Pc) : raw (l ++ [x]) = raw l ++ [x.1] := by simp [raw]
theorem raw_len (l : List Pc) : (raw l).length = l.length := by simp [raw]
set_option maxRecDepth 100000 in
set_option maxHeartbeats 2000000 in
theorem parts1_any (n : Nat) (hn : 1 ≤ n) (l Bs Bb n₀ : Nat) (c : UInt8) (s : ByteArray) (hs : s.size ≤ 100000) (J Jx : List Pc → World → Prop) (W : World)
    (hJ : AbidesFrom W.heap.size J)
    (hY : ∀ (pre : List Pc) (x : Pc) (W : World), J pre W → pre.length < 100000 → YieldAt Fence.wide (n - 1) Tryd.prog l #[.string (txt x.1)] W fun e W' =>
      (e = .returned (.bool true) ∧ J (pre ++ [x]) W' ∧ Keeps n₀ Bb c W W') ∨ (e = .returned (.bool false) ∧ Jx (pre ++ [x]) W'))
    (hBs : W.cell? ⟨Bs, 0, none⟩ = some (.string s)) (hBb : Boxed W Bb 9 (.string (txt [c]))) (hJ0 : J [] W) :
    CallsIn Fence.wide n Tryd.prog 63 #[.func (.yield l) #[] #[], .pointer (some ⟨Bs, 0, none⟩), .pointer (some ⟨Bb, 0, none⟩)] W fun e W' => (∃ v, e = .returned v) ∧
      ((∃ ys, raw ys = parts c (oct s) ∧ J ys W') ∨ (∃ pre : List Pc, True ∧ Jx pre W')) := by
  refine callsIn_of_wp Tryd.func63 rfl trivial ?_ rfl
  simp only [Tryd.ntmps63, List.size_toArray, List.length_cons, List.length_nil, Nat.reduceAdd, Nat.reduceSub, Array.replicate_succ, Array.replicate_zero, List.push_toArray, List.append_toArray, List.nil_append, List.cons_append]
  gi_wp2
  gi_loopw [4] (fun v wr => ∃ (pre : List Pc) (r : List UInt8), v = .string (txt r) ∧ r.length ≤ 100000 ∧ parts c (oct s) = raw pre ++ parts c r ∧ J pre wr ∧ Boxed wr Bb 9 (.string (txt [c])) ∧ W.heap.size ≤ wr.heap.size)
    (fun v _ => sizeV v)
  case atStart => exact ⟨[], oct s, by rw [txt_oct], by rw [oct_len]; exact hs, rfl, hJ0, hBb, Nat.le_refl _⟩
  case round =>
    obtain ⟨pre, r, rfl, hr, hp, hJr, hBr, hsz⟩ := hrel
    have hcell := hBr.cell
    by_cases h0 : r = []
    · have t1 := (txt_nil_eq r).trans (decide_eq_true h0)
      have HP : Hid (parts c (oct s) = raw pre) := Lib.hid (by rw [hp, h0, parts_nil, List.append_nil])
      clear hp h0
      gi_wp2
      go_end0
      exact ⟨⟨_, rfl⟩, .inl ⟨pre, HP.out.symm, hJr⟩⟩
    · have t1 := (txt_nil_eq r).trans (decide_eq_false h0)
      have hst := parts_step c r h0
      have hlt := drop_len c r h0
      have hlen : pre.length < 100000 := by
        have h1 := parts_le c (oct s)
        rw [hp, List.length_append, hst, List.length_cons, oct_len, raw_len] at h1
        omega
      rw [hst] at hp
      have HP := Lib.hid hp
      have HL := Lib.hid hlt
      clear hp hst hlt h0
      have hcut := fun w => cutc_any (txt r) c (by rw [txt_size]; exact hr) w
      rw [oct_txt] at hcut
      have hxl : (r.takeWhile (off c)).length ≤ 100000 := Nat.le_trans (List.takeWhile_sublist _).length_le hr
      generalize r.takeWhile (off c) = x at *
      generalize (r.dropWhile (off c)).drop 1 = q at *
      gi_wp2_with (refine ⟨trivial, ?_⟩; gi_at_call 54; refine (callsIn_wide.2 (hcut _)).mono ?_; rintro e w1 ⟨b, rfl, hb1⟩; have hg1 := grown_below hb1 none; have hJ1 := hJ pre wr w1 none hJr hg1 (fun r e => by cases e); have hB1 := hBr.kept hg1 (by simp); obtain ⟨fn, tmps, assign, body, hy, hR⟩ := hY pre ⟨x, hxl⟩ w1 hJ1 hlen)
      refine hR.mono ?_
      rintro e W3 (⟨rfl, hJ3, hk3⟩ | ⟨rfl, hJx3⟩)
      · gi_wp2
        go_roundw
        case rel => exact ⟨pre ++ [⟨x, hxl⟩], q, rfl, by have := HL.out; omega, by rw [HP.out, raw_snoc]; simp, hJ3, hk3.2 hB1, by have h1 := hb1.size; have h2 := hk3.1.size; omega⟩
        case measure =>
          have := HL.out
          simp [sizeV_txt, this]
      · gi_wp2
        refine bodyPost_ret (results_none rfl _ _ _) rfl ?_
        exact ⟨⟨_, rfl⟩, .inr ⟨pre ++ [⟨x, hxl⟩], trivial, hJx3⟩⟩
theorem parts_stops (n : Nat) (hn : 1 ≤ n) (Bs Bb n₀ : Nat) (c : UInt8) (s : ByteArray) (hs : s.size ≤ 100000) (w : World) (hBs : Boxed w Bs 9 (.string s)) (hBb : Boxed w Bb 9 (.string (txt [c]))) :
    SeqStopsK Fence.wide n Tryd.prog 63 #[.pointer (some ⟨Bs, 0, none⟩), .pointer (some ⟨Bb, 0, none⟩)] (fun x : Pc => #[Value.string (txt x.1)]) (Keeps n₀ Bb c) (fun ys => raw ys = parts c (oct s)) (fun _ => True) 100000 w := fun l J Jx W hW hJ _ hY hJ0 =>
  parts1_any n hn l Bs Bb n₀ c s hs J Jx W hJ hY ((hBs.kept (grown_below hW none) (by simp)).cell) (hBb.kept (grown_below hW none) (by simp)) hJ0
end Go.Proofs.YtmkdmnaonddghaaDoor
