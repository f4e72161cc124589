/- A text's copy is the same text. Conditions: none. -/
import Derived.Test.YtcgoaallfhompaaDoorOBase
import Derived.Lib.Strings
import Derived.Lib.Walk
import Derived.Lib.BufferWrite
import Derived.Lib.UnsafeStr
import Derived.Laws.MakeOwn
namespace Go.Proofs.YtcgoaallfhompaaDoor.O
set_option linter.unusedSimpArgs false
set_option linter.unusedVariables false
open Go.RowKit
theorem _root_.Go.Proofs.YtcgoaallfhompaaDoor.info5 : (Tryd.prog.info? 5).map (fun i => (i.zero, i.size, i.bytes)) = some (some (.int .u8 0), 1, 1) := by kernel_rfl
theorem _root_.Go.Proofs.YtcgoaallfhompaaDoor.cells5 : Tryd.prog.cellsOf 5 = 1 := by kernel_rfl
/-- A new row that holds just the octets of s, written over a row as long as s. -/
theorem _root_.Go.Proofs.YtcgoaallfhompaaDoor.filled (s : ByteArray) (C : Array Value) (hC : C.size = s.size) : C.toList.take 0 ++ Lib.byteCells s.data.toList ++ C.toList.drop (0 + s.size) = Lib.byteCells s.data.toList := by
  have h : C.toList.drop (0 + s.size) = [] := List.drop_eq_nil_of_le (by rw [Array.length_toList, Nat.zero_add, hC]; exact Nat.le_refl _)
  rw [h]
  simp
/-- The three steps of a copy: a row is made, the octets come in, and it is a text. -/
theorem _root_.Go.Proofs.YtcgoaallfhompaaDoor.three_steps (s : ByteArray) (h0 : s.size ≠ 0) (hs : s.size ≤ 140737488355328) (w : World) : ∃ w1 w2 w3 : World,
    (Instr.makeSlice 23 (.int .i64 (s.size : Int)) (.int .i64 (s.size : Int))).run Tryd.prog w = .ok (.slice (some ⟨w.heap.size, 0, none⟩) s.size s.size) w1 ∧
    (Builtin.copy_ #[23, 9] 3 #[.slice (some ⟨w.heap.size, 0, none⟩) s.size s.size, .string s]).run Tryd.prog w1 = .ok (goInt s.size) w2 ∧
    (Builtin.unsafeString_ #[67, 3] 9 #[.pointer (some ⟨w.heap.size, 0, none⟩), .int .i64 (s.size : Int)]).run Tryd.prog w2 = .ok (.string s) w3 ∧ Below w.heap.size w w3 := by
  obtain ⟨i, hi, z0, z1, z2⟩ := info_parts info5
  have make := run_make (P := Tryd.prog) w 23 5 i (.int .u8 0) Tryd.underlying23 hi z0 .i64 .i64 (s.size : Int) (s.size : Int) (by omega) (by omega) (by rw [z2]; omega) (by omega)
  generalize hC : madeCells (Value.int .u8 0).cells (((s.size : Nat) : Int).toNat * i.size) = C at make
  have hCs : C.size = s.size := by rw [← hC, size_madeCells, z1]; simp
  have come := Lib.run_copy_row_string (P := Tryd.prog) (w.alloc (.cells C 5)) 23 9 3 5 w.heap.size 0 s.size s.size s C 5 Tryd.underlying23 (by rw [hi]; simp [z1]) (heap_alloc_new w _) (Nat.le_refl _) (by omega)
  rw [filled s C hCs] at come
  have lies : ((w.alloc (.cells C 5)).setRow w.heap.size (Lib.byteCells s.data.toList).toArray).heap[w.heap.size]? = some (.cells (Lib.byteCells s.data.toList).toArray 5 (0, 0)) := setRow_heap _ _ C _ 5 (0, 0) (heap_alloc_new w _)
  have len : s.data.toList.length = s.size := (Lib.size_eq s).symm
  have text := Lib.run_unsafeString_row (P := Tryd.prog) _ 67 3 9 5 Tryd.underlying67 cells5 w.heap.size s.size (by unfold World.shape?; rw [lies]; simp [Lib.byteCells, len]) s.data.toList (fun e => h0 (by rw [← len, e]; rfl)) (by omega) (by omega)
    (fun j x hx => Lib.cells_of_row lies s.size j _ (by
      have hj : j < s.size := by rw [← len]; exact (List.getElem?_eq_some_iff.1 hx).1
      rw [List.toList_toArray, List.getElem?_take_of_lt hj, Lib.byteCells, List.getElem?_map, hx]
      rfl))
  rw [len] at text
  have b1 : Below w.heap.size w (w.alloc (.cells C 5)) := (Below.refl _ w).alloc (Nat.le_refl _) _
  have b2 : Below w.heap.size (w.alloc (.cells C 5)) ((w.alloc (.cells C 5)).setRow w.heap.size (Lib.byteCells s.data.toList).toArray) := ⟨rfl, rfl, rfl, by simp, fun k hk => setRow_other _ _ _ _ (by omega)⟩
  exact ⟨_, _, _, by simpa using make, come, text, Lib.below_freeze (b1.trans b2) (p := ⟨w.heap.size, 0, none⟩) (Nat.le_refl _) _⟩
set_option maxRecDepth 100000 in
theorem _root_.Go.Proofs.YtcgoaallfhompaaDoor.copy_any (s : ByteArray) (hs : s.size ≤ 140737488355328) (w : World) : Calls Tryd.prog 34 #[.string s] w fun e w' => e = .returned (.string s) ∧ Below w.heap.size w w' := by
  by_cases h0 : s.size = 0
  · obtain rfl : s = ⟨#[]⟩ := ByteArray.ext (Array.eq_empty_of_size_eq_zero h0)
    go_enter Tryd.func34, Tryd.ntmps34
    go_wp2
    go_ret
    exact ⟨rfl, Below.refl _ _⟩
  · obtain ⟨w1, w2, w3, e1, e2, e3, hb⟩ := three_steps s h0 hs w
    go_enter Tryd.func34, Tryd.ntmps34
    go_wp2
    go_ret
    exact ⟨rfl, hb⟩
theorem _root_.Go.Proofs.YtcgoaallfhompaaDoor.clone_any (s : ByteArray) (hs : s.size ≤ 140737488355328) (w : World) : Calls Tryd.prog 27 #[.string s] w fun e w' => e = .returned (.string s) ∧ Below w.heap.size w w' := by
  go_enter Tryd.func27, Tryd.ntmps27
  go_wp2_with fail
  refine (copy_any s hs w).mono ?_
  rintro e w1 ⟨rfl, hb⟩
  go_wp2
  go_ret
  exact ⟨rfl, hb⟩
end Go.Proofs.YtcgoaallfhompaaDoor.O
