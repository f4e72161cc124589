/- A text's copy is the same text. Conditions: none. -/
import Derived.Test.YtfgoflflkfmhaaaBase
import Derived.Lib.Strings
import Derived.Lib.Walk
import Derived.Lib.BufferWrite
import Derived.Lib.UnsafeStr
import Derived.Laws.MakeOwn
namespace Go.Proofs.Ytfgoflflkfmhaaa
open Go.RowKit

theorem info5 : (Try.prog.info? 5).map (fun i => (i.zero, i.size, i.bytes)) = some (some (.int .u8 0), 1, 1) := by kernel_rfl
theorem cells5 : Try.prog.cellsOf 5 = 1 := by kernel_rfl

set_option maxRecDepth 100000 in
set_option maxHeartbeats 2000000 in
theorem copy_any (s : ByteArray) (hs : s.size ≤ 140737488355328) (w : World) : Calls Try.prog 25 #[.string s] w fun e w' => e = .returned (.string s) ∧ Below w.heap.size w w' := by
  by_cases h0 : s.size = 0
  · obtain rfl : s = ⟨#[]⟩ := ByteArray.ext (Array.eq_empty_of_size_eq_zero h0)
    go_enter Try.func25, Try.ntmps25
    go_wp2
    go_ret
    exact ⟨rfl, Below.refl _ _⟩
  · obtain ⟨i, hi, z0, z1, z2⟩ := info_parts info5
    have hsz : (Try.prog.info? 5).map (·.size) = some 1 := by rw [hi]; simp [z1]
    obtain ⟨C, hC⟩ : ∃ C, C = madeCells (Value.int .u8 0).cells (((s.size : Nat) : Int).toNat * i.size) := ⟨_, rfl⟩
    have hCs : C.size = s.size := by rw [hC, size_madeCells, z1]; simp
    have hmake : ∀ W : World, (Instr.makeSlice 58 (.int .i64 (s.size : Int)) (.int .i64 (s.size : Int))).run Try.prog W = .ok (.slice (some ⟨W.heap.size, 0, none⟩) s.size s.size) (W.alloc (.cells C 5)) := fun W => by
      have h := run_make (P := Try.prog) W 58 5 i (.int .u8 0) Try.underlying58 hi z0 .i64 .i64 (s.size : Int) (s.size : Int) (by omega) (by omega) (by rw [z2]; omega) (by omega)
      rw [← hC] at h
      simpa using h
    clear hC
    have hcopy := Lib.run_copy_row_string (P := Try.prog) (w.alloc (.cells C 5)) 58 9 3 5 w.heap.size 0 s.size s.size s C 5 Try.underlying58 hsz (heap_alloc_new w _) (Nat.le_refl _) (by omega)
    obtain ⟨R, hR⟩ : ∃ R, R = (C.toList.take 0 ++ Lib.byteCells s.data.toList ++ C.toList.drop (0 + s.size)).toArray := ⟨_, rfl⟩
    rw [← hR] at hcopy
    have hRl : R.toList = Lib.byteCells s.data.toList := by
      rw [hR, List.toList_toArray, List.take_zero, List.nil_append, List.drop_of_length_le (by rw [Array.length_toList]; omega), List.append_nil]
    have hRs : R.size = s.size := by rw [← Array.length_toList, hRl, Lib.byteCells_length, ← Lib.size_eq]
    have hrow : ((w.alloc (.cells C 5)).setRow w.heap.size R).heap[w.heap.size]? = some (.cells R 5 (0, 0)) := setRow_heap _ _ C _ 5 (0, 0) (heap_alloc_new w _)
    have hne : s.data.toList ≠ [] := fun e => h0 (by rw [Lib.size_eq, e]; rfl)
    have hstr := Lib.run_unsafeString_row (P := Try.prog) ((w.alloc (.cells C 5)).setRow w.heap.size R) 59 3 9 5 Try.underlying59 cells5 w.heap.size R.size (by unfold World.shape?; rw [hrow]) s.data.toList hne (by rw [← Lib.size_eq]; omega) (by rw [← Lib.size_eq]; omega)
      (fun j x hx => Lib.cells_of_row hrow R.size j _ (by rw [List.take_of_length_le (by rw [Array.length_toList]; exact Nat.le_refl _), hRl]; simp [Lib.byteCells, hx]))
    rw [← Lib.size_eq] at hstr
    clear hR
    go_enter Try.func25, Try.ntmps25
    go_wp2
    go_ret
    have b1 : Below w.heap.size w (w.alloc (.cells C 5)) := (Below.refl _ w).alloc (Nat.le_refl _) _
    have b2 : Below w.heap.size (w.alloc (.cells C 5)) ((w.alloc (.cells C 5)).setRow w.heap.size R) := ⟨rfl, rfl, rfl, by simp, fun k hk => setRow_other _ _ _ _ (by omega)⟩
    exact ⟨rfl, Lib.below_freeze (b1.trans b2) (p := ⟨w.heap.size, 0, none⟩) (Nat.le_refl _) _⟩
theorem clone_any (s : ByteArray) (hs : s.size ≤ 140737488355328) (w : World) : Calls Try.prog 19 #[.string s] w fun e w' => e = .returned (.string s) ∧ Below w.heap.size w w' := by
  go_enter Try.func19, Try.ntmps19
  go_wp2_with fail
  refine (copy_any s hs w).mono ?_
  rintro e w1 ⟨rfl, hb⟩
  go_wp2
  go_ret
  exact ⟨rfl, hb⟩
end Go.Proofs.Ytfgoflflkfmhaaa
