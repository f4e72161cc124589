/- Room for some places. Conditions: at most 1000 places. -/
import Derived.Test.YtmhogmhdgbdpbaaPure
import Derived.Lib.AppendZeros
import Derived.Lib.SliceRun
namespace Go.Proofs.Ytmhogmhdgbdpbaa
open Go.RowKit Go.ChangeShapes Go.WideShapes

theorem under22 : Try.prog.underlying 22 = some (.slice (Try.prog.elem 22)) := by kernel_rfl
theorem under22' : Try.prog.underlying 22 = some (.slice 32) := by kernel_rfl
theorem sizeE22 (w : World) : (sizeOf (Try.prog.elem 22)).run Try.prog w = .ok 3 w := by kernel_rfl
theorem upto22 (A : Option Addr) (n cap k : Nat) (hk : k ≤ cap) (hA : A = none → cap = 0) (w : World) :
    (Instr.slice 22 (.slice A n cap) none (some (.int .i64 (k : Int))) none).run Try.prog w = .ok (.slice A k cap) w := by
  rw [run_slice_h w 22 _ n cap under22 .i64 _ (by omega) (by omega), sizeE22]
  simp only [Result.andThen, sliced, Int.toNat_natCast, Nat.sub_zero, Nat.zero_mul]
  rcases A with _ | ad
  · have := hA rfl
    subst this
    obtain rfl : k = 0 := by omega
    rfl
  · split <;> simp [Addr.add]
set_option maxRecDepth 100000 in
theorem grow_zero (w : World) : Calls Try.prog 32 #[.slice none 0 0, .int .i64 0] w fun e w' => e = .returned (.slice none 0 0) ∧ w = w' := by
  go_enter Try.func32, Try.ntmps32
  go_wp2
  go_ret
  exact ⟨rfl, rfl⟩
set_option maxRecDepth 100000 in
set_option maxHeartbeats 1000000 in
theorem grow_some (n : Nat) (h0 : 0 < n) (hn : n ≤ 1000) (w : World) : Calls Try.prog 32 #[.slice none 0 0, .int .i64 (n : Int)] w fun e w' =>
    ∃ cap, e = .returned (.slice (some ⟨w.heap.size, 0, none⟩) 0 cap) ∧ w'.ownsRow w.heap.size 32 3 (.slice (some ⟨w.heap.size, 0, none⟩) 0 cap) 0 [] ∧ Below w.heap.size w w' := by
  obtain ⟨i, hi, hz, hs, hb⟩ : ∃ (i : TypeInfo), Try.prog.info? 32 = some i ∧ i.zero = some (.agg noP.cs.toArray) ∧ i.size = 3 ∧ i.bytes = 24 := by
    have h := info32
    cases e : Try.prog.info? 32 with
    | none => rw [e] at h; simp at h
    | some i =>
      rw [e] at h
      simp only [Option.map_some, Option.some.injEq, Prod.mk.injEq] at h
      exact ⟨i, rfl, h.1, h.2.1, h.2.2⟩
  have hrun := fun ty => Lib.run_append_nil_zeros (P := Try.prog) w 22 3 ty 32 i _ .i64 .i64 under22' Try.underlying3 hi hz n h0 (by omega) (by omega) (by rw [hb]; omega)
  obtain ⟨cp, ecp⟩ : ∃ cp, cp = grownCap w n 0 32 := ⟨_, rfl⟩
  rw [← ecp] at hrun
  have hge : n ≤ cp := by rw [ecp]; exact grownCap_ge w n 0 32
  have hle : cp ≤ maxLen := by rw [ecp]; exact grownCap_le_maxLen w n 0 32 (by unfold maxLen; omega)
  obtain ⟨cur, ecur⟩ : ∃ cur, cur = Builtin.zeroCells (Value.agg noP.cs.toArray).cells n ++ Builtin.zeroCells (Value.agg noP.cs.toArray).cells (cp - n) := ⟨_, rfl⟩
  rw [← ecur] at hrun
  have hcs : cur.size = cp * 3 := by
    rw [ecur, Array.size_append, size_zeroCells, size_zeroCells]
    show n * 3 + (cp - n) * 3 = cp * 3
    omega
  have hcut := upto22 (some ⟨w.heap.size, 0, none⟩) n cp 0 (Nat.zero_le _) (fun e => by cases e)
  have hnil : (Instr.slice 22 (.slice none 0 0) none (some (.int .i64 0)) none).run Try.prog w = .ok (.slice none 0 0) w := upto22 none 0 0 0 (Nat.le_refl _) (fun _ => rfl) w
  have t0 : decide ((n : Int) < 0) = false := decide_eq_false (by omega)
  have t1 : decide (0 < (n : Int)) = true := decide_eq_true (by omega)
  have hw : IntKind.i64.wrap (n : Int) = (n : Int) := by rw [IntKind.wrap_i64]; omega
  have hfin : (w.drew.alloc (.cells cur 32)).ownsRow w.heap.size 32 3 (.slice (some ⟨w.heap.size, 0, none⟩) 0 cp) 0 [] ∧ Below w.heap.size w (w.drew.alloc (.cells cur 32)) :=
    ⟨⟨rfl, .inr ⟨w.heap.size, cp, cur, rfl, Nat.le_refl _, heap_alloc_new w.drew _, Nat.zero_le _, hle, hcs, by simp⟩⟩, (Below.refl _ w).drew.alloc (Nat.le_refl _) _⟩
  have HF := Lib.hid hfin
  clear hfin hcs ecur hle hge ecp hi hz hs hb
  go_enter Try.func32, Try.ntmps32
  go_wp2_with (at_builtin; refine Lib.wpList_append_run _ rfl _ _ _ _ rfl _ _ rfl rfl _ _ (hrun _) ?_)
  go_ret
  exact ⟨cp, rfl, HF.out⟩
end Go.Proofs.Ytmhogmhdgbdpbaa
