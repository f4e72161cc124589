/- A call on both. Conditions: at most 1000 changes. -/
import Derived.Test.YtdilmapcjmdabaaRun1
import Derived.Test.YtdilmapcjmdabaaRun2
import Derived.Test.YtdilmapcjmdabaaRun3
namespace Go.Proofs.Ytdilmapcjmdabaa
open Go.ChangeShapes Go.WideShapes Go.RowKit
section
variable {w w' : World} {p z : Nat} {L : Lim} {s : Sta} {H : His} {r : Rim} {o : OpR}
set_option maxRecDepth 100000 in
set_option maxHeartbeats 1000000 in
theorem run_else (h : Pair w p L s H r) (hh : H.length ≤ 1000) (h1 : o.k ≠ 1) (h2 : o.k ≠ 2) (h3 : o.k ≠ 3) :
    Calls Try.prog 11 #[.pointer (some ⟨p, 0, none⟩), .agg (r.bk (H.length : Int)), .agg o.cs.toArray] w (Ran w p L s H (allM s o.b o.d)) := by
  obtain ⟨z, ez⟩ : ∃ z, z = w.heap.size := ⟨_, rfl⟩
  obtain ⟨W0, eW0⟩ : ∃ W, W = ((w.alloc (.cells (r.bk (H.length : Int)) 34)).alloc (.cells o.cs.toArray 38)).alloc (.cells #[.slice none 0 0, .slice none 0 0, .int .i64 0] 34) := ⟨_, rfl⟩
  have hb0 : Below w.heap.size w W0 := by rw [eW0]; exact (((Below.refl _ w).alloc (Nat.le_refl _) _).alloc (by simp) _).alloc (by simp; omega) _
  have B0 : Boxes W0 z (r.bk (H.length : Int)) o := by rw [eW0, ez]; exact boxes_new _ _ _
  have e0 : W0.cell? ⟨z, 0, none⟩ = some (.slice r.Ac r.n r.cc) := B0.book.cell 0
  have e1 : W0.cell? ⟨z, 1, none⟩ = some (.slice r.Ar r.m r.cr) := B0.book.cell 1
  have hN : Blk (W0.alloc (.cells #[.slice none 0 0, .slice none 0 0] 31)) W0.heap.size 31 #[.slice none 0 0, .slice none 0 0] := heap_alloc_new W0 _
  obtain ⟨W2, eW2⟩ : ∃ W, W = (W0.alloc (.cells #[.slice none 0 0, .slice none 0 0] 31)).setRow W0.heap.size r.cs := ⟨_, rfl⟩
  have hb02 : Below W0.heap.size W0 W2 := by rw [eW2]; exact below_setRow ((Below.refl _ W0).alloc (Nat.le_refl _) _) (Nat.le_refl _) _
  have B2 := B0.below hb02
  have hbw2 : Below w.heap.size w W2 := hb0.trans (hb02.mono hb0.size)
  have hp2 := h.below hbw2
  have hprog := lalloc_any (o := o) hp2 hh
  have hszW : W0.heap.size = w.heap.size + 1 + 1 + 1 := by rw [eW0]; simp
  have EZ := Lib.hid ez
  rw [hszW] at eW2 hN
  have k0 : W2.cell? ⟨z + 1, 0, none⟩ = some (.int .i64 o.k) := B2.op.cell 0
  have k1 : W2.cell? ⟨z + 1, 1, none⟩ = some (.int .i64 o.c) := B2.op.cell 1
  have k2 : W2.cell? ⟨z + 1, 2, none⟩ = some (.int .i64 o.f) := B2.op.cell 2
  have k3 : W2.cell? ⟨z + 1, 3, none⟩ = some (.int .i64 o.b) := B2.op.cell 3
  have k4 : W2.cell? ⟨z + 1, 4, none⟩ = some (.int .i64 o.d) := B2.op.cell 4
  have k5 : W2.cell? ⟨z + 1, 5, none⟩ = some (.int .i64 o.x.n) := B2.op.cell 5
  have k6 : W2.cell? ⟨z + 1, 6, none⟩ = some (.int .i64 o.x.c) := B2.op.cell 6
  have k7 : W2.cell? ⟨z + 1, 7, none⟩ = some (.int .i64 o.x.g) := B2.op.cell 7
  have b0 : W2.cell? ⟨z, 0, none⟩ = some (.slice r.Ac r.n r.cc) := B2.book.cell 0
  have b1 : W2.cell? ⟨z, 1, none⟩ = some (.slice r.Ar r.m r.cr) := B2.book.cell 1
  have b2 : W2.cell? ⟨z, 2, none⟩ = some (.int .i64 (H.length : Int)) := B2.book.cell 2
  have t1 : (o.k == 1) = false := by simpa using h1
  have t2 : (o.k == 2) = false := by simpa using h2
  have t3 : (o.k == 3) = false := by simpa using h3
  clear h1 h2 h3
  rw [eW0] at eW2 hN
  rw [eW0, ez] at e0 e1
  rw [ez] at k0 k1 k2 k3 k4 k5 k6 k7 b0 b1 b2
  clear eW0 hszW ez
  go_enter Try.func11, Try.ntmps11
  go_wp2_with (refine wpList_store_row rfl 31 (.tmp 10) (.tmp 12) rfl (w.heap.size + 1 + 1 + 1) r.cs rfl rfl 31 #[.slice none 0 0, .slice none 0 0] hN (szcs r) rfl (one31 r) ?_; rw [← eW2]; clear eW2 hN e0 e1)
  have ez := EZ.out
  rw [← ez]
  clear ez k0 k1 k2 k3 k4 k5 k6 k7 b0 b1 b2
  refine hprog.mono ?_
  rintro e w3 ⟨r3, L3, rfl, hP3, hT3⟩
  have R3 : Blk w3 (z + 1 + 1) 34 #[.slice none 0 0, .slice none 0 0, .int .i64 0] := B2.res.kept hT3.kept (hp2.ara.far B2.res (by simp))
  go_wp2_with (refine wpList_store_row rfl 34 (.tmp 6) (.tmp 19) rfl (z + 1 + 1) (r3.bk ((His.go H s (allM s o.b o.d)).length : Int)) rfl rfl 34 #[.slice none 0 0, .slice none 0 0, .int .i64 0] R3 size34 rfl (by simp [Rim.bk, Value.oneCell']) ?_)
  have ez := EZ.out
  have K4 := kept_row w3 (z + 1 + 1) (r3.bk ((His.go H s (allM s o.b o.d)).length : Int))
  refine bodyPost_ret (res_two (p := 6) (q := 7) (by kernel_rfl) _ _ (z + 1 + 1) (r3.bk ((His.go H s (allM s o.b o.d)).length : Int)) _ rfl rfl (load34 (setRow_heap _ _ _ _ _ _ R3))) rfl ?_
  have hz2 := B2.res.lt
  refine ⟨r3, L3, rfl, ⟨hP3.ara.kept K4 (fun g hg e => hP3.ara.far R3 (by simp) (by rw [← show g = z + 1 + 1 from e]; exact hg)), hP3.inv, hP3.ref.kept K4 (fun g hg e => by have := hT3.new g hg; have e : g = z + 1 + 1 := e; omega), hP3.off⟩, ⟨?_, fun g hg => ?_, fun g hg => ?_⟩⟩
  · exact ((kept_below (mine p L) hbw2).next hT3.kept (fun _ e => .inl e)).next K4 (fun g e => .inr (by have e : g = z + 1 + 1 := e; omega))
  · exact (hT3.mine_ g hg).elim .inl (fun e => .inr (Nat.le_trans hbw2.size e))
  · exact Nat.le_trans hbw2.size (hT3.new g hg)
theorem run_any (h : Pair w p L s H r) (hh : H.length ≤ 1000) :
    Calls Try.prog 11 #[.pointer (some ⟨p, 0, none⟩), .agg (r.bk (H.length : Int)), .agg o.cs.toArray] w (Ran w p L s H (movO s o)) := by
  unfold movO
  by_cases h1 : o.k = 1
  · rw [if_pos h1]
    exact run_free h hh h1
  · rw [if_neg h1]
    by_cases h2 : o.k = 2
    · rw [if_pos h2]
      exact run_retire h hh h2
    · rw [if_neg h2]
      by_cases h3 : o.k = 3
      · rw [if_pos h3]
        exact run_store h hh h3
      · rw [if_neg h3]
        exact run_else h hh h1 h2 h3
end
end Go.Proofs.Ytdilmapcjmdabaa
