/- A cell is given out. Conditions: at most 1000 changes. -/
import Derived.Test.YtdilmapcjmdabaaSmall
import Derived.Test.YtdilmapcjmdabaaTurn
namespace Go.Proofs.Ytdilmapcjmdabaa
open Go.ChangeShapes Go.WideShapes Go.RowKit

theorem res_two {f : Func} {p q : Tmp} {ty : TypeId} (hr : f.results = #[.cell p ty, .tmp q]) (tmps : Array Value) (w : World) (g : Nat) (cs : Array Value) (u : Value) (hp : tmps[p]?.getD undef = .pointer (some ⟨g, 0, none⟩)) (hu : tmps[q]?.getD undef = u)
    (hl : (loadVar ty ⟨g, 0, none⟩).run Try.prog w = .ok (.agg cs) w) : (results f tmps).run Try.prog w = .ok (.tuple #[.agg cs, u]) w := by
  rw [results_cell_tmp hr]
  have h2 : tmps.getD p undef = .pointer (some ⟨g, 0, none⟩) := by simpa using hp
  have h3 : tmps.getD q undef = u := by simpa using hu
  rw [h2, h3]
  simp [asAddr, Result.andThen, hl]
theorem load24 {w : World} {g : Nat} {a b c : Int} (hg : Blk w g 24 #[.int .i64 a, .int .i64 b, .int .i64 c]) : (loadVar 24 ⟨g, 0, none⟩).run Try.prog w = .ok (.agg #[.int .i64 a, .int .i64 b, .int .i64 c]) w :=
  run_loadVar_row w g 24 24 _ (0, 0) _ hg Try.underlying24 rfl size24
section
variable {w w' : World} {p : Nat} {L : Lim} {C : List Cel} {R : List Int} {P : List Chg}
theorem Are.off {t : TypeId} {cs : Array Value} {z : Nat} (H : Are w p L C R P) (hb : Blk w z t cs) (h1 : 62 ≠ t) (h2 : 68 ≠ t) (h3 : 80 ≠ t) (h4 : 45 ≠ t) (h5 : 3 ≠ t) (h6 : 83 ≠ t) : ¬ mine p L z := by
  rintro (rfl | e | e)
  · exact H.box.ne hb h1 rfl
  · exact past_off H.past hb h2 h6 e
  · exact stock_off H.stock hb h3 h4 h5 e
theorem AreTo.row {z : Nat} {cs cs' : Array Value} (h : AreTo w p L C R P w') (hb : Blk w' z 24 cs) (hz : w.heap.size ≤ z) : AreTo w p L C R P (w'.setRow z cs') := by
  obtain ⟨L', h1, h2, h3⟩ := h
  have hk := kept_row w' z cs'
  have ho := h1.off hb (by decide) (by decide) (by decide) (by decide) (by decide) (by decide)
  exact ⟨L', h1.kept hk (fun g hg e => ho (by rw [← e]; exact hg)), h2.next hk (fun g e => .inr (by omega)), h3⟩
theorem AreTo.blk {z : Nat} {t : TypeId} {cs : Array Value} (h : AreTo w p L C R P w') (hb : Blk w z t cs) (hz : ¬ mine p L z) : Blk w' z t cs := by
  obtain ⟨L', h1, h2, h3⟩ := h
  exact hb.kept h2 hz

theorem alloc_no {v : Value} {b c : Int} (h : ∀ W, Below w.heap.size w W → Calls Try.prog 41 #[v] W fun e w' => e = .returned (.bool false) ∧ W = w') :
    Calls Try.prog 23 #[v, .int .i64 b, .int .i64 c] w fun e w' => e = .returned (.tuple #[.agg #[.int .i64 0, .int .i64 0, .int .i64 0], .bool false]) ∧ Below w.heap.size w w' := by
  obtain ⟨W1, eW1⟩ : ∃ W, W = w.alloc (.cells #[.int .i64 0, .int .i64 0, .int .i64 0] 24) := ⟨_, rfl⟩
  have hb1 : Below w.heap.size w W1 := by rw [eW1]; exact (Below.refl _ w).alloc (Nat.le_refl _) _
  have hB : Blk W1 w.heap.size 24 #[.int .i64 0, .int .i64 0, .int .i64 0] := by rw [eW1]; exact heap_alloc_new w _
  go_enter Try.func23, Try.ntmps23
  go_wp2_with fail
  rw [← eW1]
  clear eW1
  refine (h W1 hb1).mono ?_
  rintro e w' ⟨rfl, rfl⟩
  go_wp2_with fail
  refine (plain_zero W1).mono ?_
  rintro e w2 ⟨rfl, hb2⟩
  have hB2 := hB.on hb2
  go_wp2_with (refine wpList_store_row rfl 24 (.tmp 6) (.tmp 21) rfl w.heap.size #[.int .i64 0, .int .i64 0, .int .i64 0] rfl rfl 24 #[.int .i64 0, .int .i64 0, .int .i64 0] hB2 size24 rfl (by simp [Value.oneCell']) ?_)
  refine bodyPost_ret (res_two (p := 6) (q := 7) (by kernel_rfl) _ _ w.heap.size #[.int .i64 0, .int .i64 0, .int .i64 0] _ rfl rfl (load24 (setRow_heap _ _ _ _ _ _ hB2))) rfl ?_
  exact ⟨rfl, below_setRow (hb1.trans (hb2.mono hb1.size)) (Nat.le_refl _) _⟩
theorem alloc_none {b c : Int} (H : Are w p L C [] P) :
    Calls Try.prog 23 #[.pointer (some ⟨p, 0, none⟩), .int .i64 b, .int .i64 c] w fun e w' => e = .returned (.tuple #[.agg #[.int .i64 0, .int .i64 0, .int .i64 0], .bool false]) ∧ Below w.heap.size w w' := by
  obtain ⟨W1, eW1⟩ : ∃ W, W = w.alloc (.cells #[.int .i64 0, .int .i64 0, .int .i64 0] 24) := ⟨_, rfl⟩
  have hb1 : Below w.heap.size w W1 := by rw [eW1]; exact (Below.refl _ w).alloc (Nat.le_refl _) _
  have hB : Blk W1 w.heap.size 24 #[.int .i64 0, .int .i64 0, .int .i64 0] := by rw [eW1]; exact heap_alloc_new w _
  have H1 := H.below hb1
  have a1 := H1.at1
  have hm : L.m = 0 := H.stock.lenR.symm
  have hs := some_any H1.stock
  rw [hm] at hs
  simp only [Nat.lt_irrefl, decide_false] at hs
  go_enter Try.func23, Try.ntmps23
  go_wp2_with fail
  rw [← eW1]
  clear eW1
  refine (made_some H1.at0).mono ?_
  rintro e w' ⟨rfl, rfl⟩
  go_wp2_with fail
  refine hs.mono ?_
  rintro e w' ⟨rfl, rfl⟩
  go_wp2_with fail
  refine (plain_zero W1).mono ?_
  rintro e w2 ⟨rfl, hb2⟩
  have hB2 := hB.on hb2
  go_wp2_with (refine wpList_store_row rfl 24 (.tmp 6) (.tmp 21) rfl w.heap.size #[.int .i64 0, .int .i64 0, .int .i64 0] rfl rfl 24 #[.int .i64 0, .int .i64 0, .int .i64 0] hB2 size24 rfl (by simp [Value.oneCell']) ?_)
  refine bodyPost_ret (res_two (p := 6) (q := 7) (by kernel_rfl) _ _ w.heap.size #[.int .i64 0, .int .i64 0, .int .i64 0] _ rfl rfl (load24 (setRow_heap _ _ _ _ _ _ hB2))) rfl ?_
  exact ⟨rfl, below_setRow (hb1.trans (hb2.mono hb1.size)) (Nat.le_refl _) _⟩

set_option maxRecDepth 100000 in
theorem alloc_some {b d k : Int} {j : Nat} {c : Cel} (H : Are w p L C (k :: R) P) (hn : L.n ≤ 6) (hm : L.m ≤ 6) (hh : L.h ≤ 1000) (hk : k - 1 = (j : Int)) (hc : C[j]? = some c) (h0 : c.s = 0) :
    Calls Try.prog 23 #[.pointer (some ⟨p, 0, none⟩), .int .i64 b, .int .i64 d] w fun e w' =>
      e = .returned (.tuple #[.agg #[.int .i64 k, .int .i64 k, .int .i64 (wrap64 (c.g + 1))], .bool true]) ∧ AreTo w p L (C.set j ⟨1, wrap64 (c.g + 1), b, d, noW, noW⟩) R (P ++ [⟨k, c⟩]) w' := by
  obtain ⟨z, ez⟩ : ∃ z, z = w.heap.size := ⟨_, rfl⟩
  obtain ⟨W1, eW1⟩ : ∃ W, W = w.alloc (.cells #[.int .i64 0, .int .i64 0, .int .i64 0] 24) := ⟨_, rfl⟩
  have hb1 : Below w.heap.size w W1 := by rw [eW1]; exact (Below.refl _ w).alloc (Nat.le_refl _) _
  have hB : Blk W1 w.heap.size 24 #[.int .i64 0, .int .i64 0, .int .i64 0] := by rw [eW1]; exact heap_alloc_new w _
  rw [← ez] at hB
  have H1 := H.below hb1
  have a1 := H1.at1
  obtain ⟨q, eq⟩ : ∃ q, L.m = q + 1 := ⟨L.m - 1, by have := H.stock.lenR; simp at this; omega⟩
  have hs := some_any H1.stock
  have hf := H1.stock
  rw [eq] at hs hf
  simp only [Nat.zero_lt_succ, decide_true] at hs
  have hf' := first_any hf (by omega)
  have hkk : 1 ≤ k := by omega
  go_enter Try.func23, Try.ntmps23
  go_wp2_with fail
  rw [← eW1, ← ez]
  clear eW1
  have EZ := Lib.hid ez
  clear ez
  refine (made_some H1.at0).mono ?_
  rintro e w' ⟨rfl, rfl⟩
  go_wp2_with fail
  refine hs.mono ?_
  rintro e w' ⟨rfl, rfl⟩
  go_wp2_with fail
  refine hf'.mono ?_
  rintro e w2 ⟨rfl, hb2⟩
  have H2 := H1.below hb2
  have a2 := H2.at1
  clear hs hf hf' a1
  have hB2 := hB.on hb2
  have hfd := field1 c
  go_wp2_with fail
  refine (at_any H2.stock hn hk hc).mono ?_
  rintro e w3 ⟨rfl, hb3⟩
  have H3 := H2.below hb3
  have hB3 := hB2.on hb3
  go_wp2_with fail
  refine (turn_any (to := ⟨1, wrap64 (c.g + 1), b, d, noW, noW⟩) H3 hn hm hh hk hc (fun _ _ => by simp)).mono ?_
  rintro e w4 ⟨rfl, hT⟩
  have hB4 := hT.blk hB3 (H3.off hB3 (by decide) (by decide) (by decide) (by decide) (by decide) (by decide))
  rw [show row1 (k :: R) k c ⟨1, wrap64 (c.g + 1), b, d, noW, noW⟩ = R by unfold row1; rw [if_pos ⟨h0, by simp⟩]; rfl] at hT
  go_wp2_with fail
  refine (to_cell k (wrap64 (c.g + 1)) hkk w4).mono ?_
  rintro e w5 ⟨rfl, hb5⟩
  have hB5 := hB4.on hb5
  go_wp2_with (refine wpList_store_row rfl 24 (.tmp 6) (.tmp 44) rfl z #[.int .i64 k, .int .i64 k, .int .i64 (wrap64 (c.g + 1))] rfl rfl 24 #[.int .i64 0, .int .i64 0, .int .i64 0] hB5 size24 rfl (by simp [Value.oneCell']) ?_)
  refine bodyPost_ret (res_two (p := 6) (q := 7) (by kernel_rfl) _ _ z #[.int .i64 k, .int .i64 k, .int .i64 (wrap64 (c.g + 1))] _ rfl rfl (load24 (setRow_heap _ _ _ _ _ _ hB5))) rfl ?_
  have hbw := hb1.trans ((hb2.mono hb1.size).trans (hb3.mono (Nat.le_trans hb1.size hb2.size)))
  exact ⟨rfl, ((hT.from_ hbw).to hb5).row hB5 (Nat.le_of_eq EZ.out.symm)⟩
end
end Go.Proofs.Ytdilmapcjmdabaa
