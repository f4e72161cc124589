/- nil, and a pipe that New did not make: the walk. Conditions: none. -/
import Derived.Test.YtjbmdbnjoekpmaaAlive
namespace Go.Proofs.Ytjbmdbnjoekpmaa
open Go.RowKit Go.Conc

/-- nil, or a pipe that New did not make. -/
def Nob (w : World) (v : Value) : Prop := v = .pointer none ∨ ∃ p, v = .pointer (some ⟨p, 0, none⟩) ∧ w.cell? ⟨p, 0, none⟩ = some (.chan none)
theorem Nob.below {w w' : World} {v : Value} (h : Nob w v) (hb : Below w.heap.size w w') : Nob w' v := by
  rcases h with h | ⟨p, hv, hp⟩
  · exact .inl h
  · exact .inr ⟨p, hv, (hb.cell (World.block_lt_of_cell? w _ hp)).trans hp⟩
theorem row_nob (v : Value) (w : World) (h : Nob w v) : Calls Try.prog 20 #[v] w fun e w' => e = .returned (.agg #[.chan none]) ∧ Below w.heap.size w w' := by
  rcases h with rfl | ⟨p, rfl, hp⟩
  · exact row_nil w
  · exact row_any p none w hp
theorem two_below {a b c : World} (h : Below a.heap.size a b) (k : Below b.heap.size b c) : Below a.heap.size a c := h.trans (k.mono h.size)

theorem take_nob (v : Value) (w : World) (h : Nob w v) : Calls Try.prog 12 #[v] w fun e w' => e = .returned (.tuple #[.int .i64 0, .bool false]) ∧ Below w.heap.size w w' := by
  have hr := row_nob v w h
  clear h
  go_enter Try.func12, Try.ntmps12
  go_wp2_with (first
    | (go_at_call 20; refine hr.mono ?_; rintro e w1 ⟨rfl, hb1⟩)
    | (go_at_call 23; refine (take_nil _).mono ?_; rintro e w2 ⟨rfl, hb2⟩))
  go_ret2
  exact ⟨rfl, two_below hb1 hb2⟩
theorem put_nob (v : Value) (x : Int) (w : World) (h : Nob w v) : Calls Try.prog 13 #[v, .int .i64 x] w fun e w' => e = .returned (.bool false) ∧ Below w.heap.size w w' := by
  have hr := row_nob v w h
  clear h
  go_enter Try.func13, Try.ntmps13
  go_wp2_with (first
    | (go_at_call 20; refine hr.mono ?_; rintro e w1 ⟨rfl, hb1⟩)
    | (go_at_call 24; refine (put_nil x _).mono ?_; rintro e w2 ⟨rfl, hb2⟩))
  go_ret
  exact ⟨rfl, two_below hb1 hb2⟩
theorem len_nob (v : Value) (w : World) (h : Nob w v) : Calls Try.prog 14 #[v] w fun e w' => e = .returned (.int .i64 0) ∧ Below w.heap.size w w' := by
  have hr := row_nob v w h
  clear h
  go_enter Try.func14, Try.ntmps14
  go_wp2_with (first
    | (go_at_call 20; refine hr.mono ?_; rintro e w1 ⟨rfl, hb1⟩)
    | (go_at_call 25; refine (length_nil _).mono ?_; rintro e w2 ⟨rfl, hb2⟩))
  go_ret
  exact ⟨rfl, two_below hb1 hb2⟩
theorem room_nob (v : Value) (w : World) (h : Nob w v) : Calls Try.prog 15 #[v] w fun e w' => e = .returned (.int .i64 0) ∧ Below w.heap.size w w' := by
  have hr := row_nob v w h
  go_enter Try.func15, Try.ntmps15
  go_wp2_with fail
  refine hr.mono ?_
  rintro e w1 ⟨rfl, hb1⟩
  go_wp2_with fail
  refine (size_nil _).mono ?_
  rintro e w2 ⟨rfl, hb2⟩
  have hr2 := row_nob v w2 ((h.below hb1).below hb2)
  go_wp2_with fail
  refine hr2.mono ?_
  rintro e w3 ⟨rfl, hb3⟩
  go_wp2_with fail
  refine (length_nil _).mono ?_
  rintro e w4 ⟨rfl, hb4⟩
  go_wp2
  go_ret
  exact ⟨rfl, two_below (two_below (two_below hb1 hb2) hb3) hb4⟩
theorem clone_nob (v : Value) (w : World) (h : Nob w v) : Calls Try.prog 11 #[v] w fun e w' => e = .returned (.pointer none) ∧ Below w.heap.size w w' := by
  have hr := row_nob v w h
  clear h
  go_enter Try.func11, Try.ntmps11
  go_wp2_with (first
    | (go_at_call 20; refine hr.mono ?_; rintro e w1 ⟨rfl, hb1⟩)
    | (go_at_call 21; refine (made_nil _).mono ?_; rintro e w2 ⟨rfl, hb2⟩))
  go_ret
  exact ⟨rfl, two_below hb1 hb2⟩
theorem all_nil (w : World) : Calls Try.prog 26 #[.agg #[.chan none]] w fun e w' => ∃ A cp, e = .returned (.slice A 0 cp) ∧ Below w.heap.size w w' := by
  obtain ⟨i0, hi, hz0, hz1, hz2⟩ := info_parts info3
  have HI := Lib.hid hi
  have HZ0 := Lib.hid hz0
  have HZ1 := Lib.hid hz1
  have HZ2 := Lib.hid hz2
  clear hi hz0 hz1 hz2
  have hb0 : Below w.heap.size w (w.alloc (.cells #[.chan none] 38)) := (Below.refl _ w).alloc (Nat.le_refl _) _
  have hx0 : (w.alloc (.cells #[.chan none] 38)).heap[w.heap.size]? = some (.cells #[.chan none] 38 (0, 0)) := heap_alloc_new w _
  go_enter Try.func26, Try.ntmps26
  go_wp2_with fail
  refine (length_nil _).mono ?_
  rintro e w1 ⟨rfl, hb1⟩
  have hx1 : w1.cell? ⟨w.heap.size, 0, none⟩ = some (.chan none) := cell_of_row w1 w.heap.size 0 _ 38 (0, 0) ((hb1.block _ (by simp)).trans hx0)
  have hB1 := hb0.trans (hb1.mono hb0.size)
  go_wp2_with (first
    | (at_make; refine wpList_make_own _ rfl _ _ 27 rfl w.heap.size 3 i0 (.int .i64 0) 1 Try.underlying27 HI.out HZ0.out HZ1.out .i64 .i64 _ 0 rfl rfl (by omega) (by rw [HZ2.out]; omega) (by unfold maxLen; omega) hB1.size ?_; intro w2 hown2 hg2; have hx2 := hg2.cell hx1 (by simp); have hB2 : Below w.heap.size w w2 := hB1.grown hg2 hB1.size (by simp)))
  refine (length_nil _).mono ?_
  rintro e w3 ⟨rfl, hb3⟩
  have hB3 := hB2.trans (hb3.mono hB2.size)
  clear hown2 hg2 hx2 hx1 hx0
  go_wp2_with fail
  go_loopw [3, 11] (fun v i wr => (∃ A cp, v = .slice A 0 cp) ∧ i = .int .i64 0 ∧ wr = w3) (fun _ _ _ => 0)
  case atStart => exact ⟨⟨_, _, rfl⟩, rfl, rfl⟩
  case round =>
    obtain ⟨⟨A, cp, rfl⟩, rfl, rfl⟩ := hrel
    go_wp2
    go_ret
    exact ⟨A, cp, rfl, hB3⟩
theorem all_nob (v : Value) (w : World) (h : Nob w v) : Calls Try.prog 16 #[v] w fun e w' => ∃ A cp, e = .returned (.slice A 0 cp) ∧ Below w.heap.size w w' := by
  have hr := row_nob v w h
  clear h
  go_enter Try.func16, Try.ntmps16
  go_wp2_with (first
    | (go_at_call 20; refine hr.mono ?_; rintro e w1 ⟨rfl, hb1⟩)
    | (go_at_call 26; refine (all_nil _).mono ?_; rintro e w2 ⟨A, cp, rfl, hb2⟩))
  go_ret
  exact ⟨A, cp, rfl, two_below hb1 hb2⟩

theorem nob_nil (w : World) : Nob w (.pointer none) := .inl rfl
set_option maxRecDepth 100000 in
set_option maxHeartbeats 2000000 in
theorem nobody_walk (n : Int) (w : World) : Calls Try.prog 5 #[.int .i64 n] w fun e w' => e = .returned (.bool true) ∧ Below w.heap.size w w' := by
  go_enter Try.func5, Try.ntmps5
  go_wp2_with fail
  refine (alive_any w).mono ?_
  rintro e w1 ⟨rfl, hb1⟩
  have o0 : Nob (w1.alloc (.cells #[.chan none] 40)) (.pointer (some ⟨w1.heap.size, 0, none⟩)) := .inr ⟨_, rfl, cell_of_row _ w1.heap.size 0 _ 40 (0, 0) (heap_alloc_new w1 _)⟩
  have hb0 : Below w1.heap.size w1 (w1.alloc (.cells #[.chan none] 40)) := (Below.refl _ w1).alloc (Nat.le_refl _) _
  have b0 := two_below hb1 hb0
  clear hb0 hb1
  go_wp2_with fail
  refine (take_nob (.pointer none) (w1.alloc (.cells #[.chan none] 40)) (nob_nil _)).mono ?_
  rintro e v1 ⟨rfl, hb⟩
  have o1 := o0.below hb
  have b1 := two_below b0 hb
  clear hb b0 o0
  go_wp2_with fail
  refine (take_nob (.pointer (some ⟨w1.heap.size, 0, none⟩)) v1 o1).mono ?_
  rintro e v2 ⟨rfl, hb⟩
  have o2 := o1.below hb
  have b2 := two_below b1 hb
  clear hb b1 o1
  go_wp2_with fail
  refine (put_nob (.pointer none) n v2 (nob_nil _)).mono ?_
  rintro e v3 ⟨rfl, hb⟩
  have o3 := o2.below hb
  have b3 := two_below b2 hb
  clear hb b2 o2
  go_wp2_with fail
  refine (put_nob (.pointer (some ⟨w1.heap.size, 0, none⟩)) n v3 o3).mono ?_
  rintro e v4 ⟨rfl, hb⟩
  have o4 := o3.below hb
  have b4 := two_below b3 hb
  clear hb b3 o3
  go_wp2_with fail
  refine (len_nob (.pointer none) v4 (nob_nil _)).mono ?_
  rintro e v5 ⟨rfl, hb⟩
  have o5 := o4.below hb
  have b5 := two_below b4 hb
  clear hb b4 o4
  go_wp2_with fail
  refine (len_nob (.pointer (some ⟨w1.heap.size, 0, none⟩)) v5 o5).mono ?_
  rintro e v6 ⟨rfl, hb⟩
  have o6 := o5.below hb
  have b6 := two_below b5 hb
  clear hb b5 o5
  go_wp2_with fail
  refine (room_nob (.pointer none) v6 (nob_nil _)).mono ?_
  rintro e v7 ⟨rfl, hb⟩
  have o7 := o6.below hb
  have b7 := two_below b6 hb
  clear hb b6 o6
  go_wp2_with fail
  refine (room_nob (.pointer (some ⟨w1.heap.size, 0, none⟩)) v7 o7).mono ?_
  rintro e v8 ⟨rfl, hb⟩
  have o8 := o7.below hb
  have b8 := two_below b7 hb
  clear hb b7 o7
  go_wp2_with fail
  refine (all_nob (.pointer none) v8 (nob_nil _)).mono ?_
  rintro e v9 ⟨A8, cp8, rfl, hb⟩
  have o9 := o8.below hb
  have b9 := two_below b8 hb
  clear hb b8 o8
  go_wp2_with fail
  refine (all_nob (.pointer (some ⟨w1.heap.size, 0, none⟩)) v9 o9).mono ?_
  rintro e v10 ⟨A9, cp9, rfl, hb⟩
  have o10 := o9.below hb
  have b10 := two_below b9 hb
  clear hb b9 o9
  go_wp2_with fail
  refine (clone_nob (.pointer none) v10 (nob_nil _)).mono ?_
  rintro e v11 ⟨rfl, hb⟩
  have o11 := o10.below hb
  have b11 := two_below b10 hb
  clear hb b10 o10
  go_wp2_with fail
  refine (clone_nob (.pointer (some ⟨w1.heap.size, 0, none⟩)) v11 o11).mono ?_
  rintro e v12 ⟨rfl, hb⟩
  have o12 := o11.below hb
  have b12 := two_below b11 hb
  clear hb b11 o11
  go_wp2_with fail
  go_ret
  exact ⟨rfl, b12⟩
end Go.Proofs.Ytjbmdbnjoekpmaa
