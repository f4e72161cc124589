/- nil, and a table that New did not make, have nothing: the walk. Conditions: none. -/
import Derived.Test.YtfgoflflkfmhaaaAlive
namespace Go.Proofs.Ytfgoflflkfmhaaa
open Go.RowKit Go.Maps

set_option maxRecDepth 100000 in
set_option maxHeartbeats 4000000 in
theorem nobody_walk (h : Int) (s : ByteArray) (i : Int) (w : World) (hh : (Lit.int .u64 h).wf = true) :
    Calls Try.prog 4 #[.int .u64 h, .string s, .int .i64 i] w fun e w' => e = .returned (.bool true) ∧ Below w.heap.size w w' := by
  go_enter Try.func4, Try.ntmps4
  go_wp2_with fail
  refine (alive_any w).mono ?_
  rintro e w1 ⟨rfl, b1⟩
  have o0 : Nob (w1.alloc (.cells #[.pointer none] 38)) (.pointer (some ⟨w1.heap.size, 0, none⟩)) := .inr ⟨_, rfl, cell_of_row _ w1.heap.size 0 _ 38 (0, 0) (heap_alloc_new w1 _)⟩
  have b2 := b1.alloc b1.size (.cells #[.pointer none] 38)
  have n0 : ∀ W, Nob W (.pointer none) := fun W => .inl rfl
  go_wp2_with fail
  refine (put_nob _ h s _ (n0 _) hh).mono ?_
  rintro e w3 ⟨rfl, b3⟩
  have o3 := o0.below b3
  have c3 := b2.trans (b3.mono b2.size)
  clear b1 b2 b3
  go_wp2_with fail
  refine (find_nob _ h s _ o3 hh).mono ?_
  rintro e w4 ⟨rfl, b4⟩
  have o4 := o3.below b4
  have c4 := c3.trans (b4.mono c3.size)
  clear b4 o3 c3
  go_wp2_with fail
  refine (get_nob _ i _ o4).mono ?_
  rintro e w5 ⟨rfl, b5⟩
  have o5 := o4.below b5
  have c5 := c4.trans (b5.mono c4.size)
  clear b5 o4 c4
  go_wp2_with fail
  refine (put_nob _ h s _ o5 hh).mono ?_
  rintro e w6 ⟨rfl, b6⟩
  have o6 := o5.below b6
  have c6 := c5.trans (b6.mono c5.size)
  clear b6 o5 c5
  go_wp2_with fail
  refine (len_nob _ _ (n0 _)).mono ?_
  rintro e w7 ⟨rfl, b7⟩
  have o7 := o6.below b7
  have c7 := c6.trans (b7.mono c6.size)
  clear b7 o6 c6
  go_wp2_with fail
  refine (len_nob _ _ o7).mono ?_
  rintro e w8 ⟨rfl, b8⟩
  have o8 := o7.below b8
  have c8 := c7.trans (b8.mono c7.size)
  clear b8 o7 c7
  go_wp2_with fail
  refine (clashes_nob _ _ (n0 _)).mono ?_
  rintro e w9 ⟨rfl, b9⟩
  have o9 := o8.below b9
  have c9 := c8.trans (b9.mono c8.size)
  clear b9 o8 c8
  go_wp2_with fail
  refine (clashes_nob _ _ o9).mono ?_
  rintro e w10 ⟨rfl, b10⟩
  have c10 := c9.trans (b10.mono c9.size)
  go_wp2
  go_ret
  exact ⟨rfl, c10⟩
end Go.Proofs.Ytfgoflflkfmhaaa
