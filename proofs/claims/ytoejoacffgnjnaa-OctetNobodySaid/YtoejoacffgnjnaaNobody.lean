/- The walk of 'OctetNobody': nil, and a reader that nobody made, read nothing. Conditions: none. -/
import Derived.Test.YtoejoacffgnjnaaAlive
namespace Go.Proofs.Ytoejoacffgnjnaa
open Go.RowKit

theorem odd_rd (w : World) : Rd (w.alloc (.cells #[.slice none 0 0, .int .i64 0, .bool false] 40)) w.heap.size [] 0 false :=
  ⟨⟨none, 0, heap_alloc_new w _, Oct.nil _ _⟩, by simp, Nat.le_refl _⟩

set_option maxHeartbeats 1000000 in
set_option maxRecDepth 100000 in
theorem nobody_any (a : Int) (w : World) : Calls Try.prog 6 #[.int .i64 a] w (Trial w) := by
  go_enter Try.func6, Try.ntmps6
  go_wp2_with (first
    | (go_at_call 7; refine (alive_any _).mono ?_; rintro e w1 ⟨rfl, hb1⟩))
  refine num_nil.mono ?_
  rintro e w' ⟨rfl, rfl⟩
  have hr1 := odd_rd w1
  go_wp2_with fail
  refine (num_no hr1 (.inl rfl)).mono ?_
  rintro e w2 ⟨rfl, hr2, hg2⟩
  go_wp2_with fail
  refine (signed_no hr2 (.inl rfl)).mono ?_
  rintro e w3 ⟨rfl, hr3, hg3⟩
  go_wp2_with fail
  refine signed_nil.mono ?_
  rintro e w' ⟨rfl, rfl⟩
  go_wp2_with fail
  refine (left_nil _).mono ?_
  rintro e w' ⟨rfl, rfl⟩
  go_wp2_with fail
  refine (left_any hr3).mono ?_
  rintro e w' ⟨rfl, q, rfl⟩
  rw [show (([] : List Int).length : Int) - ((0 : Nat) : Int) = 0 from rfl]
  go_wp2_with fail
  refine (at_nil _).mono ?_
  rintro e w' ⟨rfl, rfl⟩
  go_wp2_with fail
  refine (at_any (hr3.drewN q)).mono ?_
  rintro e w' ⟨rfl, rfl⟩
  go_wp2_with fail
  refine (bad_nil _).mono ?_
  rintro e w' ⟨rfl, rfl⟩
  go_wp2_with fail
  refine (bad_any (hr3.drewN q)).mono ?_
  rintro e w' ⟨rfl, rfl⟩
  go_wp2_with fail
  go_ret
  refine ⟨by simp, ?_⟩
  have s1 : Below w.heap.size w (w1.alloc (.cells #[.slice none 0 0, .int .i64 0, .bool false] 40)) := hb1.alloc hb1.size _
  have s2 : Below w.heap.size w w2 := s1.grown hg2 s1.size (fun k hk => by injection hk with hk; have := hb1.size; omega)
  have s3 : Below w.heap.size w w3 := s2.grown hg3 s2.size (fun k hk => by injection hk with hk; have := hb1.size; omega)
  exact below_drew s3 _
end Go.Proofs.Ytoejoacffgnjnaa
