/- The library's Clone of a list of places, of changes: a list of the call's own. Conditions: at most a million. -/
import Derived.Test.YtlajjadpcaobiaaNew
namespace Go.Proofs.Ytlajjadpcaobiaa
open Go.RowKit Go.ChangeShapes Go.WideShapes

theorem nil59 (w : World) : (binOp BinOp.eql 59 (.slice none 0 0) (.slice none 0 0)).run Try.prog w = .ok (.bool true) w := by kernel_rfl
theorem some59 (ad : Addr) (n cap : Nat) (w : World) : (binOp BinOp.eql 59 (.slice (some ad) n cap) (.slice none 0 0)).run Try.prog w = .ok (.bool false) w := by kernel_rfl
theorem empty59 (w : World) : (Instr.buildSlice 59 0 #[]).run Try.prog w = .ok (.slice (some ⟨w.heap.size, 0, none⟩) 0 0) (w.alloc (.cells #[] 27)) := by kernel_rfl
set_option maxRecDepth 100000 in
set_option maxHeartbeats 4000000 in
theorem sloneP_any {w : World} {A : Option Addr} {n cap : Nat} {l : List Pl} (h : SeesP w A n cap l) (hn : n ≤ 1000000) : Calls Try.prog 31 #[.slice A n cap] w fun e w' => ∃ A' c', e = .returned (.slice A' n c') ∧ w'.ownsRow w.heap.size 27 3 (.slice A' n c') n (flatP l) ∧ Below w.heap.size w w' := by
  obtain ⟨i0, hi, hz0, hz1, hz2⟩ := info_parts info27
  rcases A with _ | a
  · have h0 := Sees.none_ h rfl
    have h1 := Sees.room h
    have hl := h.len
    obtain rfl : cap = 0 := h0
    obtain rfl : n = 0 := by omega
    obtain rfl : l = [] := List.eq_nil_of_length_eq_zero hl
    have hnil := nil59
    clear hl h
    go_enter Try.func31, Try.ntmps31
    go_wp2
    go_ret
    exact ⟨none, 0, rfl, World.ownsRow_nil _ _ _ _, Below.refl _ _⟩
  · have hnil := some59 a n cap
    have hbs := empty59
    obtain ⟨W1, eW1⟩ : ∃ W, w.alloc (.cells #[] 27) = W := ⟨_, rfl⟩
    have hb1 : Below w.heap.size w W1 := by rw [← eW1]; exact (Below.refl _ w).alloc (Nat.le_refl _) _
    have h0 : W1.ownsRow w.heap.size 27 3 (.slice (some ⟨w.heap.size, 0, none⟩) 0 0) 0 [] := by rw [← eW1]; exact World.ownsRow_made w #[] 0 (Nat.le_refl _) (Nat.zero_le _) rfl
    have h2 := h.on hb1
    have hs1 := hb1.size
    go_enter Try.func31, Try.ntmps31
    go_wp2_with (first
      | (at_builtin; refine wpList_app rfl _ _ 59 rfl w.heap.size 27 i0 (.agg noP.cs.toArray) 3 24 Try.underlying59 hi hz0 hz1 hz2 rfl (by decide) (some ⟨w.heap.size, 0, none⟩) 0 0 [] rfl h0 (some a) n cap (flatP l) rfl h2 (flat_one Pl.one l) (by unfold maxLen; omega) (by omega) hs1 ?_; intro A' c' w2 ho hg hl))
    go_ret
    rw [Nat.zero_add, List.nil_append] at ho
    exact ⟨A', c', rfl, ho, hb1.trans ((kept_grown hg).under _ hb1.size (fun k hk => by injection hk with hk; exact Nat.le_of_eq hk))⟩
theorem nil60 (w : World) : (binOp BinOp.eql 60 (.slice none 0 0) (.slice none 0 0)).run Try.prog w = .ok (.bool true) w := by kernel_rfl
theorem some60 (ad : Addr) (n cap : Nat) (w : World) : (binOp BinOp.eql 60 (.slice (some ad) n cap) (.slice none 0 0)).run Try.prog w = .ok (.bool false) w := by kernel_rfl
theorem empty60 (w : World) : (Instr.buildSlice 60 0 #[]).run Try.prog w = .ok (.slice (some ⟨w.heap.size, 0, none⟩) 0 0) (w.alloc (.cells #[] 74)) := by kernel_rfl
set_option maxRecDepth 100000 in
set_option maxHeartbeats 4000000 in
theorem sloneC_any {w : World} {A : Option Addr} {n cap : Nat} {l : List Ch} (h : SeesC w A n cap l) (hn : n ≤ 1000000) : Calls Try.prog 32 #[.slice A n cap] w fun e w' => ∃ A' c', e = .returned (.slice A' n c') ∧ w'.ownsRow w.heap.size 74 6 (.slice A' n c') n (flatC l) ∧ Below w.heap.size w w' := by
  obtain ⟨i0, hi, hz0, hz1, hz2⟩ := info_parts info74
  rcases A with _ | a
  · have h0 := Sees.none_ h rfl
    have h1 := Sees.room h
    have hl := h.len
    obtain rfl : cap = 0 := h0
    obtain rfl : n = 0 := by omega
    obtain rfl : l = [] := List.eq_nil_of_length_eq_zero hl
    have hnil := nil60
    clear hl h
    go_enter Try.func32, Try.ntmps32
    go_wp2
    go_ret
    exact ⟨none, 0, rfl, World.ownsRow_nil _ _ _ _, Below.refl _ _⟩
  · have hnil := some60 a n cap
    have hbs := empty60
    obtain ⟨W1, eW1⟩ : ∃ W, w.alloc (.cells #[] 74) = W := ⟨_, rfl⟩
    have hb1 : Below w.heap.size w W1 := by rw [← eW1]; exact (Below.refl _ w).alloc (Nat.le_refl _) _
    have h0 : W1.ownsRow w.heap.size 74 6 (.slice (some ⟨w.heap.size, 0, none⟩) 0 0) 0 [] := by rw [← eW1]; exact World.ownsRow_made w #[] 0 (Nat.le_refl _) (Nat.zero_le _) rfl
    have h2 := h.on hb1
    have hs1 := hb1.size
    go_enter Try.func32, Try.ntmps32
    go_wp2_with (first
      | (at_builtin; refine wpList_app rfl _ _ 60 rfl w.heap.size 74 i0 (.agg noC.cs.toArray) 6 48 Try.underlying60 hi hz0 hz1 hz2 rfl (by decide) (some ⟨w.heap.size, 0, none⟩) 0 0 [] rfl h0 (some a) n cap (flatC l) rfl h2 (flat_one Ch.one l) (by unfold maxLen; omega) (by omega) hs1 ?_; intro A' c' w2 ho hg hl))
    go_ret
    rw [Nat.zero_add, List.nil_append] at ho
    exact ⟨A', c', rfl, ho, hb1.trans ((kept_grown hg).under _ hb1.size (fun k hk => by injection hk with hk; exact Nat.le_of_eq hk))⟩
end Go.Proofs.Ytlajjadpcaobiaa
