/- A foot made of two lists. Conditions: at most 12 places a list. -/
import Derived.Test.YtfadfdfpocpelaaDoorFUnion
namespace Go.Proofs.YtfadfdfpocpelaaDoor
open Go.ChangeShapes Go.WideShapes Go.RowKit

/-- One list, in a block just made. -/
theorem union_one {w1 : World} {W : World} {g : Nat} (eg : w1.heap.size = g) {A : Option Addr} {n cap : Nat} {l : List Pl} (eW : W = w1.alloc (.cells #[.slice A n cap] 48)) (h : SeesP w1 ⟨A, n, cap⟩ l) (hn : n ≤ 12) :
    Calls Tryd.prog 35 #[.slice (some ⟨g, 0, none⟩) 1 1] W fun e w' => ∃ A' n' cap', e = .returned (.slice A' n' cap') ∧ SeesP w' ⟨A', n', cap'⟩ (normP l) ∧ (∀ g, holds A' n' g → w1.heap.size < g) ∧ Below w1.heap.size w1 w' := by
  have hb1 : Below w1.heap.size w1 W := by rw [eW]; exact (Below.refl _ w1).alloc (Nat.le_refl _) _
  subst eg
  have hd : Head W w1.heap.size [(⟨A, n, cap⟩, l)] := ⟨by rw [eW]; exact heap_alloc_new w1 _, fun x hx => by
    rw [List.mem_singleton] at hx
    subst hx
    exact h.on hb1⟩
  have hl : l.length = n := h.len
  refine (union_any hd (L := l) (by simp) (by omega) (by simp)).mono ?_
  rintro e w2 ⟨A2, n2, cap2, rfl, h2, hh, hb2⟩
  exact ⟨A2, n2, cap2, rfl, h2, fun g hg => (by have := hh g hg; rw [eW] at this; simp at this; omega), hb1.trans (hb2.mono hb1.size)⟩
theorem below_row {w w' : World} (h : Below w.heap.size w w') {z : Nat} (hz : w.heap.size ≤ z) (cs : Array Value) : Below w.heap.size w (w'.setRow z cs) :=
  h.trans ((kept_row w' z cs).under _ h.size (fun k e => by subst e; exact hz))
theorem foot_row {w : World} {f : Ft} {R W : List Pl} (h : Foot w f R W) {z : Nat} (cs : Array Value) (h1 : ∀ g, holds f.r.A f.r.n g → g ≠ z) (h2 : ∀ g, holds f.w.A f.w.n g → g ≠ z) : Foot (w.setRow z cs) f R W :=
  ⟨Sees.kept h.r (kept_row w z cs) h1, Sees.kept h.w (kept_row w z cs) h2⟩
set_option maxRecDepth 100000 in
set_option maxHeartbeats 1000000 in
theorem of_any {w : World} {A A' : Option Addr} {n n' cap cap' : Nat} {R W : List Pl} (h : SeesP w ⟨A, n, cap⟩ R) (h' : SeesP w ⟨A', n', cap'⟩ W) (hn : n ≤ 12) (hn' : n' ≤ 12) :
    Calls Tryd.prog 17 #[.slice A n cap, .slice A' n' cap'] w fun e w' => ∃ f : Ft, e = .returned (.agg f.cs.toArray) ∧ Foot w' f (normP R) (normP W) ∧ Below w.heap.size w w' := by
  obtain ⟨z, ez⟩ : ∃ z, z = w.heap.size := ⟨_, rfl⟩
  obtain ⟨W0, eW0⟩ : ∃ W0, W0 = w.alloc (.cells #[.slice none 0 0, .slice none 0 0] 50) := ⟨_, rfl⟩
  have hb0 : Below w.heap.size w W0 := by rw [eW0]; exact (Below.refl _ w).alloc (Nat.le_refl _) _
  have hz0 : Blk W0 z 50 #[.slice none 0 0, .slice none 0 0] := by rw [eW0, ez]; exact heap_alloc_new w _
  obtain ⟨W1, eW1⟩ : ∃ W1, W1 = W0.alloc (.cells #[.slice A n cap] 48) := ⟨_, rfl⟩
  have hu1 := union_one (g := w.heap.size + 1) (by rw [eW0]; simp) eW1 (h.on hb0) hn
  rw [eW1, eW0] at hu1
  have HX := Lib.hid (And.intro ez (And.intro eW0 (And.intro hb0 (And.intro hz0 (h'.on hb0)))))
  clear ez eW0 hb0 hz0 eW1 h h'
  go_enter Tryd.func17, Tryd.ntmps17
  go_wp2_with fail
  refine hu1.mono ?_
  rintro e w2 ⟨A2, n2, cap2, rfl, h2, hg2, hb2⟩
  obtain ⟨ez, eW0, hb0, hz0, h'⟩ := HX.out
  rw [← eW0] at hb2 hg2
  have hz2 := hz0.on hb2
  have hzl := hz0.lt
  obtain ⟨W3, eW3⟩ : ∃ W3, W3 = w2.alloc (.cells #[.slice A' n' cap'] 48) := ⟨_, rfl⟩
  have hu2 := union_one rfl eW3 (h'.on hb2) hn'
  rw [eW3] at hu2
  rw [← ez]
  have HY := Lib.hid (And.intro ez (And.intro (hb0.trans (hb2.mono hb0.size)) (And.intro hz2 (And.intro h2 (show ∀ g, holds A2 n2 g → g ≠ z from fun g hg => by have := hg2 g hg; omega)))))
  clear ez eW0 hb0 hz0 h' hb2 hz2 eW3 h2 hu1 hg2 hzl
  go_wp2_with fail
  refine hu2.mono ?_
  rintro e w4 ⟨A4, n4, cap4, rfl, h4, hg4, hb4⟩
  obtain ⟨ez, hb2, hz2, h2, hg2⟩ := HY.out
  have hz4 := hz2.on hb4
  have hb5 := hb2.trans (hb4.mono hb2.size)
  have hzl := hz2.lt
  have HZ := Lib.hid (And.intro ez (And.intro hb5 (And.intro hz4 (And.intro (h2.on hb4) (And.intro hg2 (And.intro h4 (show ∀ g, holds A4 n4 g → g ≠ z from fun g hg => by have := hg4 g hg; omega)))))))
  clear ez hb2 hz2 h2 hg2 hb5 h4 hg4 hb4 hzl hu2
  go_wp2_with (refine wpList_store_row rfl 50 (.tmp 4) (.tmp 11) rfl z #[.slice A2 n2 cap2, .slice A4 n4 cap4] rfl rfl 50 _ hz4 size50 rfl (by simp [Value.oneCell']) ?_)
  obtain ⟨ez, hb5, hz4, h2, hg2, h4, hg4⟩ := HZ.out
  refine bodyPost_ret (results_cell_row (cs := #[.slice A2 n2 cap2, .slice A4 n4 cap4]) rfl _ _ z 50 (0, 0) _ rfl (setRow_heap _ _ _ _ _ _ hz4) Tryd.underlying50 rfl size50) rfl ?_
  exact ⟨⟨⟨A2, n2, cap2⟩, ⟨A4, n4, cap4⟩⟩, rfl, foot_row (f := ⟨⟨A2, n2, cap2⟩, ⟨A4, n4, cap4⟩⟩) ⟨h2, h4⟩ _ hg2 hg4, below_row hb5 (by omega) _⟩
end Go.Proofs.YtfadfdfpocpelaaDoor
