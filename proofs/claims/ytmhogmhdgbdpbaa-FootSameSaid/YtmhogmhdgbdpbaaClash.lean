/- Whether two feet clash, by package foot. Conditions: at most 1000 places a list. -/
import Derived.Test.YtmhogmhdgbdpbaaMeet
namespace Go.Proofs.Ytmhogmhdgbdpbaa
open Go.ChangeShapes Go.WideShapes Go.RowKit

/-- At most 1000 places a list. -/
structure Ft.Small (f : Ft) : Prop where
  r : f.r.n ≤ 1000
  w : f.w.n ≤ 1000
theorem any_two (P a b : List Pl) (s t : Sl) : ([(s, a), (t, b)].any fun x => hit P x.2) = (hit P a || hit P b) := by simp
theorem any_one (P a : List Pl) (s : Sl) : ([(s, a)].any fun x => hit P x.2) = hit P a := by simp
set_option maxRecDepth 100000 in
set_option maxHeartbeats 2000000 in
theorem clash_any {w : World} {f f' : Ft} {R W R' W' : List Pl} (h : Foot w f R W) (h' : Foot w f' R' W') (hs : f.Small) (hs' : f'.Small) :
    Calls Try.prog 15 #[.agg f.cs.toArray, .agg f'.cs.toArray] w fun e w' => e = .returned (.bool (clashP R W R' W')) ∧ Below w.heap.size w w' := by
  obtain ⟨⟨rA, rn, rc⟩, ⟨wA, wn, wc⟩⟩ := f
  obtain ⟨⟨rA', rn', rc'⟩, ⟨wA', wn', wc'⟩⟩ := f'
  obtain ⟨hr, hw⟩ := h
  obtain ⟨hr', hw'⟩ := h'
  obtain ⟨sr, sw⟩ := hs
  obtain ⟨sr', sw'⟩ := hs'
  simp only at hr hw hr' hw' sr sw sr' sw'
  show Calls Try.prog 15 #[.agg #[.slice rA rn rc, .slice wA wn wc], .agg #[.slice rA' rn' rc', .slice wA' wn' wc']] w _
  obtain ⟨z, ez⟩ : ∃ z, z = w.heap.size := ⟨_, rfl⟩
  obtain ⟨W0, eW0⟩ : ∃ W0, W0 = ((w.alloc (.cells #[.slice rA rn rc, .slice wA wn wc] 24)).alloc (.cells #[.slice rA' rn' rc', .slice wA' wn' wc'] 24)).alloc (.cells #[.slice rA' rn' rc', .slice wA' wn' wc'] 22) := ⟨_, rfl⟩
  have hb0 : Below w.heap.size w W0 := by rw [eW0]; exact (((Below.refl _ w).alloc (Nat.le_refl _) _).alloc (by simp) _).alloc (by simp; omega) _
  have hx0 : Blk W0 z 24 #[.slice rA rn rc, .slice wA wn wc] := by
    rw [eW0, ez]
    exact Blk.on (Blk.on (heap_alloc_new w _) ((Below.refl _ _).alloc (Nat.le_refl _) _)) ((Below.refl _ _).alloc (Nat.le_refl _) _)
  have hy0 : Blk W0 (z + 1) 24 #[.slice rA' rn' rc', .slice wA' wn' wc'] := by
    rw [eW0, ez]
    exact Blk.on (blk_new _ _ 24 _ (by simp)) ((Below.refl _ _).alloc (Nat.le_refl _) _)
  have hh0 : Blk W0 (z + 1 + 1) 22 #[.slice rA' rn' rc', .slice wA' wn' wc'] := by rw [eW0, ez]; exact blk_new _ _ 22 _ (by simp)
  have hm1 := meet_any (g := z + 1 + 1) (H := [(⟨rA', rn', rc'⟩, R'), (⟨wA', wn', wc'⟩, W')]) ⟨hh0, fun x hx => by
    simp only [List.mem_cons, List.not_mem_nil, or_false] at hx
    rcases hx with rfl | rfl
    · exact hr'.on hb0
    · exact hw'.on hb0⟩ (hw.on hb0) sw (by simp) (fun x hx => by
    simp only [List.mem_cons, List.not_mem_nil, or_false] at hx
    rcases hx with rfl | rfl
    · exact sr'
    · exact sw')
  rw [any_two] at hm1
  simp only [List.length_cons, List.length_nil, Nat.zero_add] at hm1
  obtain ⟨T, eT⟩ : ∃ T, T = (hit W R' || hit W W') := ⟨_, rfl⟩
  rw [← eT] at hm1
  unfold clashP
  rw [← eT]
  have HX := Lib.hid (And.intro hb0 (And.intro hx0 hy0))
  have HE := Lib.hid (And.intro ez eW0)
  clear eT hb0 hx0 hy0 hh0 ez eW0
  go_enter Try.func15, Try.ntmps15
  go_wp2_with fail
  rw [← HE.out.2, ← HE.out.1]
  refine hm1.mono ?_
  rintro e w1 ⟨rfl, hb1⟩
  obtain ⟨hb0, hx0, hy0⟩ := HX.out
  have hb2 := hb0.trans (hb1.mono hb0.size)
  cases T with
  | true =>
    have HB := Lib.hid hb2
    clear hb1 hb2 hb0 hx0 hy0 hm1
    go_wp2
    go_ret
    exact ⟨by simp, HB.out⟩
  | false =>
    have hx1 := hx0.on hb1
    have hy1 := hy0.on hb1
    obtain ⟨W1, eW1⟩ : ∃ W1, W1 = w1.alloc (.cells #[.slice rA rn rc] 22) := ⟨_, rfl⟩
    have hb3 : Below w1.heap.size w1 W1 := by rw [eW1]; exact (Below.refl _ w1).alloc (Nat.le_refl _) _
    have hB4 := hb2.trans (hb3.mono hb2.size)
    have hm2 := meet_any (g := w1.heap.size) (H := [(⟨rA, rn, rc⟩, R)]) (w := W1) ⟨by rw [eW1]; exact heap_alloc_new w1 _, fun x hx => by
      rw [List.mem_singleton] at hx
      subst hx
      exact hr.on hB4⟩ (hw'.on hB4) sw' (by simp) (fun x hx => by
      rw [List.mem_singleton] at hx
      subst hx
      exact sr)
    rw [any_one] at hm2
    simp only [List.length_cons, List.length_nil, Nat.zero_add] at hm2
    rw [eW1] at hm2
    have c0 : w1.cell? ⟨z, 0, none⟩ = some (.slice rA rn rc) := hx1.cell 0
    have c1 : w1.cell? ⟨z + 1, 1, none⟩ = some (.slice wA' wn' wc') := hy1.cell 1
    obtain ⟨T2, eT2⟩ : ∃ T, T = hit W' R := ⟨_, rfl⟩
    rw [← eT2] at hm2
    have HB := Lib.hid (And.intro hB4 (And.intro eW1 eT2))
    clear hb1 hb2 hb0 hx0 hy0 hx1 hy1 hm1 hB4 eW1 eT2 hb3
    go_wp2_with fail
    refine hm2.mono ?_
    rintro e w2 ⟨rfl, hb5⟩
    have HC := Lib.hid (show Below w.heap.size w w2 from by
      obtain ⟨h1, h2, _⟩ := HB.out
      rw [← h2] at hb5
      exact h1.trans (hb5.mono h1.size))
    clear hb5
    go_wp2
    go_ret
    exact ⟨by rw [← HB.out.2.2]; simp, HC.out⟩
end Go.Proofs.Ytmhogmhdgbdpbaa
