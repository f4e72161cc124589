/- What package place calls a place. Conditions: the library's table of powers of ten lies as it is laid; the place's numbers have 64 bits. -/
import Derived.Test.YtabnfiligbpocaaDoorText
namespace Go.Proofs.YtabnfiligbpocaaDoor
open Go.RowKit

/-- A place's name and the numbers that are told of its kind, as a text. -/
def textP (x : Pl) : List UInt8 :=
  if x.k = 1 then joinL (wordsP [114, 111, 111, 116] [x.i])
  else if x.k = 2 then joinL (wordsP [104, 101, 97, 100] [x.i])
  else if x.k = 3 then joinL (wordsP [102, 105, 101, 108, 100] [x.i, x.j])
  else if x.k = 4 then joinL (wordsP [104, 101, 97, 112] [])
  else if x.k = 5 then joinL (wordsP [115, 108, 111, 116] [x.i, x.j])
  else if x.k = 6 then joinL (wordsP [101, 112, 111, 99, 104] [])
  else if x.k = 7 then joinL (wordsP [109, 97, 114, 107] [x.i])
  else if x.k = 8 then joinL (wordsP [99, 111, 117, 110, 116] [x.i])
  else []
theorem textP_1 (i j : Int) : textP ⟨1, i, j⟩ = joinL (wordsP [114, 111, 111, 116] [i]) := rfl
theorem textP_2 (i j : Int) : textP ⟨2, i, j⟩ = joinL (wordsP [104, 101, 97, 100] [i]) := rfl
theorem textP_3 (i j : Int) : textP ⟨3, i, j⟩ = joinL (wordsP [102, 105, 101, 108, 100] [i, j]) := rfl
theorem textP_4 (i j : Int) : textP ⟨4, i, j⟩ = joinL (wordsP [104, 101, 97, 112] []) := rfl
theorem textP_5 (i j : Int) : textP ⟨5, i, j⟩ = joinL (wordsP [115, 108, 111, 116] [i, j]) := rfl
theorem textP_6 (i j : Int) : textP ⟨6, i, j⟩ = joinL (wordsP [101, 112, 111, 99, 104] []) := rfl
theorem textP_7 (i j : Int) : textP ⟨7, i, j⟩ = joinL (wordsP [109, 97, 114, 107] [i]) := rfl
theorem textP_8 (i j : Int) : textP ⟨8, i, j⟩ = joinL (wordsP [99, 111, 117, 110, 116] [i]) := rfl
theorem textP_else (x : Pl) (h : ¬ (1 ≤ x.k ∧ x.k ≤ 8)) : textP x = [] := by
  unfold textP
  rw [if_neg (by omega), if_neg (by omega), if_neg (by omega), if_neg (by omega), if_neg (by omega), if_neg (by omega), if_neg (by omega), if_neg (by omega)]
/-- A block of one or two numbers, read as such. -/
theorem one_at (W : World) (x : Int) (B : Nat) (hB : W.heap.size = B) : ∀ i y, [x][i]? = some y → ∃ g, some (⟨B, 0, none⟩ : Addr) = some ⟨g, 0, none⟩ ∧ g < (W.alloc (.cells #[.int .i64 x] 3)).heap.size ∧ (W.alloc (.cells #[.int .i64 x] 3)).cell? ⟨g, i, none⟩ = some (.int .i64 y) := by
  intro i y h
  refine ⟨B, rfl, by simp; omega, ?_⟩
  have hb := blk_new W #[.int .i64 x] 3 B hB
  match i, h with
  | 0, h =>
    simp at h
    subst h
    exact hb.cell 0
theorem two_at (W : World) (x z : Int) (B : Nat) (hB : W.heap.size = B) : ∀ i y, [x, z][i]? = some y → ∃ g, some (⟨B, 0, none⟩ : Addr) = some ⟨g, 0, none⟩ ∧ g < (W.alloc (.cells #[.int .i64 x, .int .i64 z] 3)).heap.size ∧ (W.alloc (.cells #[.int .i64 x, .int .i64 z] 3)).cell? ⟨g, i, none⟩ = some (.int .i64 y) := by
  intro i y h
  refine ⟨B, rfl, by simp; omega, ?_⟩
  have hb := blk_new W #[.int .i64 x, .int .i64 z] 3 B hB
  match i, h with
  | 0, h =>
    simp at h
    subst h
    exact hb.cell 0
  | 1, h =>
    simp at h
    subst h
    exact hb.cell 1
theorem none_at (W : World) (A : Option Addr) : ∀ i y, ([] : List Int)[i]? = some y → ∃ g, A = some ⟨g, 0, none⟩ ∧ g < W.heap.size ∧ W.cell? ⟨g, i, none⟩ = some (.int .i64 y) := by
  intro i y h
  simp at h
set_option maxRecDepth 100000 in
set_option maxHeartbeats 2000000 in
theorem text_1 (i j : Int) (hi : Wide i) (w : World) (hL : Laid w) : Calls Tryd.prog 18 #[.agg #[.int .i64 1, .int .i64 i, .int .i64 j]] w fun e w' => e = .returned (.string (txt (joinL (wordsP [114, 111, 111, 116] [i])))) ∧ Below w.heap.size w w' := by
  obtain ⟨W0, eW0⟩ : ∃ W, W = w.alloc (.cells #[.int .i64 1, .int .i64 i, .int .i64 j] 23) := ⟨_, rfl⟩
  have hb0 : Below w.heap.size w W0 := by rw [eW0]; exact (Below.refl _ w).alloc (Nat.le_refl _) _
  have hx0 : Blk W0 w.heap.size 23 #[.int .i64 1, .int .i64 i, .int .i64 j] := by rw [eW0]; exact heap_alloc_new w _
  have c0 : W0.cell? ⟨w.heap.size, 0, none⟩ = some (.int .i64 1) := hx0.cell 0
  have c1 : W0.cell? ⟨w.heap.size, 1, none⟩ = some (.int .i64 i) := hx0.cell 1
  have c2 : W0.cell? ⟨w.heap.size, 2, none⟩ = some (.int .i64 j) := hx0.cell 2
  have hL0 := hL.on hb0
  have hs0 : W0.heap.size = w.heap.size + 1 := by rw [eW0]; simp
  clear hx0
  go_enter Tryd.func18, Tryd.ntmps18
  go_wp2_with fail
  rw [← eW0]
  clear eW0
  go_wp2_with fail
  have hb1 : Below W0.heap.size W0 _ := ((Below.refl _ _).alloc (Nat.le_refl _) (.cells #[.int .i64 i] 3))
  refine (text_of [114, 111, 111, 116] [i] (by decide) (by simp) (fun x hx => by simp at hx; subst hx; exact hi) (some ⟨w.heap.size + 1, 0, none⟩) 1 1 rfl (by decide) _ (hL0.on hb1) (one_at W0 i _ hs0)).mono ?_
  rintro e w1 ⟨rfl, hb2⟩
  go_wp2
  go_ret
  exact ⟨rfl, hb0.trans ((hb1.trans (hb2.mono hb1.size)).mono hb0.size)⟩
set_option maxRecDepth 100000 in
set_option maxHeartbeats 2000000 in
theorem text_2 (i j : Int) (hi : Wide i) (w : World) (hL : Laid w) : Calls Tryd.prog 18 #[.agg #[.int .i64 2, .int .i64 i, .int .i64 j]] w fun e w' => e = .returned (.string (txt (joinL (wordsP [104, 101, 97, 100] [i])))) ∧ Below w.heap.size w w' := by
  obtain ⟨W0, eW0⟩ : ∃ W, W = w.alloc (.cells #[.int .i64 2, .int .i64 i, .int .i64 j] 23) := ⟨_, rfl⟩
  have hb0 : Below w.heap.size w W0 := by rw [eW0]; exact (Below.refl _ w).alloc (Nat.le_refl _) _
  have hx0 : Blk W0 w.heap.size 23 #[.int .i64 2, .int .i64 i, .int .i64 j] := by rw [eW0]; exact heap_alloc_new w _
  have c0 : W0.cell? ⟨w.heap.size, 0, none⟩ = some (.int .i64 2) := hx0.cell 0
  have c1 : W0.cell? ⟨w.heap.size, 1, none⟩ = some (.int .i64 i) := hx0.cell 1
  have c2 : W0.cell? ⟨w.heap.size, 2, none⟩ = some (.int .i64 j) := hx0.cell 2
  have hL0 := hL.on hb0
  have hs0 : W0.heap.size = w.heap.size + 1 := by rw [eW0]; simp
  clear hx0
  go_enter Tryd.func18, Tryd.ntmps18
  go_wp2_with fail
  rw [← eW0]
  clear eW0
  go_wp2_with fail
  have hb1 : Below W0.heap.size W0 _ := ((Below.refl _ _).alloc (Nat.le_refl _) (.cells #[.int .i64 i] 3))
  refine (text_of [104, 101, 97, 100] [i] (by decide) (by simp) (fun x hx => by simp at hx; subst hx; exact hi) (some ⟨w.heap.size + 1, 0, none⟩) 1 1 rfl (by decide) _ (hL0.on hb1) (one_at W0 i _ hs0)).mono ?_
  rintro e w1 ⟨rfl, hb2⟩
  go_wp2
  go_ret
  exact ⟨rfl, hb0.trans ((hb1.trans (hb2.mono hb1.size)).mono hb0.size)⟩
set_option maxRecDepth 100000 in
set_option maxHeartbeats 2000000 in
theorem text_3 (i j : Int) (hi : Wide i) (hj : Wide j) (w : World) (hL : Laid w) : Calls Tryd.prog 18 #[.agg #[.int .i64 3, .int .i64 i, .int .i64 j]] w fun e w' => e = .returned (.string (txt (joinL (wordsP [102, 105, 101, 108, 100] [i, j])))) ∧ Below w.heap.size w w' := by
  obtain ⟨W0, eW0⟩ : ∃ W, W = w.alloc (.cells #[.int .i64 3, .int .i64 i, .int .i64 j] 23) := ⟨_, rfl⟩
  have hb0 : Below w.heap.size w W0 := by rw [eW0]; exact (Below.refl _ w).alloc (Nat.le_refl _) _
  have hx0 : Blk W0 w.heap.size 23 #[.int .i64 3, .int .i64 i, .int .i64 j] := by rw [eW0]; exact heap_alloc_new w _
  have c0 : W0.cell? ⟨w.heap.size, 0, none⟩ = some (.int .i64 3) := hx0.cell 0
  have c1 : W0.cell? ⟨w.heap.size, 1, none⟩ = some (.int .i64 i) := hx0.cell 1
  have c2 : W0.cell? ⟨w.heap.size, 2, none⟩ = some (.int .i64 j) := hx0.cell 2
  have hL0 := hL.on hb0
  have hs0 : W0.heap.size = w.heap.size + 1 := by rw [eW0]; simp
  clear hx0
  go_enter Tryd.func18, Tryd.ntmps18
  go_wp2_with fail
  rw [← eW0]
  clear eW0
  go_wp2_with fail
  have hb1 : Below W0.heap.size W0 _ := ((Below.refl _ _).alloc (Nat.le_refl _) (.cells #[.int .i64 i, .int .i64 j] 3))
  refine (text_of [102, 105, 101, 108, 100] [i, j] (by decide) (by simp) (fun x hx => by simp at hx; rcases hx with rfl | rfl <;> assumption) (some ⟨w.heap.size + 1, 0, none⟩) 2 2 rfl (by decide) _ (hL0.on hb1) (two_at W0 i j _ hs0)).mono ?_
  rintro e w1 ⟨rfl, hb2⟩
  go_wp2
  go_ret
  exact ⟨rfl, hb0.trans ((hb1.trans (hb2.mono hb1.size)).mono hb0.size)⟩
set_option maxRecDepth 100000 in
set_option maxHeartbeats 2000000 in
theorem text_4 (i j : Int) (w : World) (hL : Laid w) : Calls Tryd.prog 18 #[.agg #[.int .i64 4, .int .i64 i, .int .i64 j]] w fun e w' => e = .returned (.string (txt (joinL (wordsP [104, 101, 97, 112] [])))) ∧ Below w.heap.size w w' := by
  obtain ⟨W0, eW0⟩ : ∃ W, W = w.alloc (.cells #[.int .i64 4, .int .i64 i, .int .i64 j] 23) := ⟨_, rfl⟩
  have hb0 : Below w.heap.size w W0 := by rw [eW0]; exact (Below.refl _ w).alloc (Nat.le_refl _) _
  have hx0 : Blk W0 w.heap.size 23 #[.int .i64 4, .int .i64 i, .int .i64 j] := by rw [eW0]; exact heap_alloc_new w _
  have c0 : W0.cell? ⟨w.heap.size, 0, none⟩ = some (.int .i64 4) := hx0.cell 0
  have c1 : W0.cell? ⟨w.heap.size, 1, none⟩ = some (.int .i64 i) := hx0.cell 1
  have c2 : W0.cell? ⟨w.heap.size, 2, none⟩ = some (.int .i64 j) := hx0.cell 2
  have hL0 := hL.on hb0
  have hs0 : W0.heap.size = w.heap.size + 1 := by rw [eW0]; simp
  clear hx0
  go_enter Tryd.func18, Tryd.ntmps18
  go_wp2_with fail
  rw [← eW0]
  clear eW0
  go_wp2_with fail
  have hb1 : Below W0.heap.size W0 _ := (Below.refl _ _)
  refine (text_of [104, 101, 97, 112] [] (by decide) (by simp) (fun x hx => by cases hx) none 0 0 rfl (by decide) _ (hL0.on hb1) (none_at _ _)).mono ?_
  rintro e w1 ⟨rfl, hb2⟩
  go_wp2
  go_ret
  exact ⟨rfl, hb0.trans ((hb1.trans (hb2.mono hb1.size)).mono hb0.size)⟩
set_option maxRecDepth 100000 in
set_option maxHeartbeats 2000000 in
theorem text_5 (i j : Int) (hi : Wide i) (hj : Wide j) (w : World) (hL : Laid w) : Calls Tryd.prog 18 #[.agg #[.int .i64 5, .int .i64 i, .int .i64 j]] w fun e w' => e = .returned (.string (txt (joinL (wordsP [115, 108, 111, 116] [i, j])))) ∧ Below w.heap.size w w' := by
  obtain ⟨W0, eW0⟩ : ∃ W, W = w.alloc (.cells #[.int .i64 5, .int .i64 i, .int .i64 j] 23) := ⟨_, rfl⟩
  have hb0 : Below w.heap.size w W0 := by rw [eW0]; exact (Below.refl _ w).alloc (Nat.le_refl _) _
  have hx0 : Blk W0 w.heap.size 23 #[.int .i64 5, .int .i64 i, .int .i64 j] := by rw [eW0]; exact heap_alloc_new w _
  have c0 : W0.cell? ⟨w.heap.size, 0, none⟩ = some (.int .i64 5) := hx0.cell 0
  have c1 : W0.cell? ⟨w.heap.size, 1, none⟩ = some (.int .i64 i) := hx0.cell 1
  have c2 : W0.cell? ⟨w.heap.size, 2, none⟩ = some (.int .i64 j) := hx0.cell 2
  have hL0 := hL.on hb0
  have hs0 : W0.heap.size = w.heap.size + 1 := by rw [eW0]; simp
  clear hx0
  go_enter Tryd.func18, Tryd.ntmps18
  go_wp2_with fail
  rw [← eW0]
  clear eW0
  go_wp2_with fail
  have hb1 : Below W0.heap.size W0 _ := ((Below.refl _ _).alloc (Nat.le_refl _) (.cells #[.int .i64 i, .int .i64 j] 3))
  refine (text_of [115, 108, 111, 116] [i, j] (by decide) (by simp) (fun x hx => by simp at hx; rcases hx with rfl | rfl <;> assumption) (some ⟨w.heap.size + 1, 0, none⟩) 2 2 rfl (by decide) _ (hL0.on hb1) (two_at W0 i j _ hs0)).mono ?_
  rintro e w1 ⟨rfl, hb2⟩
  go_wp2
  go_ret
  exact ⟨rfl, hb0.trans ((hb1.trans (hb2.mono hb1.size)).mono hb0.size)⟩
set_option maxRecDepth 100000 in
set_option maxHeartbeats 2000000 in
theorem text_6 (i j : Int) (w : World) (hL : Laid w) : Calls Tryd.prog 18 #[.agg #[.int .i64 6, .int .i64 i, .int .i64 j]] w fun e w' => e = .returned (.string (txt (joinL (wordsP [101, 112, 111, 99, 104] [])))) ∧ Below w.heap.size w w' := by
  obtain ⟨W0, eW0⟩ : ∃ W, W = w.alloc (.cells #[.int .i64 6, .int .i64 i, .int .i64 j] 23) := ⟨_, rfl⟩
  have hb0 : Below w.heap.size w W0 := by rw [eW0]; exact (Below.refl _ w).alloc (Nat.le_refl _) _
  have hx0 : Blk W0 w.heap.size 23 #[.int .i64 6, .int .i64 i, .int .i64 j] := by rw [eW0]; exact heap_alloc_new w _
  have c0 : W0.cell? ⟨w.heap.size, 0, none⟩ = some (.int .i64 6) := hx0.cell 0
  have c1 : W0.cell? ⟨w.heap.size, 1, none⟩ = some (.int .i64 i) := hx0.cell 1
  have c2 : W0.cell? ⟨w.heap.size, 2, none⟩ = some (.int .i64 j) := hx0.cell 2
  have hL0 := hL.on hb0
  have hs0 : W0.heap.size = w.heap.size + 1 := by rw [eW0]; simp
  clear hx0
  go_enter Tryd.func18, Tryd.ntmps18
  go_wp2_with fail
  rw [← eW0]
  clear eW0
  go_wp2_with fail
  have hb1 : Below W0.heap.size W0 _ := (Below.refl _ _)
  refine (text_of [101, 112, 111, 99, 104] [] (by decide) (by simp) (fun x hx => by cases hx) none 0 0 rfl (by decide) _ (hL0.on hb1) (none_at _ _)).mono ?_
  rintro e w1 ⟨rfl, hb2⟩
  go_wp2
  go_ret
  exact ⟨rfl, hb0.trans ((hb1.trans (hb2.mono hb1.size)).mono hb0.size)⟩
set_option maxRecDepth 100000 in
set_option maxHeartbeats 2000000 in
theorem text_7 (i j : Int) (hi : Wide i) (w : World) (hL : Laid w) : Calls Tryd.prog 18 #[.agg #[.int .i64 7, .int .i64 i, .int .i64 j]] w fun e w' => e = .returned (.string (txt (joinL (wordsP [109, 97, 114, 107] [i])))) ∧ Below w.heap.size w w' := by
  obtain ⟨W0, eW0⟩ : ∃ W, W = w.alloc (.cells #[.int .i64 7, .int .i64 i, .int .i64 j] 23) := ⟨_, rfl⟩
  have hb0 : Below w.heap.size w W0 := by rw [eW0]; exact (Below.refl _ w).alloc (Nat.le_refl _) _
  have hx0 : Blk W0 w.heap.size 23 #[.int .i64 7, .int .i64 i, .int .i64 j] := by rw [eW0]; exact heap_alloc_new w _
  have c0 : W0.cell? ⟨w.heap.size, 0, none⟩ = some (.int .i64 7) := hx0.cell 0
  have c1 : W0.cell? ⟨w.heap.size, 1, none⟩ = some (.int .i64 i) := hx0.cell 1
  have c2 : W0.cell? ⟨w.heap.size, 2, none⟩ = some (.int .i64 j) := hx0.cell 2
  have hL0 := hL.on hb0
  have hs0 : W0.heap.size = w.heap.size + 1 := by rw [eW0]; simp
  clear hx0
  go_enter Tryd.func18, Tryd.ntmps18
  go_wp2_with fail
  rw [← eW0]
  clear eW0
  go_wp2_with fail
  have hb1 : Below W0.heap.size W0 _ := ((Below.refl _ _).alloc (Nat.le_refl _) (.cells #[.int .i64 i] 3))
  refine (text_of [109, 97, 114, 107] [i] (by decide) (by simp) (fun x hx => by simp at hx; subst hx; exact hi) (some ⟨w.heap.size + 1, 0, none⟩) 1 1 rfl (by decide) _ (hL0.on hb1) (one_at W0 i _ hs0)).mono ?_
  rintro e w1 ⟨rfl, hb2⟩
  go_wp2
  go_ret
  exact ⟨rfl, hb0.trans ((hb1.trans (hb2.mono hb1.size)).mono hb0.size)⟩
set_option maxRecDepth 100000 in
set_option maxHeartbeats 2000000 in
theorem text_8 (i j : Int) (hi : Wide i) (w : World) (hL : Laid w) : Calls Tryd.prog 18 #[.agg #[.int .i64 8, .int .i64 i, .int .i64 j]] w fun e w' => e = .returned (.string (txt (joinL (wordsP [99, 111, 117, 110, 116] [i])))) ∧ Below w.heap.size w w' := by
  obtain ⟨W0, eW0⟩ : ∃ W, W = w.alloc (.cells #[.int .i64 8, .int .i64 i, .int .i64 j] 23) := ⟨_, rfl⟩
  have hb0 : Below w.heap.size w W0 := by rw [eW0]; exact (Below.refl _ w).alloc (Nat.le_refl _) _
  have hx0 : Blk W0 w.heap.size 23 #[.int .i64 8, .int .i64 i, .int .i64 j] := by rw [eW0]; exact heap_alloc_new w _
  have c0 : W0.cell? ⟨w.heap.size, 0, none⟩ = some (.int .i64 8) := hx0.cell 0
  have c1 : W0.cell? ⟨w.heap.size, 1, none⟩ = some (.int .i64 i) := hx0.cell 1
  have c2 : W0.cell? ⟨w.heap.size, 2, none⟩ = some (.int .i64 j) := hx0.cell 2
  have hL0 := hL.on hb0
  have hs0 : W0.heap.size = w.heap.size + 1 := by rw [eW0]; simp
  clear hx0
  go_enter Tryd.func18, Tryd.ntmps18
  go_wp2_with fail
  rw [← eW0]
  clear eW0
  go_wp2_with fail
  have hb1 : Below W0.heap.size W0 _ := ((Below.refl _ _).alloc (Nat.le_refl _) (.cells #[.int .i64 i] 3))
  refine (text_of [99, 111, 117, 110, 116] [i] (by decide) (by simp) (fun x hx => by simp at hx; subst hx; exact hi) (some ⟨w.heap.size + 1, 0, none⟩) 1 1 rfl (by decide) _ (hL0.on hb1) (one_at W0 i _ hs0)).mono ?_
  rintro e w1 ⟨rfl, hb2⟩
  go_wp2
  go_ret
  exact ⟨rfl, hb0.trans ((hb1.trans (hb2.mono hb1.size)).mono hb0.size)⟩
set_option maxRecDepth 100000 in
theorem text_else (k i j : Int) (h : ¬ (1 ≤ k ∧ k ≤ 8)) (w : World) : Calls Tryd.prog 18 #[.agg #[.int .i64 k, .int .i64 i, .int .i64 j]] w fun e w' => e = .returned (.string (txt [])) ∧ Below w.heap.size w w' := by
  obtain ⟨W0, eW0⟩ : ∃ W, W = w.alloc (.cells #[.int .i64 k, .int .i64 i, .int .i64 j] 23) := ⟨_, rfl⟩
  have hb0 : Below w.heap.size w W0 := by rw [eW0]; exact (Below.refl _ w).alloc (Nat.le_refl _) _
  have hx0 : Blk W0 w.heap.size 23 #[.int .i64 k, .int .i64 i, .int .i64 j] := by rw [eW0]; exact heap_alloc_new w _
  have c0 : W0.cell? ⟨w.heap.size, 0, none⟩ = some (.int .i64 k) := hx0.cell 0
  obtain ⟨t1, t2, t3, t4, t5, t6, t7, t8⟩ : (k == 1) = false ∧ (k == 2) = false ∧ (k == 3) = false ∧ (k == 4) = false ∧ (k == 5) = false ∧ (k == 6) = false ∧ (k == 7) = false ∧ (k == 8) = false := by
    simp only [beq_eq_false_iff_ne]
    omega
  clear hx0 h
  go_enter Tryd.func18, Tryd.ntmps18
  go_wp2_with fail
  rw [← eW0]
  clear eW0
  go_wp2
  go_ret
  exact ⟨rfl, hb0⟩
theorem textP_any (x : Pl) (hi : Wide x.i) (hj : Wide x.j) (w : World) (hL : Laid w) : Calls Tryd.prog 18 #[.agg x.cs.toArray] w fun e w' => e = .returned (.string (txt (textP x))) ∧ Below w.heap.size w w' := by
  by_cases h : 1 ≤ x.k ∧ x.k ≤ 8
  · obtain ⟨k, i, j⟩ := x
    have hk : k = 1 ∨ k = 2 ∨ k = 3 ∨ k = 4 ∨ k = 5 ∨ k = 6 ∨ k = 7 ∨ k = 8 := by simp only at h; omega
    rcases hk with rfl | rfl | rfl | rfl | rfl | rfl | rfl | rfl
    · rw [textP_1]; exact text_1 i j hi w hL
    · rw [textP_2]; exact text_2 i j hi w hL
    · rw [textP_3]; exact text_3 i j hi hj w hL
    · rw [textP_4]; exact text_4 i j w hL
    · rw [textP_5]; exact text_5 i j hi hj w hL
    · rw [textP_6]; exact text_6 i j w hL
    · rw [textP_7]; exact text_7 i j hi w hL
    · rw [textP_8]; exact text_8 i j hi w hL
  · rw [textP_else x h]
    exact text_else x.k x.i x.j h w
end Go.Proofs.YtabnfiligbpocaaDoor
