/- The law's first look: cells go out and come back. Conditions: none. -/
import Derived.Test.YtdilmapcjmdabaaMake
import Derived.Test.YtdilmapcjmdabaaUndo
namespace Go.Proofs.Ytdilmapcjmdabaa
open Go.ChangeShapes Go.WideShapes Go.RowKit

/-- An arena all of whose blocks lie from B on. -/
def Has (w : World) (B p : Nat) (s : Sta) (H : His) : Prop := ∃ L, Ara w p L s H ∧ (∀ g, mine p L g → B ≤ g) ∧ B ≤ w.heap.size
section
variable {w w' : World} {B p : Nat} {s : Sta} {H : His}
theorem Has.below (h : Has w B p s H) (hb : Below w.heap.size w w') : Has w' B p s H := by
  obtain ⟨L, h1, h2, h3⟩ := h
  exact ⟨L, h1.below hb, h2, Nat.le_trans h3 hb.size⟩
theorem has_did {L : Lim} {s2 : Sta} {H2 : His} (hm : ∀ g, mine p L g → B ≤ g) (hB : B ≤ w.heap.size) (hd : AreTo w p L s2.C s2.R H2.chgs w') : Has w' B p s2 H2 ∧ Below B w w' := by
  obtain ⟨L', h1, h2, h3⟩ := hd
  exact ⟨⟨L', h1, fun g hg => (h3 g hg).elim (hm g) (fun e => Nat.le_trans hB e), Nat.le_trans hB h2.size⟩, h2.under B hB hm⟩
/-- A block of words is kept behind a call on an arena. -/
theorem Are.word {L : Lim} {C C2 : List Cel} {R R2 : List Int} {P P2 : List Chg} {z : Nat} {cs : Array Value} (h : Are w p L C R P) (hz : Blk w z 24 cs) (hd : AreTo w p L C2 R2 P2 w') : Blk w' z 24 cs :=
  hd.blk hz (h.off hz (by decide) (by decide) (by decide) (by decide) (by decide) (by decide))
/-- What a call on an arena keeps. -/
def After (w : World) (B p : Nat) (s2 : Sta) (H2 : His) (w' : World) : Prop := Has w' B p s2 H2 ∧ Below B w w' ∧ ∀ z cs, Blk w z 24 cs → Blk w' z 24 cs
theorem alloc_has {b d : Int} (h : Has w B p s H) (hI : Inv s) (hh : H.length ≤ 1000) :
    Calls Try.prog 23 #[.pointer (some ⟨p, 0, none⟩), .int .i64 b, .int .i64 d] w fun e w' =>
      e = .returned (match allM s b d with | none => .tuple #[.agg #[.int .i64 0, .int .i64 0, .int .i64 0], .bool false] | some m => .tuple #[.agg #[.int .i64 m.k, .int .i64 m.k, .int .i64 m.to.g], .bool true]) ∧ After w B p (s.go (allM s b d)) (His.go H s (allM s b d)) w' := by
  obtain ⟨L, h1, h2, h3⟩ := h
  refine (alloc_any h1 hI hh).mono ?_
  rintro e w' ⟨rfl, hd⟩
  obtain ⟨q1, q2⟩ := has_did (s2 := s.go (allM s b d)) (H2 := His.go H s (allM s b d)) h2 h3 hd
  exact ⟨rfl, q1, q2, fun z cs hz => h1.word hz hd⟩
theorem free_has {k : Int} (h : Has w B p s H) (hI : Inv s) (hh : H.length ≤ 1000) :
    Calls Try.prog 24 #[.pointer (some ⟨p, 0, none⟩), .int .i64 k] w fun e w' => e = .returned (.bool (freeM s k).isSome) ∧ After w B p (s.go (freeM s k)) (His.go H s (freeM s k)) w' := by
  obtain ⟨L, h1, h2, h3⟩ := h
  refine (free_any h1 hI hh).mono ?_
  rintro e w' ⟨rfl, hd⟩
  obtain ⟨q1, q2⟩ := has_did (s2 := s.go (freeM s k)) (H2 := His.go H s (freeM s k)) h2 h3 hd
  exact ⟨rfl, q1, q2, fun z cs hz => h1.word hz hd⟩
theorem alloc_step {b d k g : Int} {m : Mov} (he : allM s b d = some m) (hk : m.k = k) (hg : m.to.g = g) (h : Has w B p s H) (hI : Inv s) (hh : H.length ≤ 1000) :
    Calls Try.prog 23 #[.pointer (some ⟨p, 0, none⟩), .int .i64 b, .int .i64 d] w fun e w' => e = .returned (.tuple #[.agg #[.int .i64 k, .int .i64 k, .int .i64 g], .bool true]) ∧ After w B p (s.turn m) ((⟨m.k, m.was⟩, s) :: H) w' := by
  subst hk hg
  have := alloc_has (b := b) (d := d) h hI hh
  rw [he] at this
  exact this
theorem free_step {k : Int} {m : Mov} (he : freeM s k = some m) (h : Has w B p s H) (hI : Inv s) (hh : H.length ≤ 1000) :
    Calls Try.prog 24 #[.pointer (some ⟨p, 0, none⟩), .int .i64 k] w fun e w' => e = .returned (.bool true) ∧ After w B p (s.turn m) ((⟨m.k, m.was⟩, s) :: H) w' := by
  have := free_has (k := k) h hI hh
  rw [he] at this
  exact this
end
def m1 : Mov := ⟨1, noC, ⟨1, 1, 0, 1, noW, noW⟩⟩
def m2 : Mov := ⟨2, noC, ⟨1, 1, 0, 1, noW, noW⟩⟩
def m3 : Mov := ⟨1, ⟨1, 1, 0, 1, noW, noW⟩, ⟨0, 1, 0, 0, noW, noW⟩⟩
def m4 : Mov := ⟨2, ⟨1, 1, 0, 1, noW, noW⟩, ⟨0, 1, 0, 0, noW, noW⟩⟩
def m5 : Mov := ⟨2, ⟨0, 1, 0, 0, noW, noW⟩, ⟨1, 2, 0, 2, noW, noW⟩⟩
def a0 : Sta := sta0 2
def a1 : Sta := a0.turn m1
def a2 : Sta := a1.turn m2
def a3 : Sta := a2.turn m3
def a4 : Sta := a3.turn m4
theorem is1 : allM a0 0 1 = some m1 := by decide +kernel
theorem is2 : allM a1 0 1 = some m2 := by decide +kernel
theorem is3 : freeM a2 1 = some m3 := by decide +kernel
theorem is4 : freeM a3 2 = some m4 := by decide +kernel
theorem is5 : allM a4 0 2 = some m5 := by decide +kernel
theorem ok0 : Inv a0 := inv0 2 (by omega)
theorem ok1 : Inv a1 := ok0.turn (can_all is1)
theorem ok2 : Inv a2 := ok1.turn (can_all is2)
theorem ok3 : Inv a3 := ok2.turn (can_free is3)
theorem ok4 : Inv a4 := ok3.turn (can_free is4)
set_option maxRecDepth 100000 in
set_option maxHeartbeats 1000000 in
theorem alive_any (w : World) : Calls Try.prog 8 #[] w fun e w' => e = .returned (.bool true) ∧ Below w.heap.size w w' := by
  go_enter Try.func8, Try.ntmps8
  go_wp2_with fail
  refine (new_any 2 w).mono ?_
  rintro e w1 ⟨p, L, rfl, h1, hb1, hl1⟩
  have H1 : Has w1 w.heap.size p a0 [] := ⟨L, h1, hl1, hb1.size⟩
  clear h1 hl1
  go_wp2_with fail
  refine (alloc_step (m := m1) (k := 1) (g := 1) is1 rfl rfl H1 ok0 (by simp)).mono ?_
  rintro e w2 ⟨rfl, Hw2, hbw2, hkw2⟩
  have hBw2 : Blk (w2.alloc (.cells #[.int .i64 0, .int .i64 0, .int .i64 0] 24)) w2.heap.size 24 #[.int .i64 0, .int .i64 0, .int .i64 0] := heap_alloc_new w2 _
  obtain ⟨w3, ew3⟩ : ∃ W, W = (w2.alloc (.cells #[.int .i64 0, .int .i64 0, .int .i64 0] 24)).setRow w2.heap.size #[.int .i64 1, .int .i64 1, .int .i64 1] := ⟨_, rfl⟩
  have hsw3 : Below w2.heap.size w2 w3 := by rw [ew3]; exact below_setRow ((Below.refl _ w2).alloc (Nat.le_refl _) _) (Nat.le_refl _) _
  have xw3 : Blk w3 w2.heap.size 24 #[.int .i64 1, .int .i64 1, .int .i64 1] := by rw [ew3]; exact setRow_heap _ _ _ _ _ _ hBw2
  have Hw3 := Hw2.below hsw3
  go_wp2_with (refine wpList_store_row rfl 24 (.tmp 2) (.tmp 14) rfl w2.heap.size #[.int .i64 1, .int .i64 1, .int .i64 1] rfl rfl 24 #[.int .i64 0, .int .i64 0, .int .i64 0] hBw2 size24 rfl (by simp [Value.oneCell']) ?_; rw [← ew3]; clear ew3 hBw2)
  refine (alloc_step (m := m2) (k := 2) (g := 1) is2 rfl rfl (show Has w3 w.heap.size p a1 _ from Hw3) ok1 (by simp)).mono ?_
  rintro e w4 ⟨rfl, Hw4, hbw4, hkw4⟩
  have xw4 := hkw4 _ _ xw3
  have hBw4 : Blk (w4.alloc (.cells #[.int .i64 0, .int .i64 0, .int .i64 0] 24)) w4.heap.size 24 #[.int .i64 0, .int .i64 0, .int .i64 0] := heap_alloc_new w4 _
  obtain ⟨w5, ew5⟩ : ∃ W, W = (w4.alloc (.cells #[.int .i64 0, .int .i64 0, .int .i64 0] 24)).setRow w4.heap.size #[.int .i64 2, .int .i64 2, .int .i64 1] := ⟨_, rfl⟩
  have hsw5 : Below w4.heap.size w4 w5 := by rw [ew5]; exact below_setRow ((Below.refl _ w4).alloc (Nat.le_refl _) _) (Nat.le_refl _) _
  have yw5 : Blk w5 w4.heap.size 24 #[.int .i64 2, .int .i64 2, .int .i64 1] := by rw [ew5]; exact setRow_heap _ _ _ _ _ _ hBw4
  have Hw5 := Hw4.below hsw5
  have xw5 := xw4.on hsw5
  go_wp2_with (refine wpList_store_row rfl 24 (.tmp 4) (.tmp 19) rfl w4.heap.size #[.int .i64 2, .int .i64 2, .int .i64 1] rfl rfl 24 #[.int .i64 0, .int .i64 0, .int .i64 0] hBw4 size24 rfl (by simp [Value.oneCell']) ?_; rw [← ew5]; clear ew5 hBw4)
  refine (free_step (m := m3) is3 (show Has w5 w.heap.size p a2 _ from Hw5) ok2 (by simp)).mono ?_
  rintro e w6 ⟨rfl, Hw6, hbw6, hkw6⟩
  have xw6 := hkw6 _ _ xw5
  have yw6 := hkw6 _ _ yw5
  go_wp2_with fail
  refine (free_step (m := m4) is4 (show Has w6 w.heap.size p a3 _ from Hw6) ok3 (by simp)).mono ?_
  rintro e w7 ⟨rfl, Hw7, hbw7, hkw7⟩
  have xw7 := hkw7 _ _ xw6
  have yw7 := hkw7 _ _ yw6
  go_wp2_with fail
  refine (alloc_step (m := m5) (k := 2) (g := 2) is5 rfl rfl (show Has w7 w.heap.size p a4 _ from Hw7) ok4 (by simp)).mono ?_
  rintro e w8 ⟨rfl, Hw8, hbw8, hkw8⟩
  have xw8 := hkw8 _ _ xw7
  have yw8 := hkw8 _ _ yw7
  have hBw8 : Blk (w8.alloc (.cells #[.int .i64 0, .int .i64 0, .int .i64 0] 24)) w8.heap.size 24 #[.int .i64 0, .int .i64 0, .int .i64 0] := heap_alloc_new w8 _
  obtain ⟨w9, ew9⟩ : ∃ W, W = (w8.alloc (.cells #[.int .i64 0, .int .i64 0, .int .i64 0] 24)).setRow w8.heap.size #[.int .i64 2, .int .i64 2, .int .i64 2] := ⟨_, rfl⟩
  have hsw9 : Below w8.heap.size w8 w9 := by rw [ew9]; exact below_setRow ((Below.refl _ w8).alloc (Nat.le_refl _) _) (Nat.le_refl _) _
  have zw9 : Blk w9 w8.heap.size 24 #[.int .i64 2, .int .i64 2, .int .i64 2] := by rw [ew9]; exact setRow_heap _ _ _ _ _ _ hBw8
  have Hw9 := Hw8.below hsw9
  have xw9 := xw8.on hsw9
  have yw9 := yw8.on hsw9
  go_wp2_with (first | (refine wpList_store_row rfl 24 (.tmp 8) (.tmp 28) rfl w8.heap.size #[.int .i64 2, .int .i64 2, .int .i64 2] rfl rfl 24 #[.int .i64 0, .int .i64 0, .int .i64 0] hBw8 size24 rfl (by simp [Value.oneCell']) ?_; rw [← ew9]; clear ew9 hBw8; have c1 : w9.cell? ⟨w2.heap.size, 1, none⟩ = some (.int .i64 1) := xw9.cell 1; have c2 : w9.cell? ⟨w4.heap.size, 1, none⟩ = some (.int .i64 2) := yw9.cell 1; have d0 : w9.cell? ⟨w8.heap.size, 0, none⟩ = some (.int .i64 2) := zw9.cell 0; have d1 : w9.cell? ⟨w8.heap.size, 1, none⟩ = some (.int .i64 2) := zw9.cell 1; have d2 : w9.cell? ⟨w8.heap.size, 2, none⟩ = some (.int .i64 2) := zw9.cell 2))
  go_ret
  have q1 := hb1.trans hbw2
  have q2 := q1.trans (hsw3.mono q1.size)
  have q3 := q2.trans hbw4
  have q4 := q3.trans (hsw5.mono q3.size)
  have q5 := (q4.trans hbw6).trans (hbw7.trans hbw8)
  exact ⟨rfl, q5.trans (hsw9.mono q5.size)⟩
end Go.Proofs.Ytdilmapcjmdabaa
