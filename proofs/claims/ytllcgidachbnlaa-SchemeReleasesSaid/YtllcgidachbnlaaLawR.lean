/- What goes of any thread's bag, and the thread behind it, is as told; what is answered is its own memory. Conditions: numbers of 64 bits. -/
import Derived.Test.YtllcgidachbnlaaAlive
import Derived.Test.YtllcgidachbnlaaRRelease
import Derived.Test.YtllcgidachbnlaaSame
namespace Go.Proofs.Ytllcgidachbnlaa
open Go.RowKit Go.ChangeShapes Go.WideShapes Go.Great

/-- A slice's elements are there, in a block of one type, from its head. -/
def Room (w : World) (A : Option Addr) (n k : Nat) (t : TypeId) : Prop := ∀ j, j < n → ∃ g cur, A = some ⟨g, 0, none⟩ ∧ Blk w g t cur ∧ j * k + k ≤ cur.size
theorem own_room {w : World} {B k n cap : Nat} {t : TypeId} {A : Option Addr} {vs : List Value} (h : w.ownsRow B t k (.slice A n cap) n vs) : Room w A n k t := fun j hj => by
  rcases h.2 with ⟨_, h0⟩ | ⟨g, c, cur, e, hb, hh, h1, h2, h3, h4⟩
  · omega
  · injection e with e1 e2 e3
    refine ⟨g, cur, e1, hh, ?_⟩
    rw [h3]
    calc j * k + k = (j + 1) * k := by rw [Nat.add_mul]; omega
      _ ≤ c * k := Nat.mul_le_mul_right _ (by omega)
theorem Room.mid {w : World} {n k g o : Nat} {t : TypeId} (h : Room w (some ⟨g, 0, none⟩) n k t) (vs : List Value) : Room (w.setCells g o vs) (some ⟨g, 0, none⟩) n k t := fun j hj => by
  obtain ⟨g', cur, e, hb, hs⟩ := h j hj
  have e2 : g = g' := by simpa using e
  subst e2
  exact ⟨g, _, rfl, heap_cells vs o w cur hb, by rw [splice_size]; exact hs⟩
theorem Room.set {w : World} {n k g o : Nat} {t : TypeId} {v : Value} (h : Room w (some ⟨g, 0, none⟩) n k t) : Room (w.setCell ⟨g, o, none⟩ v) (some ⟨g, 0, none⟩) n k t := fun j hj => by
  obtain ⟨g', cur, e, hb, hs⟩ := h j hj
  have e2 : g = g' := by simpa using e
  subst e2
  exact ⟨g, _, rfl, blk_set hb o v, by simpa using hs⟩
theorem Room.kept {w w' : World} {S : Nat → Prop} {A : Option Addr} {n k : Nat} {t : TypeId} (h : Room w A n k t) (hk : Kept S w w') (hS : ∀ g, lies A g → ¬ S g) : Room w' A n k t := fun j hj => by
  obtain ⟨g, cur, e, hb, hs⟩ := h j hj
  exact ⟨g, cur, e, hb.kept hk (hS g (by rw [e]; rfl)), hs⟩
theorem Reads.kept {w w' : World} {S : Nat → Prop} {x : Th} {z s : List Int} {l : List Bg} (h : Reads w x z l s) (hk : Kept S w w') (h1 : ∀ g, holds x.se.A x.se.n g → ¬ S g) (h2 : ∀ g, holds x.bg.A x.bg.n g → ¬ S g) (h3 : ∀ g, holds x.sn.A x.sn.n g → ¬ S g) : Reads w' x z l s :=
  ⟨Sees.kept h.se hk h1, Sees.kept h.bg hk h2, Sees.kept h.sn hk h3⟩
theorem own_at' {w : World} {B k n cap g : Nat} {t : TypeId} {A : Option Addr} {vs : List Value} (h : w.ownsRow B t k (.slice A n cap) n vs) (hg : lies A g) : B ≤ g ∧ g < w.heap.size := h.lt g ((own_lies A n cap g).2 hg)
set_option maxRecDepth 100000 in
set_option maxHeartbeats 4000000 in
theorem releases_any {w : World} {x : Th} {z s : List Int} {l : List Bg} (c : Cf) (h : Reads w x z l s) (hW : ∀ b ∈ l, Wide b.n) (hn : Wide x.n) : Calls Try.prog 4 #[.agg c.cs.toArray, .agg x.cs.toArray] w fun e w' => e = .returned (.bool true) ∧ Below w.heap.size w w' := by
  obtain ⟨p1, f1⟩ : ∃ p, w.heap.size = p := ⟨_, rfl⟩
  obtain ⟨W1, ea1⟩ : ∃ W, w.alloc (.cells c.cs.toArray 26) = W := ⟨_, rfl⟩
  have ka1 : Below w.heap.size w W1 := by rw [← ea1]; exact (Below.refl _ w).alloc (Nat.le_refl _) _
  have b1 : Blk W1 p1 26 c.cs.toArray := by rw [← ea1]; exact blk_new w _ 26 _ f1
  have kk : Below w.heap.size w W1 := ka1
  have hp1 : w.heap.size ≤ p1 := Nat.le_of_eq f1
  clear ka1
  obtain ⟨p2, f2⟩ : ∃ p, W1.heap.size = p := ⟨_, rfl⟩
  obtain ⟨W2, ea2⟩ : ∃ W, W1.alloc (.cells x.cs.toArray 35) = W := ⟨_, rfl⟩
  have ka2 : Below W1.heap.size W1 W2 := by rw [← ea2]; exact (Below.refl _ W1).alloc (Nat.le_refl _) _
  have b2 : Blk W2 p2 35 x.cs.toArray := by rw [← ea2]; exact blk_new W1 _ 35 _ f2
  have q1_2 : p1 < p2 := by rw [← f2]; exact b1.lt
  replace b1 := b1.on ka2
  have kk0 := kk
  replace kk := kk.trans (ka2.mono kk.size)
  have hp2 : w.heap.size ≤ p2 := by rw [← f2]; exact kk0.size
  clear ka2 kk0
  have hR0 := fewT_reads h
  have u1 : (fewT x).se.n ≤ 1000 := Nat.le_trans (Sl.cut_n _ 12) (by omega)
  have u2 : (fewT x).bg.n ≤ 1000 := Nat.le_trans (Sl.cut_n _ 12) (by omega)
  have u3 : (fewT x).sn.n ≤ 1000 := Nat.le_trans (Sl.cut_n _ 8) (by omega)
  have hWt : ∀ b ∈ l.take 12, Wide b.n := fun b hb => hW b (List.mem_of_mem_take hb)
  have hnt : Wide (fewT x).n := hn
  go_enter Try.func4, Try.ntmps4
  go_wp2_with fail
  refine (alive_any _).mono ?_
  rintro e W3 ⟨rfl, k1⟩
  replace b1 := b1.on k1
  replace b2 := b2.on k1
  replace kk := kk.trans (k1.mono kk.size)
  clear k1
  have d1 := fewt_any (h.on kk)
  go_wp2_with (((with_reducible refine at_load 35 (.tmp 3) ?_); refine wpList_load_row rfl 35 (.tmp 3) rfl p2 rfl 35 x.cs.toArray (0, 0) _ b2 Try.underlying35 rfl (sizeT _) ?_))
  refine (d1).mono ?_
  rintro e W4 ⟨rfl, k1⟩
  replace b1 := b1.on k1
  replace b2 := b2.on k1
  replace kk := kk.trans (k1.mono kk.size)
  clear k1
  clear d1
  obtain ⟨W5, es5⟩ : ∃ W, W4.setRow p2 (fewT x).cs.toArray = W := ⟨_, rfl⟩
  have bo2 := b2
  replace b1 := row_far b1 es5 (by omega)
  replace b2 : Blk W5 p2 35 (fewT x).cs.toArray := row_named b2 es5
  replace kk := kk.trans (row_below es5 hp2 kk.size)
  have d1 := release_any c (hR0.on kk) u1 u2 u3 hWt hnt
  go_wp2_with (first | ((with_reducible refine at_store 35 (.tmp 3) (.tmp 15) ?_); refine wpList_store_row rfl 35 (.tmp 3) (.tmp 15) rfl p2 (fewT x).cs.toArray rfl rfl 35 x.cs.toArray bo2 (sizeT _) rfl (Th.onea _) ?_; rw [es5]) | ((with_reducible refine at_load 26 (.tmp 2) ?_); refine wpList_load_row rfl 26 (.tmp 2) rfl p1 rfl 26 c.cs.toArray (0, 0) _ b1 Try.underlying26 rfl size26 ?_) | ((with_reducible refine at_load 35 (.tmp 3) ?_); refine wpList_load_row rfl 35 (.tmp 3) rfl p2 rfl 35 (fewT x).cs.toArray (0, 0) _ b2 Try.underlying35 rfl (sizeT _) ?_))
  refine (d1).mono ?_
  rintro e W6 ⟨B1, m1, B2, m2, B3, m3, rfl, g1, ⟨gz, gb, gs⟩, k1⟩
  replace g1 := own_mono g1 kk.size
  replace gb := own_mono gb kk.size
  replace gs := own_mono gs kk.size
  replace b1 := b1.on k1
  replace b2 := b2.on k1
  replace kk := kk.trans (k1.mono kk.size)
  clear k1
  clear d1 gz
  obtain ⟨p3, f3⟩ : ∃ p, W6.heap.size = p := ⟨_, rfl⟩
  obtain ⟨W7, ea7⟩ : ∃ W, W6.alloc (.cells #[.int .i64 0, .int .i64 0, .int .i64 0, .int .i64 0, .int .i64 0, .int .i64 0, .int .i64 0, .int .i64 0, .int .i64 0, .int .i64 0, .int .i64 0, .int .i64 0, .int .i64 0, .int .i64 0, .int .i64 0, .int .i64 0, .int .i64 0, .int .i64 0, .slice none 0 0, .slice none 0 0, .slice none 0 0, .int .i64 0] 35) = W := ⟨_, rfl⟩
  have ka7 : Below W6.heap.size W6 W7 := by rw [← ea7]; exact (Below.refl _ W6).alloc (Nat.le_refl _) _
  have b3 : Blk W7 p3 35 #[.int .i64 0, .int .i64 0, .int .i64 0, .int .i64 0, .int .i64 0, .int .i64 0, .int .i64 0, .int .i64 0, .int .i64 0, .int .i64 0, .int .i64 0, .int .i64 0, .int .i64 0, .int .i64 0, .int .i64 0, .int .i64 0, .int .i64 0, .int .i64 0, .slice none 0 0, .slice none 0 0, .slice none 0 0, .int .i64 0] := by rw [← ea7]; exact blk_new W6 _ 35 _ f3
  have q1_3 : p1 < p3 := by rw [← f3]; exact b1.lt
  replace b1 := b1.on ka7
  have q2_3 : p2 < p3 := by rw [← f3]; exact b2.lt
  replace b2 := b2.on ka7
  replace g1 := ownB_below g1 ka7
  replace gb := ownB_below gb ka7
  replace gs := ownB_below gs ka7
  have kk0 := kk
  replace kk := kk.trans (ka7.mono kk.size)
  have hp3 : w.heap.size ≤ p3 := by rw [← f3]; exact kk0.size
  clear ka7 kk0
  obtain ⟨W8, es8⟩ : ∃ W, W7.setRow p3 (relT c (fewT x) ⟨B2, (restL c (fewT x) (z.take 12) (l.take 12)).length, m2⟩ ⟨B3, (snapL c (s.take 8)).length, m3⟩).cs.toArray = W := ⟨_, rfl⟩
  have bo3 := b3
  replace g1 := row_own g1 b3 (by decide) es8
  replace gb := row_own gb b3 (by decide) es8
  replace gs := row_own gs b3 (by decide) es8
  replace b1 := row_far b1 es8 (by omega)
  replace b2 := row_far b2 es8 (by omega)
  replace b3 : Blk W8 p3 35 (relT c (fewT x) ⟨B2, (restL c (fewT x) (z.take 12) (l.take 12)).length, m2⟩ ⟨B3, (snapL c (s.take 8)).length, m3⟩).cs.toArray := row_named b3 es8
  replace kk := kk.trans (row_below es8 hp3 kk.size)
  have d1 := rrelease_any c (hR0.on kk) u1 u2 u3 hWt hnt
  go_wp2_with (first | ((with_reducible refine at_store 35 (.tmp 6) (.tmp 21) ?_); refine wpList_store_row rfl 35 (.tmp 6) (.tmp 21) rfl p3 (relT c (fewT x) ⟨B2, (restL c (fewT x) (z.take 12) (l.take 12)).length, m2⟩ ⟨B3, (snapL c (s.take 8)).length, m3⟩).cs.toArray rfl rfl 35 #[.int .i64 0, .int .i64 0, .int .i64 0, .int .i64 0, .int .i64 0, .int .i64 0, .int .i64 0, .int .i64 0, .int .i64 0, .int .i64 0, .int .i64 0, .int .i64 0, .int .i64 0, .int .i64 0, .int .i64 0, .int .i64 0, .int .i64 0, .int .i64 0, .slice none 0 0, .slice none 0 0, .slice none 0 0, .int .i64 0] bo3 (sizeT _) rfl (Th.onea _) ?_; rw [es8]) | ((with_reducible refine at_load 26 (.tmp 2) ?_); refine wpList_load_row rfl 26 (.tmp 2) rfl p1 rfl 26 c.cs.toArray (0, 0) _ b1 Try.underlying26 rfl size26 ?_) | ((with_reducible refine at_load 35 (.tmp 3) ?_); refine wpList_load_row rfl 35 (.tmp 3) rfl p2 rfl 35 (fewT x).cs.toArray (0, 0) _ b2 Try.underlying35 rfl (sizeT _) ?_))
  refine (d1).mono ?_
  rintro e W9 ⟨C1, n1, C2, n2, C3, n3, rfl, q1, ⟨qz, qb, qs⟩, k1⟩
  replace q1 := own_mono q1 kk.size
  replace qb := own_mono qb kk.size
  replace qs := own_mono qs kk.size
  replace b1 := b1.on k1
  replace b2 := b2.on k1
  replace b3 := b3.on k1
  replace g1 := ownB_below g1 k1
  replace gb := ownB_below gb k1
  replace gs := ownB_below gs k1
  replace kk := kk.trans (k1.mono kk.size)
  clear k1
  clear d1 qz
  obtain ⟨p4, f4⟩ : ∃ p, W9.heap.size = p := ⟨_, rfl⟩
  obtain ⟨W10, ea10⟩ : ∃ W, W9.alloc (.cells #[.int .i64 0, .int .i64 0, .int .i64 0, .int .i64 0, .int .i64 0, .int .i64 0, .int .i64 0, .int .i64 0, .int .i64 0, .int .i64 0, .int .i64 0, .int .i64 0, .int .i64 0, .int .i64 0, .int .i64 0, .int .i64 0, .int .i64 0, .int .i64 0, .slice none 0 0, .slice none 0 0, .slice none 0 0, .int .i64 0] 35) = W := ⟨_, rfl⟩
  have ka10 : Below W9.heap.size W9 W10 := by rw [← ea10]; exact (Below.refl _ W9).alloc (Nat.le_refl _) _
  have b4 : Blk W10 p4 35 #[.int .i64 0, .int .i64 0, .int .i64 0, .int .i64 0, .int .i64 0, .int .i64 0, .int .i64 0, .int .i64 0, .int .i64 0, .int .i64 0, .int .i64 0, .int .i64 0, .int .i64 0, .int .i64 0, .int .i64 0, .int .i64 0, .int .i64 0, .int .i64 0, .slice none 0 0, .slice none 0 0, .slice none 0 0, .int .i64 0] := by rw [← ea10]; exact blk_new W9 _ 35 _ f4
  have q1_4 : p1 < p4 := by rw [← f4]; exact b1.lt
  replace b1 := b1.on ka10
  have q2_4 : p2 < p4 := by rw [← f4]; exact b2.lt
  replace b2 := b2.on ka10
  have q3_4 : p3 < p4 := by rw [← f4]; exact b3.lt
  replace b3 := b3.on ka10
  replace g1 := ownB_below g1 ka10
  replace gb := ownB_below gb ka10
  replace gs := ownB_below gs ka10
  replace q1 := ownB_below q1 ka10
  replace qb := ownB_below qb ka10
  replace qs := ownB_below qs ka10
  have kk0 := kk
  replace kk := kk.trans (ka10.mono kk.size)
  have hp4 : w.heap.size ≤ p4 := by rw [← f4]; exact kk0.size
  clear ka10 kk0
  obtain ⟨W11, es11⟩ : ∃ W, W10.setRow p4 (relT c (fewT x) ⟨C2, (restL c (fewT x) (z.take 12) (l.take 12)).length, n2⟩ ⟨C3, (snapL c (s.take 8)).length, n3⟩).cs.toArray = W := ⟨_, rfl⟩
  have bo4 := b4
  replace g1 := row_own g1 b4 (by decide) es11
  replace gb := row_own gb b4 (by decide) es11
  replace gs := row_own gs b4 (by decide) es11
  replace q1 := row_own q1 b4 (by decide) es11
  replace qb := row_own qb b4 (by decide) es11
  replace qs := row_own qs b4 (by decide) es11
  replace b1 := row_far b1 es11 (by omega)
  replace b2 := row_far b2 es11 (by omega)
  replace b3 := row_far b3 es11 (by omega)
  replace b4 : Blk W11 p4 35 (relT c (fewT x) ⟨C2, (restL c (fewT x) (z.take 12) (l.take 12)).length, n2⟩ ⟨C3, (snapL c (s.take 8)).length, n3⟩).cs.toArray := row_named b4 es11
  replace kk := kk.trans (row_below es11 hp4 kk.size)
  have d1 := bags_same B1 C1 (goneL c (fewT x) (z.take 12) (l.take 12)).length m1 n1 (goneL c (fewT x) (z.take 12) (l.take 12)) W11 (own_seesB g1) (own_seesB q1)
  go_wp2_with (((with_reducible refine at_store 35 (.tmp 8) (.tmp 27) ?_); refine wpList_store_row rfl 35 (.tmp 8) (.tmp 27) rfl p4 (relT c (fewT x) ⟨C2, (restL c (fewT x) (z.take 12) (l.take 12)).length, n2⟩ ⟨C3, (snapL c (s.take 8)).length, n3⟩).cs.toArray rfl rfl 35 #[.int .i64 0, .int .i64 0, .int .i64 0, .int .i64 0, .int .i64 0, .int .i64 0, .int .i64 0, .int .i64 0, .int .i64 0, .int .i64 0, .int .i64 0, .int .i64 0, .int .i64 0, .int .i64 0, .int .i64 0, .int .i64 0, .int .i64 0, .int .i64 0, .slice none 0 0, .slice none 0 0, .slice none 0 0, .int .i64 0] bo4 (sizeT _) rfl (Th.onea _) ?_; rw [es11]))
  refine (d1).mono ?_
  rintro e W12 ⟨rfl, k1⟩
  replace b1 := b1.on k1
  replace b2 := b2.on k1
  replace b3 := b3.on k1
  replace b4 := b4.on k1
  replace g1 := ownB_below g1 k1
  replace gb := ownB_below gb k1
  replace gs := ownB_below gs k1
  replace q1 := ownB_below q1 k1
  replace qb := ownB_below qb k1
  replace qs := ownB_below qs k1
  replace kk := kk.trans (k1.mono kk.size)
  clear k1
  clear d1 g1 q1
  have r1 : Reads W12 (relT c (fewT x) ⟨B2, (restL c (fewT x) (z.take 12) (l.take 12)).length, m2⟩ ⟨B3, (snapL c (s.take 8)).length, m3⟩) [] (restL c (fewT x) (z.take 12) (l.take 12)) (snapL c (s.take 8)) := ⟨⟨rfl, Nat.le_refl _, Nat.zero_le _, fun _ => rfl, fun ad e => (by cases e)⟩, own_seesB gb, own_seesI gs⟩
  have r2 : Reads W12 (relT c (fewT x) ⟨C2, (restL c (fewT x) (z.take 12) (l.take 12)).length, n2⟩ ⟨C3, (snapL c (s.take 8)).length, n3⟩) [] (restL c (fewT x) (z.take 12) (l.take 12)) (snapL c (s.take 8)) := ⟨⟨rfl, Nat.le_refl _, Nat.zero_le _, fun _ => rfl, fun ad e => (by cases e)⟩, own_seesB qb, own_seesI qs⟩
  have d1 : Calls Try.prog 12 #[.agg (relT c (fewT x) ⟨B2, (restL c (fewT x) (z.take 12) (l.take 12)).length, m2⟩ ⟨B3, (snapL c (s.take 8)).length, m3⟩).cs.toArray, .agg (relT c (fewT x) ⟨C2, (restL c (fewT x) (z.take 12) (l.take 12)).length, n2⟩ ⟨C3, (snapL c (s.take 8)).length, n3⟩).cs.toArray] W12 fun e w' => e = .returned (.bool true) ∧ Below W12.heap.size W12 w' := thread_same (A1 := none) (c1 := 0) (A2 := C2) (c2 := n2) (A3 := C3) (c3 := n3) r1 r2
  clear r1 r2
  go_wp2_with (first | ((with_reducible refine at_load 35 (.tmp 6) ?_); refine wpList_mid (by rfl) 35 (.tmp 6) rfl p3 0 rfl (relT c (fewT x) ⟨B2, (restL c (fewT x) (z.take 12) (l.take 12)).length, m2⟩ ⟨B3, (snapL c (s.take 8)).length, m3⟩).cs _ (range_blk b3) Try.underlying35 rfl (sizeT _) ?_) | ((with_reducible refine at_load 35 (.tmp 8) ?_); refine wpList_mid (by rfl) 35 (.tmp 8) rfl p4 0 rfl (relT c (fewT x) ⟨C2, (restL c (fewT x) (z.take 12) (l.take 12)).length, n2⟩ ⟨C3, (snapL c (s.take 8)).length, n3⟩).cs _ (range_blk b4) Try.underlying35 rfl (sizeT _) ?_))
  refine (d1).mono ?_
  rintro e W13 ⟨rfl, k1⟩
  replace b1 := b1.on k1
  replace b2 := b2.on k1
  replace b3 := b3.on k1
  replace b4 := b4.on k1
  replace gb := ownB_below gb k1
  replace gs := ownB_below gs k1
  replace qb := ownB_below qb k1
  replace qs := ownB_below qs k1
  replace kk := kk.trans (k1.mono kk.size)
  clear k1
  clear d1 qb qs
  have d1 := copy_any (hR0.on kk) u1 u2 u3
  have hBC := kk.size
  obtain ⟨BC, eBC⟩ : ∃ b, W13.heap.size = b := ⟨_, rfl⟩
  have lt2 : ∀ g, lies B2 g → w.heap.size ≤ g ∧ g < BC := fun g hg => by rw [← eBC]; exact own_at' gb hg
  have lt3 : ∀ g, lies B3 g → w.heap.size ≤ g ∧ g < BC := fun g hg => by rw [← eBC]; exact own_at' gs hg
  go_wp2_with (((with_reducible refine at_load 35 (.tmp 3) ?_); refine wpList_load_row rfl 35 (.tmp 3) rfl p2 rfl 35 (fewT x).cs.toArray (0, 0) _ b2 Try.underlying35 rfl (sizeT _) ?_))
  refine (d1).mono ?_
  rintro e W14 ⟨A1, c1, A2, c2, A3, c3, rfl, ⟨o1, o2, o3⟩, k1⟩
  replace b1 := b1.on k1
  replace b2 := b2.on k1
  replace b3 := b3.on k1
  replace b4 := b4.on k1
  replace gb := ownB_below gb k1
  replace gs := ownB_below gs k1
  replace kk := kk.trans (k1.mono kk.size)
  clear k1
  clear d1
  obtain ⟨p5, f5⟩ : ∃ p, W14.heap.size = p := ⟨_, rfl⟩
  obtain ⟨W15, ea15⟩ : ∃ W, W14.alloc (.cells #[.int .i64 0, .int .i64 0, .int .i64 0, .int .i64 0, .int .i64 0, .int .i64 0, .int .i64 0, .int .i64 0, .int .i64 0, .int .i64 0, .int .i64 0, .int .i64 0, .int .i64 0, .int .i64 0, .int .i64 0, .int .i64 0, .int .i64 0, .int .i64 0, .slice none 0 0, .slice none 0 0, .slice none 0 0, .int .i64 0] 35) = W := ⟨_, rfl⟩
  have ka15 : Below W14.heap.size W14 W15 := by rw [← ea15]; exact (Below.refl _ W14).alloc (Nat.le_refl _) _
  have b5 : Blk W15 p5 35 #[.int .i64 0, .int .i64 0, .int .i64 0, .int .i64 0, .int .i64 0, .int .i64 0, .int .i64 0, .int .i64 0, .int .i64 0, .int .i64 0, .int .i64 0, .int .i64 0, .int .i64 0, .int .i64 0, .int .i64 0, .int .i64 0, .int .i64 0, .int .i64 0, .slice none 0 0, .slice none 0 0, .slice none 0 0, .int .i64 0] := by rw [← ea15]; exact blk_new W14 _ 35 _ f5
  have q1_5 : p1 < p5 := by rw [← f5]; exact b1.lt
  replace b1 := b1.on ka15
  have q2_5 : p2 < p5 := by rw [← f5]; exact b2.lt
  replace b2 := b2.on ka15
  have q3_5 : p3 < p5 := by rw [← f5]; exact b3.lt
  replace b3 := b3.on ka15
  have q4_5 : p4 < p5 := by rw [← f5]; exact b4.lt
  replace b4 := b4.on ka15
  replace gb := ownB_below gb ka15
  replace gs := ownB_below gs ka15
  replace o1 := ownB_below o1 ka15
  replace o2 := ownB_below o2 ka15
  replace o3 := ownB_below o3 ka15
  have kk0 := kk
  replace kk := kk.trans (ka15.mono kk.size)
  have hp5 : w.heap.size ≤ p5 := by rw [← f5]; exact kk0.size
  clear ka15 kk0
  obtain ⟨W16, es16⟩ : ∃ W, W15.setRow p5 ((fewT x).put ⟨A1, (fewT x).se.n, c1⟩ ⟨A2, (fewT x).bg.n, c2⟩ ⟨A3, (fewT x).sn.n, c3⟩).cs.toArray = W := ⟨_, rfl⟩
  have bo5 := b5
  replace gb := row_own gb b5 (by decide) es16
  replace gs := row_own gs b5 (by decide) es16
  replace o1 := row_own o1 b5 (by decide) es16
  replace o2 := row_own o2 b5 (by decide) es16
  replace o3 := row_own o3 b5 (by decide) es16
  replace b1 := row_far b1 es16 (by omega)
  replace b2 := row_far b2 es16 (by omega)
  replace b3 := row_far b3 es16 (by omega)
  replace b4 := row_far b4 es16 (by omega)
  replace b5 : Blk W16 p5 35 ((fewT x).put ⟨A1, (fewT x).se.n, c1⟩ ⟨A2, (fewT x).bg.n, c2⟩ ⟨A3, (fewT x).sn.n, c3⟩).cs.toArray := row_named b5 es16
  replace kk := kk.trans (row_below es16 hp5 kk.size)
  go_wp2_with (((with_reducible refine at_store 35 (.tmp 9) (.tmp 39) ?_); refine wpList_store_row rfl 35 (.tmp 9) (.tmp 39) rfl p5 ((fewT x).put ⟨A1, (fewT x).se.n, c1⟩ ⟨A2, (fewT x).bg.n, c2⟩ ⟨A3, (fewT x).sn.n, c3⟩).cs.toArray rfl rfl 35 #[.int .i64 0, .int .i64 0, .int .i64 0, .int .i64 0, .int .i64 0, .int .i64 0, .int .i64 0, .int .i64 0, .int .i64 0, .int .i64 0, .int .i64 0, .int .i64 0, .int .i64 0, .int .i64 0, .int .i64 0, .int .i64 0, .int .i64 0, .int .i64 0, .slice none 0 0, .slice none 0 0, .slice none 0 0, .int .i64 0] bo5 (sizeT _) rfl (Th.onea _) ?_; rw [es16]))
  skip
  have no2 : ¬ (lies B2 p2 ∨ lies B3 p2) := fun e => e.elim (own_off (own_low gb) b2 (by decide)) (own_off (own_low gs) b2 (by decide))
  have no3 : ¬ (lies B2 p3 ∨ lies B3 p3) := fun e => e.elim (own_off (own_low gb) b3 (by decide)) (own_off (own_low gs) b3 (by decide))
  have no5 : ¬ (lies B2 p5 ∨ lies B3 p5) := fun e => e.elim (own_off (own_low gb) b5 (by decide)) (own_off (own_low gs) b5 (by decide))
  have R2 := own_room gb
  have R3 := own_room gs
  have tw := own_two gs gb (by decide)
  obtain ⟨cb1, cb2⟩ : (restL c (fewT x) (z.take 12) (l.take 12)).length ≤ m2 ∧ m2 ≤ maxLen := ⟨(own_cap (own_low gb)).1, (own_cap (own_low gb)).2.1⟩
  obtain ⟨cs1, cs2⟩ : (snapL c (s.take 8)).length ≤ m3 ∧ m3 ≤ maxLen := ⟨(own_cap (own_low gs)).1, (own_cap (own_low gs)).2.1⟩
  replace R2 : Room W16 B2 (restL c (fewT x) (z.take 12) (l.take 12)).length 3 48 := R2
  replace R3 : Room W16 B3 (snapL c (s.take 8)).length 1 2 := R3
  have rX := hR0.on kk
  have rY : Reads W16 ((fewT x).put ⟨A1, (fewT x).se.n, c1⟩ ⟨A2, (fewT x).bg.n, c2⟩ ⟨A3, (fewT x).sn.n, c3⟩) (z.take 12) (l.take 12) (s.take 8) := ⟨own_seesI o1, own_seesB o2, own_seesI o3⟩
  have lo1 := fun g (hg : holds (fewT x).se.A (fewT x).se.n g) => Sees.lt hR0.se g hg
  have lo2 := fun g (hg : holds (fewT x).bg.A (fewT x).bg.n g) => Sees.lt hR0.bg g hg
  have lo3 := fun g (hg : holds (fewT x).sn.A (fewT x).sn.n g) => Sees.lt hR0.sn g hg
  have ho1 := own_new o1
  have ho2 := own_new o2
  have ho3 := own_new o3
  rw [eBC] at ho1 ho2 ho3
  have HK := Lib.hid (And.intro rX (And.intro rY (And.intro kk (And.intro b2 b5))))
  have HL := Lib.hid (And.intro (And.intro lo1 (And.intro lo2 lo3)) (And.intro ho1 (And.intro ho2 ho3)))
  have HT := Lib.hid (And.intro lt2 lt3)
  have z19 : ∀ W, Kept (fun g => lies B2 g ∨ lies B3 g) W16 W → W.cell? ⟨p3, 19, none⟩ = some (.slice B2 (restL c (fewT x) (z.take 12) (l.take 12)).length m2) := fun W hW => (b3.kept hW no3).cell 19
  have z20 : ∀ W, Kept (fun g => lies B2 g ∨ lies B3 g) W16 W → W.cell? ⟨p3, 20, none⟩ = some (.slice B3 (snapL c (s.take 8)).length m3) := fun W hW => (b3.kept hW no3).cell 20
  clear rX rY kk b1 b2 b3 b4 b5 gb gs o1 o2 o3 lo1 lo2 lo3 ho1 ho2 ho3 lt2 lt3 hR0 no3
  generalize hr : (restL c (fewT x) (z.take 12) (l.take 12)).length = r at *
  generalize hm : (snapL c (s.take 8)).length = m at *
  unfold maxLen at cb2 cs2
  have r63 : (r : Int) ≤ 9223372036854775807 := by omega
  have m63 : (m : Int) ≤ 9223372036854775807 := by omega
  clear hr hm cb1 cb2 cs1 cs2
  go_loopw [10] (fun v wr => ∃ j : Nat, j ≤ r ∧ v = .int .i64 (j : Int) ∧ Kept (fun g => lies B2 g) W16 wr ∧ Room wr B2 r 3 48) (fun v _ => r - (intOf v).toNat)
  case atStart => exact ⟨0, Nat.zero_le _, rfl, Kept.refl _ _, R2⟩
  case round =>
    obtain ⟨j, hj, rfl, hk, hRm⟩ := hrel
    have c19 := z19 wr (hk.more (fun g e => .inl e))
    by_cases hlt : j < r
    · obtain ⟨g, cur, eA, hb, hs⟩ := hRm j hlt
      rw [eA] at c19
      have hRm' : Room wr (some ⟨g, 0, none⟩) r 3 48 := by rw [← eA]; exact hRm
      have hth := there_blk hb (j * 3) 3 hs
      have hlg : lies B2 g := by rw [eA]; rfl
      have HR := Lib.hid (And.intro eA (And.intro hRm' hlg))
      have hjI : (j : Int) < (r : Int) := by omega
      have hj0 : (0 : Int) ≤ (j : Int) := by omega
      clear hRm hRm' hs hb eA hlg
      go_wp2_with ((with_reducible refine at_store 48 (.tmp 51) (.tmp 50) ?_); refine wpList_store_mid rfl 48 (.tmp 51) (.tmp 50) rfl g (j * 3) #[.int .i64 99, .int .i64 0, .int .i64 0] rfl rfl hth size48 (by simp [Value.oneCell']) ?_)
      obtain ⟨eA, hRm', hlg⟩ := HR.out
      go_roundw
      case rel => exact ⟨j + 1, by omega, by go_num, hk.next (kept_cells g _ _ _) (fun g' e => .inl (by rw [e]; exact hlg)), by rw [eA]; exact hRm'.mid _⟩
      case measure => simp [intOf]; omega
    · have hjI : ¬ (j : Int) < (r : Int) := by omega
      have R3' := R3.kept hk (fun g h3 h2 => tw g h3 h2)
      have hkS : Kept (fun g => lies B2 g ∨ lies B3 g) W16 wr := hk.more (fun g e => .inl e)
      clear hk hRm R2 R3 tw
      generalize wr = wa at hkS R3' ⊢
      clear c19
      go_wp2_with fail
      go_loopw [11] (fun v wr => ∃ j : Nat, j ≤ m ∧ v = .int .i64 (j : Int) ∧ Kept (fun g => lies B2 g ∨ lies B3 g) W16 wr ∧ Room wr B3 m 1 2) (fun v _ => m - (intOf v).toNat)
      case atStart => exact ⟨0, Nat.zero_le _, rfl, hkS, R3'⟩
      case round =>
        clear hkS R3'
        obtain ⟨j, hj, rfl, hk, hRm⟩ := hrel
        have c20 := z20 wr hk
        by_cases hlt : j < m
        · obtain ⟨g, cur, eA, hb, hs⟩ := hRm j hlt
          rw [eA] at c20
          have hRm' : Room wr (some ⟨g, 0, none⟩) m 1 2 := by rw [← eA]; exact hRm
          have hlg : lies B3 g := by rw [eA]; rfl
          have hc := hb.cell j
          rw [Array.getElem?_eq_getElem (by omega)] at hc
          generalize cur[j] = u at hc
          have hf := hb.free j
          have HR := Lib.hid (And.intro eA (And.intro hRm' hlg))
          have hjI2 : (j : Int) < (m : Int) := by omega
          have hj02 : (0 : Int) ≤ (j : Int) := by omega
          clear hRm hRm' hs hb eA hlg z19 z20
          go_wp2
          obtain ⟨eA, hRm', hlg⟩ := HR.out
          go_roundw
          case rel => exact ⟨j + 1, by omega, by go_num, hk.next (kept_cell wr ⟨g, j, none⟩ _) (fun g' e => .inl (.inr (by rw [e]; exact hlg))), by rw [eA]; exact hRm'.set⟩
          case measure => simp [intOf]; omega
        · have hjI2 : ¬ (j : Int) < (m : Int) := by omega
          obtain ⟨rX, rY, kk, b2, b5⟩ := HK.out
          obtain ⟨⟨lo1, lo2, lo3⟩, ho1, ho2, ho3⟩ := HL.out
          obtain ⟨lt2, lt3⟩ := HT.out
          have nX : ∀ g, g < w.heap.size → ¬ (lies B2 g ∨ lies B3 g) := fun g hg e => e.elim (fun e => by have := (lt2 g e).1; omega) (fun e => by have := (lt3 g e).1; omega)
          have nY : ∀ g, BC ≤ g → ¬ (lies B2 g ∨ lies B3 g) := fun g hg e => e.elim (fun e => by have := (lt2 g e).2; omega) (fun e => by have := (lt3 g e).2; omega)
          replace rX := rX.kept hk (fun g hg => nX g (lo1 g hg)) (fun g hg => nX g (lo2 g hg)) (fun g hg => nX g (lo3 g hg))
          replace rY := rY.kept hk (fun g hg => nY g (ho1 g hg.2)) (fun g hg => nY g (ho2 g hg.2)) (fun g hg => nY g (ho3 g hg.2))
          replace b2 := b2.kept hk no2
          replace b5 := b5.kept hk no5
          replace kk := kk.trans (hk.under w.heap.size kk.size (fun g e => e.elim (fun e => (lt2 g e).1) (fun e => (lt3 g e).1)))
          have d1 : Calls Try.prog 12 #[.agg (fewT x).cs.toArray, .agg ((fewT x).put ⟨A1, (fewT x).se.n, c1⟩ ⟨A2, (fewT x).bg.n, c2⟩ ⟨A3, (fewT x).sn.n, c3⟩).cs.toArray] wr _ := thread_same rX rY
          clear rX rY lo1 lo2 lo3 ho1 ho2 ho3 lt2 lt3 nX nY z19 z20 hRm hk
          go_wp2_with (first | ((with_reducible refine at_load 35 (.tmp 3) ?_); refine wpList_load_row rfl 35 (.tmp 3) rfl p2 rfl 35 (fewT x).cs.toArray (0, 0) _ b2 Try.underlying35 rfl (sizeT _) ?_) | ((with_reducible refine at_load 35 (.tmp 9) ?_); refine wpList_load_row rfl 35 (.tmp 9) rfl p5 rfl 35 ((fewT x).put ⟨A1, (fewT x).se.n, c1⟩ ⟨A2, (fewT x).bg.n, c2⟩ ⟨A3, (fewT x).sn.n, c3⟩).cs.toArray (0, 0) _ b5 Try.underlying35 rfl (sizeT _) ?_))
          refine d1.mono ?_
          rintro e wz ⟨rfl, k9⟩
          replace kk := kk.trans (k9.mono kk.size)
          clear d1 k9
          go_wp2
          go_ret
          first | exact ⟨rfl, kk⟩ | (rw [f1] at kk; exact ⟨rfl, kk⟩)
end Go.Proofs.Ytllcgidachbnlaa
