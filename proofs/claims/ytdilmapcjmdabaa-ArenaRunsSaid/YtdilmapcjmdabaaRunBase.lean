/- A call on both: what holds. Conditions: none. -/
import Derived.Test.YtdilmapcjmdabaaTold
import Derived.Test.YtdilmapcjmdabaaRfree
import Derived.Test.YtdilmapcjmdabaaRret
import Derived.Test.YtdilmapcjmdabaaRstore
import Derived.Test.YtdilmapcjmdabaaRall
import Derived.Test.YtdilmapcjmdabaaUndo
namespace Go.Proofs.Ytdilmapcjmdabaa
open Go.ChangeShapes Go.WideShapes Go.RowKit
/-- A call of the law's. -/
structure OpR where
  k : Int
  c : Int
  f : Int
  b : Int
  d : Int
  x : Wd
def OpR.cs (o : OpR) : List Value := [.int .i64 o.k, .int .i64 o.c, .int .i64 o.f, .int .i64 o.b, .int .i64 o.d, .int .i64 o.x.n, .int .i64 o.x.c, .int .i64 o.x.g]
def movO (s : Sta) (o : OpR) : Option Mov := if o.k = 1 then freeM s o.c else if o.k = 2 then retM s o.c else if o.k = 3 then stoM s o.c o.f o.x else allM s o.b o.d
theorem can_mov {s : Sta} {o : OpR} (hI : Inv s) : ∀ m, movO s o = some m → Can s m := by
  intro m h
  unfold movO at h
  split at h
  · exact can_free h
  · split at h
    · exact can_ret h
    · split at h
      · exact can_sto hI h
      · exact can_all h
def Rim.bk (r : Rim) (M : Int) : Array Value := #[.slice r.Ac r.n r.cc, .slice r.Ar r.m r.cr, .int .i64 M]
/-- An arena and the lists that tell of it. -/
structure Pair (w : World) (p : Nat) (L : Lim) (s : Sta) (H : His) (r : Rim) : Prop where
  ara : Ara w p L s H
  inv : Inv s
  ref : Ref w r s
  off : ∀ g, r.S g → ¬ mine p L g
/-- What a call on both turns. -/
structure Turns (w : World) (p : Nat) (L : Lim) (r' : Rim) (L' : Lim) (w' : World) : Prop where
  kept : Kept (mine p L) w w'
  mine_ : ∀ g, mine p L' g → mine p L g ∨ w.heap.size ≤ g
  new : ∀ g, r'.S g → w.heap.size ≤ g
def Ran (w : World) (p : Nat) (L : Lim) (s : Sta) (H : His) (m : Option Mov) (e : Ending) (w' : World) : Prop :=
  ∃ r' L', e = .returned (.tuple #[.agg (r'.bk ((His.go H s m).length : Int)), .bool true]) ∧ Pair w' p L' (s.go m) (His.go H s m) r' ∧ Turns w p L r' L' w'
/-- The law's variables: the lists, the call, the result. -/
structure Boxes (w : World) (z : Nat) (bk : Array Value) (o : OpR) : Prop where
  book : Blk w z 34 bk
  op : Blk w (z + 1) 38 o.cs.toArray
  res : Blk w (z + 1 + 1) 34 #[.slice none 0 0, .slice none 0 0, .int .i64 0]
section
variable {w w' : World} {p z : Nat} {L : Lim} {s : Sta} {H : His} {r : Rim} {bk : Array Value} {o : OpR}
theorem boxes_new (bk : Array Value) (o : OpR) (w : World) : Boxes (((w.alloc (.cells bk 34)).alloc (.cells o.cs.toArray 38)).alloc (.cells #[.slice none 0 0, .slice none 0 0, .int .i64 0] 34)) w.heap.size bk o :=
  ⟨((blk_new w _ 34 _ rfl).on ((Below.refl _ _).alloc (Nat.le_refl _) _)).on ((Below.refl _ _).alloc (Nat.le_refl _) _), (blk_new _ _ 38 _ (by simp)).on ((Below.refl _ _).alloc (Nat.le_refl _) _), blk_new _ _ 34 _ (by simp)⟩
theorem Boxes.below (h : Boxes w z bk o) (hb : Below w.heap.size w w') : Boxes w' z bk o := ⟨h.book.on hb, h.op.on hb, h.res.on hb⟩
theorem Are.far {C : List Cel} {R : List Int} {P : List Chg} {g : Nat} {t : TypeId} {cs : Array Value} (H : Are w p L C R P) (hb : Blk w g t cs) (ht : t = 34 ∨ t = 38 ∨ t = 24 ∨ t = 31 ∨ t = 53) : ¬ mine p L g := by
  rcases ht with rfl | rfl | rfl | rfl | rfl <;> exact H.off hb (by decide) (by decide) (by decide) (by decide) (by decide) (by decide)
theorem Boxes.turned {C C2 : List Cel} {R R2 : List Int} {P P2 : List Chg} (h : Boxes w z bk o) (hA : Are w p L C R P) (hd : AreTo w p L C2 R2 P2 w') : Boxes w' z bk o :=
  ⟨hd.blk h.book (hA.far h.book (by simp)), hd.blk h.op (hA.far h.op (by simp)), hd.blk h.res (hA.far h.res (by simp))⟩
/-- The lists stay behind a call on the arena, and apart from it. -/
theorem Pair.moved {C : List Cel} {R : List Int} {P : List Chg} (h : Pair w p L s H r) (hd : AreTo w p L C R P w') : ∃ L', Are w' p L' C R P ∧ Ref w' r s ∧ Kept (mine p L) w w' ∧ (∀ g, mine p L' g → mine p L g ∨ w.heap.size ≤ g) ∧ ∀ g, r.S g → ¬ mine p L' g := by
  obtain ⟨L', h1, h2, h3⟩ := hd
  refine ⟨L', h1, h.ref.kept h2 h.off, h2, h3, fun g hg hm => ?_⟩
  rcases h3 g hm with e | e
  · exact h.off g hg e
  · have := h.ref.lt g hg
    omega
theorem Pair.below (h : Pair w p L s H r) (hb : Below w.heap.size w w') : Pair w' p L s H r := ⟨h.ara.below hb, h.inv, h.ref.below hb, h.off⟩
theorem Kept.drew {S : Nat → Prop} (h : Kept S w w') : Kept S w w'.drew := ⟨h.os, h.tape, h.output, h.size, h.block⟩
/-- The result's variable is set. -/
def setRes (w : World) (q : Nat) (r : Rim) (M : Int) : World := ((w.setCell ⟨q, 0, none⟩ (.slice r.Ac r.n r.cc)).setCell ⟨q, 1, none⟩ (.slice r.Ar r.m r.cr)).setCell ⟨q, 2, none⟩ (.int .i64 M)
theorem setRes_blk {q : Nat} (h : Blk w q 34 #[.slice none 0 0, .slice none 0 0, .int .i64 0]) (r : Rim) (M : Int) : Blk (setRes w q r M) q 34 (r.bk M) := blk_set (blk_set (blk_set h 0 _) 1 _) 2 _
theorem setRes_kept (w : World) (q : Nat) (r : Rim) (M : Int) : Kept (fun g => g = q) w (setRes w q r M) :=
  ((kept_cell w ⟨q, 0, none⟩ _).next (kept_cell _ ⟨q, 1, none⟩ _) (fun _ e => .inl e)).next (kept_cell _ ⟨q, 2, none⟩ _) (fun _ e => .inl e)
theorem ran_end {W0 w1 w4 w6 : World} {L1 : Lim} {s6 : Sta} {H6 : His} {r6 : Rim} {S : Nat → Prop} {e : Ending} {m : Option Mov} (hb0 : Below w.heap.size w W0) (hk1 : Kept (mine p L) W0 w1) (hm1 : ∀ g, mine p L1 g → mine p L g ∨ W0.heap.size ≤ g)
    (hb4 : Below w1.heap.size w1 w4) (K : Kept S w4 w6) (hS : ∀ g, S g → w.heap.size ≤ g) (hL : ∀ g, mine p L1 g → ¬ S g) (hA : Ara w4 p L1 s6 H6) (hI : Inv s6) (hR : Ref w6 r6 s6) (hN : ∀ g, r6.S g → w1.heap.size ≤ g)
    (hs : s6 = s.go m) (hH : H6 = His.go H s m) (he : e = .returned (.tuple #[.agg (r6.bk (H6.length : Int)), .bool true])) (hlt : ∀ g, mine p L1 g → g < w1.heap.size) : Ran w p L s H m e w6 := by
  subst hs hH
  have k := (((kept_below (mine p L) hb0).next hk1 (fun _ e => .inl e)).next (kept_below (fun _ => False) hb4) (fun _ e => e.elim)).next K (fun g e => .inr (hS g e))
  refine ⟨r6, L1, he, ⟨hA.kept K hL, hI, hR, fun g hg hm => ?_⟩, ⟨k, fun g hg => (hm1 g hg).elim .inl (fun e => .inr (Nat.le_trans hb0.size e)), fun g hg => Nat.le_trans (Nat.le_trans hb0.size hk1.size) (hN g hg)⟩⟩
  have := hN g hg
  have := hlt g hm
  omega
end
end Go.Proofs.Ytdilmapcjmdabaa
