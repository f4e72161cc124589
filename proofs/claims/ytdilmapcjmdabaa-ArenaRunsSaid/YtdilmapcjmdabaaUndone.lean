/- Behind an undo: the arena, and the book of its mark. Conditions: at most 1000 changes. -/
import Derived.Test.YtdilmapcjmdabaaNoting
namespace Go.Proofs.Ytdilmapcjmdabaa
open Go.ChangeShapes Go.WideShapes Go.RowKit
theorem stateAt_add : ∀ (H : His) (s : Sta) (d k : Nat), d ≤ H.length → stateAt (stateAt s H d) (H.drop d) k = stateAt s H (d + k)
  | [], s, 0, k, _ => by rw [Nat.zero_add]; rfl
  | x :: H, s, 0, k, _ => by rw [Nat.zero_add]; rfl
  | x :: H, s, d + 1, k, h => by
    rw [show d + 1 + k = (d + k) + 1 by omega]
    exact stateAt_add H x.2 d k (by simpa using h)
theorem bok_at {W : World} {z : Nat} {r : Rim} {M : Int} (h : Blk W z 34 (r.bk M)) : W.rangeAt z 0 (Bok.cs (r, M)) := fun j v hv => by
  match j, hv with
  | 0, hv => cases hv; exact h.cell 0
  | 1, hv => cases hv; exact h.cell 1
  | 2, hv => cases hv; exact h.cell 2
/-- What is there behind an undo to mark q. -/
structure Undone (w w7 : World) (p q : Nat) (L7 : Lim) (st : Sta) (G : His) (A : Option Addr) (c n : Nat) (l : List Bok) (b : Bok) : Prop where
  ara : Ara w7 p L7 st G
  inv : Inv st
  trail : Trail st G
  ref : Ref w7 b.1 st
  row : w7.ownsRow 0 34 3 (.slice A n c) n (boks l)
  below : Below w.heap.size w w7
  far : ∀ g, mine p L7 g → w.heap.size ≤ g
  bar : ∀ g, b.1.S g → ¬ mine p L7 g ∧ w.heap.size ≤ g
  len : G.length = q
section
variable {w wr w7 w8 : World} {p z c q n : Nat} {cs : Array Value} {L L7 : Lim} {s st s0 : Sta} {H G : His} {r : Rim} {A : Option Addr} {l : List Bok} {b : Bok}
theorem since_drop (h : Since s0 s H) (d : Nat) (hd : d ≤ H.length) : Since s0 (stateAt s H d) (H.drop d) := by
  unfold Since
  rw [stateAt_add H s d _ hd, List.length_drop, show d + (H.length - d) = H.length by omega]
  exact h
theorem Goes.undone (h : Goes w wr p z cs L s H r) (N : Noting w wr p z L A c s H l) (hq : q ≤ H.length) (hb : l[q]? = some b)
    (hd : AreTo wr p L (stateAt s H (H.length - q)).C (stateAt s H (H.length - q)).R (His.chgs (H.drop (H.length - q))) w7) :
    ∃ L7, Undone w w7 p q L7 (stateAt s H (H.length - q)) (H.drop (H.length - q)) A c l.length l b := by
  obtain ⟨L7, hA, k, hm⟩ := hd
  obtain ⟨hT, hI⟩ := trail_at H s (H.length - q) h.trail h.pair.inv
  obtain ⟨_, e2, e3⟩ := N.each q b hb
  have hs := h.below.size
  refine ⟨L7, ⟨hA, hI, hT, e2.kept k (fun g hg => (e3 g hg).1), own_kept N.row k (N.away h), h.below.trans (k.under _ hs h.far), fun g hg => ?_, fun g hg => ⟨fun hm7 => ?_, (e3 g hg).2.2.2⟩, by rw [List.length_drop]; omega⟩⟩
  · rcases hm g hg with e | e
    · exact h.far g e
    · omega
  · rcases hm g hm7 with e | e
    · exact (e3 g hg).1 e
    · have := e2.lt g hg
      omega
theorem Undone.on (U : Undone w w7 p q L7 st G A c n l b) (hb : Below w7.heap.size w7 w8) : Undone w w8 p q L7 st G A c n l b :=
  ⟨U.ara.below hb, U.inv, U.trail, U.ref.below hb, own_kept U.row (kept_below (fun _ => False) hb) (fun _ _ e => e), U.below.trans (hb.mono U.below.size), U.far, U.bar, U.len⟩
theorem Undone.told (U : Undone w w7 p q L7 st G A c n l b) : Calls Try.prog 12 #[.pointer (some ⟨p, 0, none⟩), .agg b.1.cs, .int .i64 (q : Int)] w7 fun e w' => e = .returned (.bool true) ∧ Below w7.heap.size w7 w' := by
  have := told_any U.ara U.ref U.inv
  rw [chgs_len, U.len] at this
  exact this
theorem Undone.start (U : Undone w w7 p q L7 st G A c n l b) :
    Goes w ((w7.alloc (.cells #[.slice none 0 0, .slice none 0 0, .int .i64 0] 34)).setRow w7.heap.size (b.1.bk (q : Int))) p w7.heap.size (b.1.bk (G.length : Int)) L7 st G b.1 := by
  have hB : Blk (w7.alloc (.cells #[.slice none 0 0, .slice none 0 0, .int .i64 0] 34)) w7.heap.size 34 #[.slice none 0 0, .slice none 0 0, .int .i64 0] := heap_alloc_new w7 _
  have hb3 : Below w7.heap.size w7 (w7.alloc (.cells #[.slice none 0 0, .slice none 0 0, .int .i64 0] 34)) := (Below.refl _ _).alloc (Nat.le_refl _) _
  have hs := U.below.size
  rw [U.len]
  have h0 : Goes w (w7.alloc (.cells #[.slice none 0 0, .slice none 0 0, .int .i64 0] 34)) p w7.heap.size #[.slice none 0 0, .slice none 0 0, .int .i64 0] L7 st G b.1 :=
    ⟨⟨U.ara.below hb3, U.inv, U.ref.below hb3, fun g hg => (U.bar g hg).1⟩, U.trail, hB, fun e => by have := U.ref.lt _ e; omega, U.below.trans (hb3.mono hs), U.far, fun g hg => (U.bar g hg).2, by omega⟩
  exact h0.put _
end
end Go.Proofs.Ytdilmapcjmdabaa
