/- The books so far, as the calls go on; a new book in a variable of its own. Conditions: none. -/
import Derived.Test.YtdilmapcjmdabaaNoted
namespace Go.Proofs.Ytdilmapcjmdabaa
open Go.ChangeShapes Go.WideShapes Go.RowKit
section
variable {w wr w' W w3 w4 : World} {p z c : Nat} {cs : Array Value} {L L' : Lim} {s s' s0 : Sta} {H H' : His} {r r' : Rim} {A : Option Addr} {l : List Bok}
theorem ran_kept {m : Option Mov} {e : Ending} (h : Ran W p L s H m e w3) : Kept (mine p L) W w3 := by
  obtain ⟨_, _, _, _, hT⟩ := h
  exact hT.kept
/-- The new book's variable is made behind the call. -/
theorem Went.behind (h : Went w wr W w4 p z cs L L' s' H' r') (M : Int) :
    Goes w ((w4.alloc (.cells #[.slice none 0 0, .slice none 0 0, .int .i64 0] 34)).setRow w4.heap.size (r'.bk M)) p z cs L' s' H' r' ∧ Blk ((w4.alloc (.cells #[.slice none 0 0, .slice none 0 0, .int .i64 0] 34)).setRow w4.heap.size (r'.bk M)) w4.heap.size 34 (r'.bk M) := by
  have hB : Blk (w4.alloc (.cells #[.slice none 0 0, .slice none 0 0, .int .i64 0] 34)) w4.heap.size 34 #[.slice none 0 0, .slice none 0 0, .int .i64 0] := heap_alloc_new w4 _
  have hb : Below w4.heap.size w4 (w4.alloc (.cells #[.slice none 0 0, .slice none 0 0, .int .i64 0] 34)) := (Below.refl _ _).alloc (Nat.le_refl _) _
  have hs := h.goes.below.size
  refine ⟨(h.goes.on hb).kept (kept_row _ w4.heap.size _) (fun g hg (e : g = w4.heap.size) => ?_) (fun g hg (e : g = w4.heap.size) => ?_) (fun (e : z = w4.heap.size) => ?_) (fun g (e : g = w4.heap.size) => by omega), setRow_heap _ _ _ _ _ _ hB⟩
  · have := h.goes.pair.ara.lt g hg; omega
  · have := h.goes.pair.ref.lt g hg; omega
  · have := h.goes.book.lt; omega
/-- It is made ahead of the call. -/
theorem Went.ahead {W0 : World} (h : Went w wr (W0.alloc (.cells #[.slice none 0 0, .slice none 0 0, .int .i64 0] 34)) w4 p z cs L L' s' H' r') (h1 : Goes w wr p z cs L s H r) (hb : Below wr.heap.size wr W0)
    (hk : Kept (mine p L) (W0.alloc (.cells #[.slice none 0 0, .slice none 0 0, .int .i64 0] 34)) w4) (M : Int) :
    Blk w4 W0.heap.size 34 #[.slice none 0 0, .slice none 0 0, .int .i64 0] ∧ Goes w (w4.setRow W0.heap.size (r'.bk M)) p z cs L' s' H' r' ∧ Blk (w4.setRow W0.heap.size (r'.bk M)) W0.heap.size 34 (r'.bk M) := by
  have hB : Blk (W0.alloc (.cells #[.slice none 0 0, .slice none 0 0, .int .i64 0] 34)) W0.heap.size 34 #[.slice none 0 0, .slice none 0 0, .int .i64 0] := heap_alloc_new W0 _
  have hs := h1.below.size
  have hs0 := hb.size
  have hlt := h1.pair.ara.lt
  have hB4 := hB.kept hk (fun hm => by have := hlt _ hm; omega)
  have hsz : (W0.alloc (.cells #[.slice none 0 0, .slice none 0 0, .int .i64 0] 34)).heap.size = W0.heap.size + 1 := by simp
  refine ⟨hB4, h.goes.kept (kept_row _ W0.heap.size _) (fun g hg (e : g = W0.heap.size) => ?_) (fun g hg (e : g = W0.heap.size) => ?_) (fun (e : z = W0.heap.size) => ?_) (fun g (e : g = W0.heap.size) => by omega), setRow_heap _ _ _ _ _ _ hB4⟩
  · rcases h.mine_ g hg with e2 | e2
    · have := hlt g e2; omega
    · omega
  · have := h.new g hg; omega
  · have := h1.book.lt; omega
theorem stateAt_go (m : Option Mov) : ∀ i, i ≤ H.length → stateAt (s.go m) (His.go H s m) ((His.go H s m).length - i) = stateAt s H (H.length - i) := by
  intro i hi
  cases m with
  | none => rfl
  | some x =>
    have e : (His.go H s (some x)).length - i = (H.length - i) + 1 := by
      show (H.length + 1) - i = _
      omega
    rw [e]
    rfl
/-- The books so far: the book of each mark tells what was there then. -/
structure Noting (w wr : World) (p z : Nat) (L : Lim) (A : Option Addr) (c : Nat) (s : Sta) (H : His) (l : List Bok) : Prop where
  len : l.length = H.length + 1
  row : wr.ownsRow 0 34 3 (.slice A l.length c) l.length (boks l)
  each : ∀ (i : Nat) b, l[i]? = some b → b.2 = (i : Int) ∧ Ref wr b.1 (stateAt s H (H.length - i)) ∧ ∀ g, b.1.S g → ¬ mine p L g ∧ g ≠ z ∧ ¬ lies A g ∧ w.heap.size ≤ g
  off : ∀ g, lies A g → g ≠ z ∧ w.heap.size ≤ g
theorem Noting.away (N : Noting w wr p z L A c s H l) (h : Goes w wr p z cs L s' H' r) : ∀ g, lies A g → ¬ mine p L g := fun g hg => by
  obtain ⟨x, hb⟩ := own_blk N.row hg
  exact h.pair.ara.far hb (by simp)
theorem Noting.lt (N : Noting w wr p z L A c s H l) : ∀ g, lies A g → g < wr.heap.size := fun g hg => by
  obtain ⟨x, hb⟩ := own_blk N.row hg
  exact hb.lt
/-- Behind a call on both, the variable set. -/
theorem Went.noting (h : Went w wr W w4 p z cs L L' s' H' r') (h1 : Goes w wr p z cs L s H r) (N : Noting w wr p z L A c s H l) (hb : Below wr.heap.size wr W) (x : Array Value) :
    Noting w (w4.setRow z x) p z L' A c s H l ∧ ∀ g, r'.S g → ¬ lies A g := by
  have hs := hb.size
  have k : Kept (fun g => mine p L g ∨ g = z) wr (w4.setRow z x) := (h.kept.more (fun g e => .inl e)).next (kept_row w4 z x) (fun g e => .inl (.inr e))
  refine ⟨⟨N.len, own_kept N.row k (fun g hg e => e.elim (N.away h1 g hg) (N.off g hg).1), fun i b hi => ?_, N.off⟩, fun g h2 h3 => ?_⟩
  · obtain ⟨e1, e2, e3⟩ := N.each i b hi
    refine ⟨e1, e2.kept k (fun g hg e => e.elim (e3 g hg).1 (e3 g hg).2.1), fun g hg => ⟨fun hm => ?_, (e3 g hg).2⟩⟩
    rcases h.mine_ g hm with e | e
    · exact (e3 g hg).1 e
    · have := e2.lt g hg
      omega
  · have := h.new g h2
    have := N.lt g h3
    omega
/-- A call of 'noted'. -/
theorem Noting.noted {m : Option Mov} {e : Ending} (N : Noting w wr p z L A c s H l) (G : Goes w wr p z cs L (s.go m) (His.go H s m) r) (hoff : ∀ g, r.S g → ¬ lies A g)
    (hN : Notes wr A (if ((His.go H s m).length : Int) = (l.length : Int) then l ++ [(r, ((His.go H s m).length : Int))] else l) e w') :
    ∃ A' c' l', e = .returned (.slice A' l'.length c') ∧ Noting w w' p z L A' c' (s.go m) (His.go H s m) l' ∧ Goes w w' p z cs L (s.go m) (His.go H s m) r ∧ ∀ g, r.S g → ¬ lies A' g := by
  obtain ⟨A', c', rfl, ho, k, ha⟩ := hN
  have hw := G.below.size
  have G' : Goes w w' p z cs L (s.go m) (His.go H s m) r := G.kept k (fun g h1 h2 => N.away G g h2 h1) hoff (fun h2 => (N.off z h2).1 rfl) (fun g hg => (N.off g hg).2)
  have hoff' : ∀ g, r.S g → ¬ lies A' g := fun g h1 h2 => by
    rcases ha g h2 with h3 | h3
    · exact hoff g h1 h3
    · have := G.pair.ref.lt g h1
      omega
  have hz := G.book.lt
  have hrow : ∀ g, lies A' g → g ≠ z ∧ w.heap.size ≤ g := fun g hg => by
    rcases ha g hg with h3 | h3
    · exact N.off g h3
    · exact ⟨by omega, by omega⟩
  have heach : ∀ (i : Nat) b, l[i]? = some b → b.2 = (i : Int) ∧ Ref w' b.1 (stateAt (s.go m) (His.go H s m) ((His.go H s m).length - i)) ∧ ∀ g, b.1.S g → ¬ mine p L g ∧ g ≠ z ∧ ¬ lies A' g ∧ w.heap.size ≤ g := fun i b hi => by
    obtain ⟨e1, e2, e3⟩ := N.each i b hi
    have hlt := (List.getElem?_eq_some_iff.1 hi).1
    have hle := N.len
    rw [stateAt_go m i (by omega)]
    refine ⟨e1, e2.kept k (fun g hg => (e3 g hg).2.2.1), fun g hg => ⟨(e3 g hg).1, (e3 g hg).2.1, fun h2 => ?_, (e3 g hg).2.2.2⟩⟩
    rcases ha g h2 with h3 | h3
    · exact (e3 g hg).2.2.1 h3
    · have := e2.lt g hg
      omega
  refine ⟨A', c', _, rfl, ⟨?_, ho, ?_, hrow⟩, G', hoff'⟩
  · have hle := N.len
    cases m with
    | none =>
      rw [if_neg (by show ¬ ((H.length : Nat) : Int) = _; omega)]
      exact hle
    | some x =>
      rw [if_pos (by show (((H.length + 1) : Nat) : Int) = _; omega)]
      rw [List.length_append]
      show l.length + 1 = H.length + 1 + 1
      omega
  · intro i b hi
    split at hi
    · rename_i hc
      rw [List.getElem?_append] at hi
      split at hi
      · exact heach i b hi
      · rename_i hni
        have hi0 : i - l.length = 0 := by
          have := (List.getElem?_eq_some_iff.1 hi).1
          simp at this
          omega
        rw [hi0] at hi
        cases hi
        have hlen : (His.go H s m).length = i := by omega
        refine ⟨by show (((His.go H s m).length : Nat) : Int) = _; rw [hlen], ?_, fun g hg => ⟨G.pair.off g hg, fun e => G.off (e ▸ hg), hoff' g hg, G.far2 g hg⟩⟩
        rw [hlen, Nat.sub_self, stateAt_zero]
        exact G'.pair.ref
    · exact heach i b hi
/-- The first book. -/
theorem noting_new {e : Ending} (G : Goes w wr p z cs L s [] r) (hN : Notes wr none [(r, (0 : Int))] e w') :
    ∃ A' c', e = .returned (.slice A' 1 c') ∧ Noting w w' p z L A' c' s [] [(r, (0 : Int))] ∧ Goes w w' p z cs L s [] r ∧ ∀ g, r.S g → ¬ lies A' g := by
  obtain ⟨A', c', rfl, ho, k, ha⟩ := hN
  have hw := G.below.size
  have hz := G.book.lt
  have hA : ∀ g, lies A' g → wr.heap.size ≤ g := fun g hg => (ha g hg).elim (fun h => by cases h) id
  have G' : Goes w w' p z cs L s [] r := G.kept k (fun g _ h2 => by cases h2) (fun g _ h2 => by cases h2) (fun h2 => by cases h2) (fun g h2 => by cases h2)
  have hoff' : ∀ g, r.S g → ¬ lies A' g := fun g h1 h2 => by
    have := hA g h2
    have := G.pair.ref.lt g h1
    omega
  refine ⟨A', c', rfl, ⟨rfl, ho, fun i b hi => ?_, fun g hg => ⟨by have := hA g hg; omega, by have := hA g hg; omega⟩⟩, G', hoff'⟩
  have hi0 : i = 0 := by
    have := (List.getElem?_eq_some_iff.1 hi).1
    simp at this
    omega
  subst hi0
  cases hi
  exact ⟨rfl, G'.pair.ref, fun g hg => ⟨G.pair.off g hg, fun e => G.off (e ▸ hg), hoff' g hg, G.far2 g hg⟩⟩
end
end Go.Proofs.Ytdilmapcjmdabaa
