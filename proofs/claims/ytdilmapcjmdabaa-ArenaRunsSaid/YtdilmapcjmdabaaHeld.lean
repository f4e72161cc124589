/- What the laws' loops keep; how the calls came in. Conditions: none. -/
import Derived.Test.YtdilmapcjmdabaaRun
import Derived.Test.YtdilmapcjmdabaaIn
import Derived.Test.YtdilmapcjmdabaaAlive
import Derived.Test.YtdilmapcjmdabaaFind
import Derived.Test.YtdilmapcjmdabaaClone
import Derived.Test.YtdilmapcjmdabaaRnew
import Derived.Test.YtdilmapcjmdabaaRfind
namespace Go.Proofs.Ytdilmapcjmdabaa
open Go.RowKit Go.ChangeShapes Go.WideShapes Go.Deep

/-- The calls that came in. -/
structure IsOps (w : World) (A : Option Addr) (n c : Nat) (O : Nat → OpR) : Prop where
  room : n ≤ c
  most : c ≤ maxLen
  at_ : ∀ i, i < n → ∃ g k, A = some ⟨g, k, none⟩ ∧ g < w.heap.size ∧ w.rangeAt g (k + i * 8) (O i).cs
theorem IsOps.below {w w' : World} {A : Option Addr} {n c : Nat} {O : Nat → OpR} (h : IsOps w A n c O) (hb : Below w.heap.size w w') : IsOps w' A n c O :=
  ⟨h.room, h.most, fun i hi => by
    obtain ⟨g, k, e, hg, hr⟩ := h.at_ i hi
    exact ⟨g, k, e, Nat.lt_of_lt_of_le hg hb.size, fun j v hv => (hb.cell hg).trans (hr j v hv)⟩⟩
instance : Inhabited OpR := ⟨⟨0, 0, 0, 0, 0, noW⟩⟩
theorem array8 {α : Type} {l : List α} (h : l.length = 8) : ∃ a b c d e f g i, l = [a, b, c, d, e, f, g, i] := by
  match l, h with
  | [a, b, c, d, e, f, g, i], _ => exact ⟨a, b, c, d, e, f, g, i, rfl⟩
theorem cells38 : Try.prog.cellsOf 38 = 8 := by kernel_rfl
set_option maxRecDepth 100000 in
theorem op_in {H : Type} {enc : TypeId × Value → H} {w : World} {base : Nat} {spare : Nat → Bool} {held : Bool} {fuel : Nat} {cs : List Value} {x : DataW H × List MemPlace}
    (hl : cs.length = 8) (ht : DataW.trod enc Try.prog w base spare held fuel 38 cs = some x) : ∃ o : OpR, cs = o.cs := by
  obtain ⟨v0, v1, v2, v3, v4, v5, v6, v7, rfl⟩ := array8 hl
  obtain ⟨ys, k, _, _, _, hyl, hf⟩ := DataW.trod_struct Try.underlying38 ht
  match ys, hyl with
  | [y0, y1, y2, y3, y4, y5], _ =>
    have f0 : DataW.trod enc Try.prog w base spare held k 3 (([v0, v1, v2, v3, v4, v5, v6, v7].drop 0).take (Try.prog.cellsOf 3)) = some y0 := hf 0 _ rfl
    have f1 : DataW.trod enc Try.prog w base spare held k 3 (([v0, v1, v2, v3, v4, v5, v6, v7].drop 1).take (Try.prog.cellsOf 3)) = some y1 := hf 1 _ rfl
    have f2 : DataW.trod enc Try.prog w base spare held k 3 (([v0, v1, v2, v3, v4, v5, v6, v7].drop 2).take (Try.prog.cellsOf 3)) = some y2 := hf 2 _ rfl
    have f3 : DataW.trod enc Try.prog w base spare held k 3 (([v0, v1, v2, v3, v4, v5, v6, v7].drop 3).take (Try.prog.cellsOf 3)) = some y3 := hf 3 _ rfl
    have f4 : DataW.trod enc Try.prog w base spare held k 3 (([v0, v1, v2, v3, v4, v5, v6, v7].drop 4).take (Try.prog.cellsOf 3)) = some y4 := hf 4 _ rfl
    have f5 : DataW.trod enc Try.prog w base spare held k 24 (([v0, v1, v2, v3, v4, v5, v6, v7].drop 5).take (Try.prog.cellsOf 24)) = some y5 := hf 5 _ rfl
    rw [cells3] at f0 f1 f2 f3 f4
    rw [cells24] at f5
    obtain ⟨z0, e0, _, _⟩ := DataW.trod_int Try.underlying3 f0
    obtain ⟨z1, e1, _, _⟩ := DataW.trod_int Try.underlying3 f1
    obtain ⟨z2, e2, _, _⟩ := DataW.trod_int Try.underlying3 f2
    obtain ⟨z3, e3, _, _⟩ := DataW.trod_int Try.underlying3 f3
    obtain ⟨z4, e4, _, _⟩ := DataW.trod_int Try.underlying3 f4
    simp at e0 e1 e2 e3 e4
    subst e0 e1 e2 e3 e4
    obtain ⟨zs, k', _, _, _, hzl, hg⟩ := DataW.trod_struct Try.underlying24 f5
    match zs, hzl with
    | [g0, g1, g2], _ =>
      have p0 : DataW.trod enc Try.prog w base spare held k' 2 (([v5, v6, v7].drop 0).take (Try.prog.cellsOf 2)) = some g0 := hg 0 _ rfl
      have p1 : DataW.trod enc Try.prog w base spare held k' 3 (([v5, v6, v7].drop 1).take (Try.prog.cellsOf 3)) = some g1 := hg 1 _ rfl
      have p2 : DataW.trod enc Try.prog w base spare held k' 3 (([v5, v6, v7].drop 2).take (Try.prog.cellsOf 3)) = some g2 := hg 2 _ rfl
      rw [cells2] at p0
      rw [cells3] at p1 p2
      obtain ⟨u0, d0, _, _⟩ := DataW.trod_int Try.underlying2 p0
      obtain ⟨u1, d1, _, _⟩ := DataW.trod_int Try.underlying3 p1
      obtain ⟨u2, d2, _, _⟩ := DataW.trod_int Try.underlying3 p2
      simp at d0 d1 d2
      subst d0 d1 d2
      exact ⟨⟨z0, z1, z2, z3, z4, ⟨u0, u1, u2⟩⟩, rfl⟩
theorem ops_of {H : Type} {enc : TypeId × Value → H} {w : World} {base : Nat} {spare : Nat → Bool} {held : Bool} {fuel : Nat} {A : Option Addr} {n c : Nat} {x : DataW H × List MemPlace}
    (h : DataW.trod enc Try.prog w base spare held fuel 22 [.slice A n c] = some x) : ∃ O : Nat → OpR, IsOps w A n c O := by
  rcases open_slice Try.underlying22 h with ⟨hcs, _⟩ | ⟨a, len, cap, m, n', D, Pl, hcs, hb, hl, hm, hmm, hx, hi⟩
  · simp at hcs
    obtain ⟨rfl, rfl, rfl⟩ := hcs
    exact ⟨fun _ => ⟨0, 0, 0, 0, 0, noW⟩, Nat.le_refl _, Nat.zero_le _, fun i hi => absurd hi (Nat.not_lt_zero _)⟩
  · simp at hcs
    obtain ⟨rfl, rfl, rfl⟩ := hcs
    have hlm : n ≤ m := by rw [hmm]; split <;> omega
    have each : ∀ i, i < n → ∃ o : OpR, ∀ j v, o.cs[j]? = some v → w.cell? ((a.add (i * 8)).add j) = some v := by
      intro i hin
      obtain ⟨cs, hc, ht⟩ := hi i (by omega)
      rw [cells38] at hc
      obtain ⟨_, hcl, hat⟩ := World.cells?_some hc
      obtain ⟨o, rfl⟩ := op_in hcl ht
      refine ⟨o, fun j v hv => ?_⟩
      obtain ⟨hj, e⟩ := List.getElem?_eq_some_iff.1 hv
      have := hat j (by rw [hcl] at hj; exact hj)
      rw [this, hv]
    obtain ⟨O, hO⟩ := choose_lt each
    refine ⟨O, hl, hm, fun i hin => ?_⟩
    obtain ⟨b, off, spot⟩ := a
    have h0 : ∀ i, i < n → ∀ j v, (O i).cs[j]? = some v → w.cell? (((⟨b, off, spot⟩ : Addr).add (i * 8)).add j) = some v := hO
    have hspot : spot = none := by
      have := h0 0 (by omega) 0 _ rfl
      simpa [Addr.add] using World.cell?_spot this
    subst hspot
    refine ⟨b, off, rfl, ?_, fun j v hv => ?_⟩
    · have := h0 0 (by omega) 0 _ rfl
      have := World.block_lt_of_cell? w _ this
      simpa [Addr.add] using this
    · have := h0 i hin j v hv
      rw [Addr.add_mid, Addr.add_mid] at this
      exact this
theorem ops_in {H : Type} {enc : TypeId × Value → H} {w : World} {r : Reach} {b0 base : Nat} {spare : Nat → Bool} {held : Bool} {v : Value} {d : DataW H} {p : List MemPlace}
    (hv : Value.okWide Try.prog w r b0 22 v) (h : DataW.Trod enc Try.prog w base spare held 22 v d p) : ∃ A n c O, v = .slice A n c ∧ IsOps w A n c O := by
  obtain ⟨A, n, c, rfl⟩ := okWide_slice Try.underlying22 hv
  obtain ⟨fuel, hf⟩ := h
  obtain ⟨O, ho⟩ := ops_of hf
  exact ⟨A, n, c, O, rfl, ho⟩

theorem load38 (o : OpR) : (Try.prog.info? 38).map (·.size) = some o.cs.length := by kernel_rfl
theorem build34 (r : Rim) (w : World) : (Instr.build 34 #[(0, .agg r.cs)]).run Try.prog w = .ok (.agg (r.bk 0)) w := by kernel_rfl
theorem one34 (r : Rim) (M : Int) : (r.bk M).all (·.oneCell') = true := by simp [Rim.bk, Value.oneCell']
theorem sz34 (r : Rim) (M : Int) : (Try.prog.info? 34).map (·.size) = some (r.bk M).size := size34
/-! ### an arena, the lists that tell of it, and the variable that holds them -/
structure Goes (w wr : World) (p z : Nat) (cs : Array Value) (L : Lim) (s : Sta) (H : His) (r : Rim) : Prop where
  pair : Pair wr p L s H r
  trail : Trail s H
  book : Blk wr z 34 cs
  off : ¬ r.S z
  below : Below w.heap.size w wr
  far : ∀ g, mine p L g → w.heap.size ≤ g
  far2 : ∀ g, r.S g → w.heap.size ≤ g
  farz : w.heap.size ≤ z
section
variable {w wr w' W : World} {p z : Nat} {cs : Array Value} {L : Lim} {s : Sta} {H : His} {r : Rim}
theorem Goes.kept {S : Nat → Prop} (h : Goes w wr p z cs L s H r) (k : Kept S wr w') (h1 : ∀ g, mine p L g → ¬ S g) (h2 : ∀ g, r.S g → ¬ S g) (h3 : ¬ S z) (h4 : ∀ g, S g → w.heap.size ≤ g) : Goes w w' p z cs L s H r :=
  ⟨⟨h.pair.ara.kept k h1, h.pair.inv, h.pair.ref.kept k h2, h.pair.off⟩, h.trail, h.book.kept k h3, h.off, h.below.trans (k.under _ h.below.size h4), h.far, h.far2, h.farz⟩
theorem Goes.on (h : Goes w wr p z cs L s H r) (hb : Below wr.heap.size wr w') : Goes w w' p z cs L s H r :=
  h.kept (kept_below (fun _ => False) hb) (fun _ _ e => e) (fun _ _ e => e) (fun e => e) (fun _ e => e.elim)
theorem Goes.away (h : Goes w wr p z cs L s H r) : ∀ g, mine p L g → g ≠ z := fun g hg e => h.pair.ara.far h.book (by simp) (e ▸ hg)
/-- The variable is set. -/
theorem Goes.put (h : Goes w wr p z cs L s H r) (cs' : Array Value) : Goes w (wr.setRow z cs') p z cs' L s H r :=
  have k := kept_row wr z cs'
  ⟨⟨h.pair.ara.kept k h.away, h.pair.inv, h.pair.ref.kept k (fun g hg e => h.off ((show g = z from e) ▸ hg)), h.pair.off⟩, h.trail, setRow_heap _ _ _ _ _ _ h.book, h.off, h.below.trans (k.under _ h.below.size (fun g e => by have := h.farz; have e : g = z := e; omega)), h.far, h.far2, h.farz⟩
/-- Behind a call on both. -/
structure Went (w wr W w3 : World) (p z : Nat) (cs : Array Value) (L L' : Lim) (s' : Sta) (H' : His) (r' : Rim) : Prop where
  goes : Goes w w3 p z cs L' s' H' r'
  kept : Kept (mine p L) wr w3
  mine_ : ∀ g, mine p L' g → mine p L g ∨ W.heap.size ≤ g
  new : ∀ g, r'.S g → W.heap.size ≤ g
theorem Goes.ran {w3 : World} {m : Option Mov} {e : Ending} (h : Goes w wr p z cs L s H r) (hb : Below wr.heap.size wr W) (hR : Ran W p L s H m e w3) (hc : ∀ x, m = some x → Can s x) :
    ∃ r' L', e = .returned (.tuple #[.agg (r'.bk ((His.go H s m).length : Int)), .bool true]) ∧ Went w wr W w3 p z cs L L' (s.go m) (His.go H s m) r' := by
  obtain ⟨r', L', rfl, hP, hT⟩ := hR
  have hW := h.on hb
  have hm : ∀ g, mine p L' g → mine p L g ∨ W.heap.size ≤ g := hT.mine_
  refine ⟨r', L', rfl, ⟨⟨hP, h.trail.go h.pair.inv hc, hW.book.kept hT.kept (h.pair.ara.far h.book (by simp)), fun e => ?_, hW.below.trans (hT.kept.under _ hW.below.size h.far), fun g hg => ?_, fun g hg => ?_, h.farz⟩, (kept_below (mine p L) hb).next hT.kept (fun _ e => .inl e), hm, hT.new⟩⟩
  · have := hT.new z e
    have := hW.book.lt
    omega
  · rcases hm g hg with e | e
    · exact h.far g e
    · exact Nat.le_trans hW.below.size e
  · exact Nat.le_trans hW.below.size (hT.new g hg)
theorem go_most (H : His) (s : Sta) (m : Option Mov) (k : Nat) (h : H.length ≤ k) : (His.go H s m).length ≤ k + 1 := by
  cases m with
  | none => exact Nat.le_succ_of_le h
  | some x => exact Nat.succ_le_succ h
/-- At the start: an arena, lists, a variable, all new. -/
theorem Goes.start {x : Int} {w1 w2 : World} (h1 : Below w.heap.size w w1) (hA : Ara w1 p L (sta0 (cellsN x)) []) (hf : ∀ g, mine p L g → w.heap.size ≤ g) (h2 : NewR (sta0 (cellsN x)) w1 r w2) :
    Goes w ((w2.alloc (.cells #[.slice none 0 0, .slice none 0 0, .int .i64 0] 34)).setRow w2.heap.size (r.bk 0)) p w2.heap.size (r.bk 0) L (sta0 (cellsN x)) [] r := by
  obtain ⟨hr, hb, hn⟩ := h2
  have hle : cellsN x ≤ 6 := cellsN_le x
  have hB : Blk (w2.alloc (.cells #[.slice none 0 0, .slice none 0 0, .int .i64 0] 34)) w2.heap.size 34 #[.slice none 0 0, .slice none 0 0, .int .i64 0] := heap_alloc_new w2 _
  have hb3 : Below w2.heap.size w2 (w2.alloc (.cells #[.slice none 0 0, .slice none 0 0, .int .i64 0] 34)) := (Below.refl _ _).alloc (Nat.le_refl _) _
  have hA2 := hA.below hb
  have h0 : Goes w (w2.alloc (.cells #[.slice none 0 0, .slice none 0 0, .int .i64 0] 34)) p w2.heap.size #[.slice none 0 0, .slice none 0 0, .int .i64 0] L (sta0 (cellsN x)) [] r :=
    ⟨⟨hA2.below hb3, inv0 _ hle, hr.below hb3, fun g hg hm => by have := hn g hg; have := hA.lt g hm; omega⟩, trivial, hB, fun e => by have := hr.lt _ e; omega, (h1.trans (hb.mono h1.size)).trans (hb3.mono (Nat.le_trans h1.size hb.size)), hf, fun g hg => Nat.le_trans h1.size (hn g hg), Nat.le_trans h1.size hb.size⟩
  exact h0.put _
end
end Go.Proofs.Ytdilmapcjmdabaa
