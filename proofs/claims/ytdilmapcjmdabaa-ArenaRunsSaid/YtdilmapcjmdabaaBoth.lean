/- What the laws ask in the end; two arenas side by side. Conditions: none. -/
import Derived.Test.YtdilmapcjmdabaaHeld
import Derived.Deep.CutBlock
import Derived.Deep.DeepCutAuto
namespace Go.Proofs.Ytdilmapcjmdabaa
open Go.ChangeShapes Go.WideShapes Go.RowKit
section
variable {w wr w' W w3 : World} {p z : Nat} {cs : Array Value} {L : Lim} {s s0 : Sta} {H : His} {r : Rim}
/-- What was there at the start. -/
def Since (s0 s : Sta) (H : His) : Prop := stateAt s H H.length = s0
theorem since_go {m : Option Mov} (h : Since s0 s H) : Since s0 (s.go m) (His.go H s m) := by
  cases m with
  | none => exact h
  | some x => exact h
theorem since_new (s : Sta) : Since s s [] := rfl
theorem Goes.told (h : Goes w wr p z cs L s H r) : Calls Try.prog 12 #[.pointer (some ⟨p, 0, none⟩), .agg r.cs, .int .i64 (H.length : Int)] wr fun e w' => e = .returned (.bool true) ∧ Below wr.heap.size wr w' := by
  have := told_any h.pair.ara h.pair.ref h.pair.inv
  rw [chgs_len] at this
  exact this
theorem Goes.find (h : Goes w wr p z cs L s H r) (x : Wd) : Calls Try.prog 15 #[.pointer (some ⟨p, 0, none⟩), .agg x.cs.toArray] wr fun e w' => e = .returned (.int .i64 (findM s x)) ∧ Below wr.heap.size wr w' := find_any x h.pair.ara h.pair.inv
theorem Goes.rfind (h : Goes w wr p z cs L s H r) (x : Wd) : Calls Try.prog 16 #[.agg r.cs, .agg x.cs.toArray] wr fun e w' => e = .returned (.int .i64 (findM s x)) ∧ Below wr.heap.size wr w' := rfind_any x h.pair.ref h.pair.inv
theorem Goes.undo0 (h : Goes w wr p z cs L s H r) (hh : H.length ≤ 1000) (h0 : Since s0 s H) :
    Calls Try.prog 21 #[.pointer (some ⟨p, 0, none⟩), .int .i64 0] wr fun e w' => e = .returned (.bool true) ∧ AreTo wr p L s0.C s0.R [] w' := by
  have := undo_any (q := 0) h.pair.ara h.pair.inv h.trail hh (Nat.zero_le _)
  rw [Nat.sub_zero, show stateAt s H H.length = s0 from h0, List.drop_length] at this
  exact this
/-- Told against what is new. -/
theorem told_new {s0 : Sta} {r : Rim} {L : Lim} (h : Are wr p L s0.C s0.R []) (hr : Ref wr r s0) (hI : Inv s0) : Calls Try.prog 12 #[.pointer (some ⟨p, 0, none⟩), .agg r.cs, .int .i64 0] wr fun e w' => e = .returned (.bool true) ∧ Below wr.heap.size wr w' := by
  have := told_any (P := []) h hr hI
  rw [List.length_nil] at this
  exact this
theorem Goes.cell2 (h : Goes w wr p z (r.bk (H.length : Int)) L s H r) : wr.cell? ⟨z, 2, none⟩ = some (.int .i64 (H.length : Int)) := h.book.cell 2
theorem Goes.cell0 (h : Goes w wr p z (r.bk (H.length : Int)) L s H r) : wr.cell? ⟨z, 0, none⟩ = some (.slice r.Ac r.n r.cc) := h.book.cell 0
theorem Goes.cell1 (h : Goes w wr p z (r.bk (H.length : Int)) L s H r) : wr.cell? ⟨z, 1, none⟩ = some (.slice r.Ar r.m r.cr) := h.book.cell 1
end
/-- Two arenas, and what tells of them, apart. -/
structure Cross (p z : Nat) (L : Lim) (r : Rim) (p2 z2 : Nat) (L2 : Lim) (r2 : Rim) : Prop where
  m : ∀ g, mine p L g → ¬ mine p2 L2 g
  s1 : ∀ g, r.S g → ¬ mine p2 L2 g
  s2 : ∀ g, r2.S g → ¬ mine p L g
  z1 : ¬ r2.S z
  zo : ¬ r.S z2
  zz : z ≠ z2
section
variable {w wr w' W w3 : World} {p z p2 z2 : Nat} {cs cs2 : Array Value} {L L' L2 : Lim} {s s2 s' : Sta} {H H2 H' : His} {r r2 r' : Rim}
theorem Cross.symm (h : Cross p z L r p2 z2 L2 r2) : Cross p2 z2 L2 r2 p z L r := ⟨fun g h1 h2 => h.m g h2 h1, h.s2, h.s1, h.zo, h.z1, h.zz.symm⟩
theorem Went.cross (h : Went w wr W w3 p z cs L L' s' H' r') (h1 : Goes w wr p z cs L s H r) (h2 : Goes w wr p2 z2 cs2 L2 s2 H2 r2) (hc : Cross p z L r p2 z2 L2 r2) (hb : Below wr.heap.size wr W) (x : Array Value) :
    Goes w (w3.setRow z x) p2 z2 cs2 L2 s2 H2 r2 ∧ Cross p z L' r' p2 z2 L2 r2 := by
  have hmz : ¬ mine p2 L2 z := h2.pair.ara.far h1.book (by simp)
  have hmz2 : ¬ mine p L z2 := h1.pair.ara.far h2.book (by simp)
  have k : Kept (fun g => mine p L g ∨ g = z) wr (w3.setRow z x) := (h.kept.more (fun g e => .inl e)).next (kept_row w3 z x) (fun g e => .inl (.inr e))
  refine ⟨h2.kept k (fun g h3 h4 => ?_) (fun g h3 h4 => ?_) (fun h4 => ?_) (fun g h4 => ?_), ⟨fun g h3 h4 => ?_, fun g h3 h4 => ?_, fun g h3 h4 => ?_, hc.z1, fun h3 => ?_, hc.zz⟩⟩
  · exact h4.elim (fun e => hc.m g e h3) (fun e => hmz (e ▸ h3))
  · exact h4.elim (hc.s2 g h3) (fun e => hc.z1 (e ▸ h3))
  · exact h4.elim hmz2 (fun e => hc.zz e.symm)
  · exact h4.elim (h1.far g) (fun e => by have := h1.farz; omega)
  · rcases h.mine_ g h3 with e | e
    · exact hc.m g e h4
    · have := h2.pair.ara.lt g h4
      have := hb.size
      omega
  · have := h.new g h3
    have := h2.pair.ara.lt g h4
    have := hb.size
    omega
  · rcases h.mine_ g h4 with e | e
    · exact hc.s2 g h3 e
    · have := h2.pair.ref.lt g h3
      have := hb.size
      omega
  · have := h.new z2 h3
    have := h2.book.lt
    have := hb.size
    omega
/-- The clone and the lists anew in a variable. -/
theorem Goes.cloned (h : Goes w wr p z (r.bk (H.length : Int)) L s H r) (hA : Ara w3 p2 L2 s H) (hb : Below wr.heap.size wr w3) (hf : ∀ g, mine p2 L2 g → wr.heap.size ≤ g) :
    Goes w ((w3.alloc (.cells #[.slice none 0 0, .slice none 0 0, .int .i64 0] 34)).setRow w3.heap.size (r.bk (H.length : Int))) p z (r.bk (H.length : Int)) L s H r ∧
    Goes w ((w3.alloc (.cells #[.slice none 0 0, .slice none 0 0, .int .i64 0] 34)).setRow w3.heap.size (r.bk (H.length : Int))) p2 w3.heap.size (r.bk (H.length : Int)) L2 s H r ∧ Cross p z L r p2 w3.heap.size L2 r := by
  have hB : Blk (w3.alloc (.cells #[.slice none 0 0, .slice none 0 0, .int .i64 0] 34)) w3.heap.size 34 #[.slice none 0 0, .slice none 0 0, .int .i64 0] := heap_alloc_new w3 _
  have hb3 : Below w3.heap.size w3 (w3.alloc (.cells #[.slice none 0 0, .slice none 0 0, .int .i64 0] 34)) := (Below.refl _ _).alloc (Nat.le_refl _) _
  have h3 := (h.on hb).on hb3
  have hsz := hb.size
  have hwr := h.below.size
  have hlt := h.pair.ref.lt
  have hmlt := h.pair.ara.lt
  have g2 : Goes w (w3.alloc (.cells #[.slice none 0 0, .slice none 0 0, .int .i64 0] 34)) p2 w3.heap.size #[.slice none 0 0, .slice none 0 0, .int .i64 0] L2 s H r :=
    ⟨⟨hA.below hb3, h.pair.inv, h3.pair.ref, fun g hg hm => by have := hf g hm; have := hlt g hg; omega⟩, h.trail, hB, fun e => by have := hlt _ e; omega, h3.below, fun g hg => by have := hf g hg; omega, h.far2, by omega⟩
  have k := kept_row (w3.alloc (.cells #[.slice none 0 0, .slice none 0 0, .int .i64 0] 34)) w3.heap.size (r.bk (H.length : Int))
  refine ⟨h3.kept k (fun g hg (e : g = w3.heap.size) => ?_) (fun g hg (e : g = w3.heap.size) => ?_) (fun (e : z = w3.heap.size) => ?_) (fun g (e : g = w3.heap.size) => by omega), g2.put _, ⟨fun g h4 h5 => ?_, fun g h4 h5 => ?_, h.pair.off, h.off, fun e => ?_, ?_⟩⟩
  · have := hmlt g hg; omega
  · have := hlt g hg; omega
  · have := h.book.lt; omega
  · have := hmlt g h4; have := hf g h5; omega
  · have := hlt g h4; have := hf g h5; omega
  · have := hlt _ e; omega
  · have := h.book.lt; omega
/-- One was undone. -/
theorem Goes.beside {C : List Cel} {R : List Int} {P : List Chg} (h2 : Goes w wr p2 z2 cs2 L2 s2 H2 r2) (h1 : Goes w wr p z cs L s H r) (hc : Cross p z L r p2 z2 L2 r2) (hd : AreTo wr p L C R P w') : Goes w w' p2 z2 cs2 L2 s2 H2 r2 := by
  obtain ⟨L', _, k, _⟩ := hd
  exact h2.kept k (fun g h3 h4 => hc.m g h4 h3) hc.s2 (h1.pair.ara.far h2.book (by simp)) h1.far
end
end Go.Proofs.Ytdilmapcjmdabaa
