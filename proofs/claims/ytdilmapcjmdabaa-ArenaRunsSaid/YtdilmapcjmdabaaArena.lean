/- An arena in memory; a cell is turned, and the past goes along. Conditions: at most 1000 changes. -/
import Derived.Test.YtdilmapcjmdabaaPast
namespace Go.Proofs.Ytdilmapcjmdabaa
open Go.ChangeShapes Go.WideShapes Go.RowKit

/-- Where the parts of an arena lie. -/
structure Lim where
  pp : Nat
  ps : Nat
  Ac : Option Addr
  cc : Nat
  n : Nat
  Ar : Option Addr
  cr : Nat
  m : Nat
  Ap : Option Addr
  cp : Nat
  h : Nat
structure Are (w : World) (p : Nat) (L : Lim) (C : List Cel) (R : List Int) (P : List Chg) : Prop where
  box : Blk w p 62 #[.pointer (some ⟨L.pp, 0, none⟩), .pointer (some ⟨L.ps, 0, none⟩)]
  past : Pst w L.pp L.Ap L.cp L.h P
  stock : Stk w L.ps L.Ac L.cc L.n L.Ar L.cr L.m C R
/-- The arena's own blocks. -/
def mine (p : Nat) (L : Lim) (g : Nat) : Prop := g = p ∨ pstS L.pp L.Ap g ∨ stkS L.ps L.Ac L.Ar g
/-- What an arena is behind a call on it. -/
def AreTo (w : World) (p : Nat) (L : Lim) (C : List Cel) (R : List Int) (P : List Chg) (w' : World) : Prop :=
  ∃ L', Are w' p L' C R P ∧ Kept (mine p L) w w' ∧ ∀ g, mine p L' g → mine p L g ∨ w.heap.size ≤ g
section
variable {w w' w2 : World} {p : Nat} {L : Lim} {C : List Cel} {R : List Int} {P : List Chg}
theorem Are.below (H : Are w p L C R P) (hb : Below w.heap.size w w') : Are w' p L C R P := ⟨H.box.on hb, H.past.below hb, H.stock.below hb⟩
theorem Are.at0 (H : Are w p L C R P) : w.cell? ⟨p, 0, none⟩ = some (.pointer (some ⟨L.pp, 0, none⟩)) := H.box.cell 0
theorem Are.at1 (H : Are w p L C R P) : w.cell? ⟨p, 1, none⟩ = some (.pointer (some ⟨L.ps, 0, none⟩)) := H.box.cell 1
theorem Are.lt (H : Are w p L C R P) : ∀ g, mine p L g → g < w.heap.size := by
  intro g hg
  rcases hg with rfl | (rfl | hg) | (rfl | hg | hg)
  · exact H.box.lt
  · exact H.past.box.lt
  · obtain ⟨cs, hb⟩ := own_blk H.past.op hg
    exact hb.lt
  · exact H.stock.box.lt
  · obtain ⟨cs, hb⟩ := own_blk H.stock.oc hg
    exact hb.lt
  · obtain ⟨cs, hb⟩ := own_blk H.stock.or hg
    exact hb.lt
theorem AreTo.from_ (h : AreTo w' p L C R P w2) (hb : Below w.heap.size w w') : AreTo w p L C R P w2 := by
  obtain ⟨L', h1, h2, h3⟩ := h
  exact ⟨L', h1, (kept_below (mine p L) hb).next h2 (fun g hg => .inl hg), fun g hg => (h3 g hg).elim .inl (fun e => .inr (Nat.le_trans hb.size e))⟩
theorem AreTo.to (h : AreTo w p L C R P w') (hb : Below w'.heap.size w' w2) : AreTo w p L C R P w2 := by
  obtain ⟨L', h1, h2, h3⟩ := h
  exact ⟨L', h1.below hb, h2.next (kept_below (mine p L) hb) (fun g hg => .inl hg), h3⟩
/-- What is not the past's is kept behind a change of the past. -/
theorem past_off {t : TypeId} {cs : Array Value} {pp cp h : Nat} {Ap : Option Addr} {g : Nat} (H : Pst w pp Ap cp h P) (hb : Blk w g t cs) (h1 : 68 ≠ t) (h2 : 83 ≠ t) : ¬ pstS pp Ap g := by
  rintro (rfl | e)
  · exact H.box.ne hb h1 rfl
  · exact own_off H.op hb h2 e
theorem stock_off {t : TypeId} {cs : Array Value} {ps cc n cr m : Nat} {Ac Ar : Option Addr} {g : Nat} (H : Stk w ps Ac cc n Ar cr m C R) (hb : Blk w g t cs) (h1 : 80 ≠ t) (h2 : 45 ≠ t) (h3 : 3 ≠ t) : ¬ stkS ps Ac Ar g := by
  rintro (rfl | e | e)
  · exact H.box.ne hb h1 rfl
  · exact own_off H.oc hb h2 e
  · exact own_off H.or hb h3 e
theorem Stk.kept {ps cc n cr m : Nat} {Ac Ar : Option Addr} {S : Nat → Prop} (H : Stk w ps Ac cc n Ar cr m C R) (hk : Kept S w w') (hS : ∀ g, stkS ps Ac Ar g → ¬ S g) : Stk w' ps Ac cc n Ar cr m C R :=
  ⟨H.box.kept hk (hS _ (.inl rfl)), own_kept H.oc hk (fun g hg => hS g (.inr (.inl hg))), own_kept H.or hk (fun g hg => hS g (.inr (.inr hg)))⟩
theorem Pst.kept {pp cp h : Nat} {Ap : Option Addr} {S : Nat → Prop} (H : Pst w pp Ap cp h P) (hk : Kept S w w') (hS : ∀ g, pstS pp Ap g → ¬ S g) : Pst w' pp Ap cp h P :=
  ⟨H.box.kept hk (hS _ (.inl rfl)), own_kept H.op hk (fun g hg => hS g (.inr hg))⟩
theorem Are.kept {S : Nat → Prop} (H : Are w p L C R P) (hk : Kept S w w') (hS : ∀ g, mine p L g → ¬ S g) : Are w' p L C R P :=
  ⟨H.box.kept hk (hS _ (.inl rfl)), H.past.kept hk (fun g hg => hS g (.inr (.inl hg))), H.stock.kept hk (fun g hg => hS g (.inr (.inr hg)))⟩
/-- The past and the stock lie apart. -/
theorem parts {pp cp h ps cc n cr m : Nat} {Ap Ac Ar : Option Addr} (H : Pst w pp Ap cp h P) (K : Stk w ps Ac cc n Ar cr m C R) : ∀ g, stkS ps Ac Ar g → ¬ pstS pp Ap g := by
  rintro g (rfl | e | e)
  · exact past_off H K.box (by decide) (by decide)
  · obtain ⟨cs, hb⟩ := own_blk K.oc e
    exact past_off H hb (by decide) (by decide)
  · obtain ⟨cs, hb⟩ := own_blk K.or e
    exact past_off H hb (by decide) (by decide)
/-- The past turned. -/
theorem Are.past_to {P' : List Chg} (H : Are w p L C R P) (h : PastTo w L.pp L.Ap P' w') : AreTo w p L C R P' w' := by
  obtain ⟨Ap', cp', h', h1, h2, h3⟩ := h
  refine ⟨{ L with Ap := Ap', cp := cp', h := h' }, ⟨H.box.kept h2 (past_off H.past H.box (by decide) (by decide)), h1, H.stock.kept h2 (parts H.past H.stock)⟩, h2.more (fun g hg => .inr (.inl hg)), ?_⟩
  rintro g (hg | (hg | hg) | hg)
  · exact .inl (.inl hg)
  · exact .inl (.inr (.inl (.inl hg)))
  · exact (h3 g hg).elim (fun e => .inl (.inr (.inl (.inr e)))) .inr
  · exact .inl (.inr (.inr hg))
/-- The stock turned. -/
theorem Are.stock_to {C' : List Cel} {R' : List Int} (H : Are w p L C R P) (h : SetTo w L.ps L.Ac L.cc L.n L.Ar C' R' w') : AreTo w p L C' R' P w' := by
  obtain ⟨Ar', cr', m', h1, h2, h3⟩ := h
  refine ⟨{ L with Ar := Ar', cr := cr', m := m' }, ⟨H.box.kept h2 (stock_off H.stock H.box (by decide) (by decide) (by decide)), H.past.kept h2 (fun g hg e => parts H.past H.stock g e hg), h1⟩, h2.more (fun g hg => .inr (.inr hg)), ?_⟩
  rintro g (hg | hg | hg | hg | hg)
  · exact .inl (.inl hg)
  · exact .inl (.inr (.inl hg))
  · exact .inl (.inr (.inr (.inl hg)))
  · exact .inl (.inr (.inr (.inr (.inl hg))))
  · exact (h3 g hg).elim (fun e => .inl (.inr (.inr (.inr (.inr e))))) .inr
theorem AreTo.next {L' : Lim} {C' C2 : List Cel} {R' R2 : List Int} {P' P2 : List Chg} (_h1 : Are w' p L' C' R' P') (h2 : Kept (mine p L) w w') (h3 : ∀ g, mine p L' g → mine p L g ∨ w.heap.size ≤ g) (h : AreTo w' p L' C2 R2 P2 w2) : AreTo w p L C2 R2 P2 w2 := by
  obtain ⟨L2, k1, k2, k3⟩ := h
  exact ⟨L2, k1, h2.next k2 h3, fun g hg => (k3 g hg).elim (h3 g) (fun e => .inr (Nat.le_trans h2.size e))⟩
end
end Go.Proofs.Ytdilmapcjmdabaa
