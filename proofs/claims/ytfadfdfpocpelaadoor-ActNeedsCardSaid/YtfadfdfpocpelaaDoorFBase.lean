/- Places, slices and feet as cells of memory; lists of them, however they lie; what turns, and what is kept. Conditions: none. -/
import Derived.Test.YtfadfdfpocpelaaDoorSmall
import Derived.WalkKit
import Derived.WalkSpells
import Derived.DataShut
import Derived.Lib.Hide
import Derived.Laws.ResultCell
import Derived.Laws.CopyOwn
import Derived.Below
import Derived.Laws.StructEq
import Derived.Deep.MidRow
import Derived.Deep.AppendLies
import Derived.Deep.RegionLaw
import Derived.Deep.RegionHeld3
import Derived.ArgAppend
import Derived.Laws.AppendOwnNone
import Derived.ChangeKeysEq
namespace Go.Proofs.YtfadfdfpocpelaaDoor
open Go.ChangeShapes Go.WideShapes Go.RowKit

section
variable {w w' : World} {g B : Nat} {t : TypeId} {cs : Array Value}
end

section
variable {S S' : Nat → Prop} {w w1 w2 : World}
end

/-! ### places, slices, feet -/
/-- A place: its kind and its two numbers. -/
structure Pl where
  k : Int
  i : Int
  j : Int
deriving DecidableEq
def Pl.cs (x : Pl) : List Value := [.int .i64 x.k, .int .i64 x.i, .int .i64 x.j]
def noP : Pl := ⟨0, 0, 0⟩
instance : Inhabited Pl := ⟨noP⟩
def flatP (l : List Pl) : List Value := l.flatMap Pl.cs
theorem Pl.len (c : Pl) : c.cs.length = 3 := rfl
theorem Pl.one (c : Pl) : ∀ v ∈ c.cs, v.oneCell' = true := by
  intro v hv
  simp only [Pl.cs, List.mem_cons, List.not_mem_nil, or_false] at hv
  rcases hv with rfl | rfl | rfl <;> rfl
theorem Pl.onea (c : Pl) : c.cs.toArray.all (·.oneCell') = true := by simp [Pl.cs, Value.oneCell']
/-- A foot: two slices. -/
structure Ft where
  r : Sl
  w : Sl
def Ft.cs (f : Ft) : List Value := [f.r.v, f.w.v]

section
variable {α : Type} {f : α → List Value} {k : Nat}
end
theorem int_len (x : Int) : [Value.int .i64 x].length = 1 := rfl
theorem info3 : (Tryd.prog.info? 3).map (fun i => (i.zero, i.size, i.bytes)) = some (some (.int .i64 0), 1, 8) := by kernel_rfl
theorem info48 : (Tryd.prog.info? 48).map (fun i => (i.zero, i.size, i.bytes)) = some (some (.slice none 0 0), 1, 24) := by kernel_rfl
theorem info50 : (Tryd.prog.info? 50).map (fun i => (i.zero, i.size, i.bytes)) = some (some (.agg #[.slice none 0 0, .slice none 0 0]), 2, 48) := by kernel_rfl
theorem info23 : (Tryd.prog.info? 23).map (fun i => (i.zero, i.size, i.bytes)) = some (some (.agg noP.cs.toArray), 3, 24) := by kernel_rfl
theorem size50 : (Tryd.prog.info? 50).map (·.size) = some 2 := by kernel_rfl
theorem size23 : (Tryd.prog.info? 23).map (·.size) = some 3 := by kernel_rfl
theorem load50 (f : Ft) : (Tryd.prog.info? 50).map (·.size) = some f.cs.length := size50
theorem load23 (c : Pl) : (Tryd.prog.info? 23).map (·.size) = some c.cs.length := size23

/-! ### lists of the program's: from the head of a block -/
section
variable {w w' : World} {A : Option Addr} {n cap k : Nat} {t : TypeId} {vs : List Value}
end

section
variable {w w' : World} {B n cap k : Nat} {t : TypeId} {v : Value} {vs : List Value} {A : Option Addr}
end

section
variable {w w' : World} {k n cap : Nat} {A : Option Addr} {vs : List Value} {t : TypeId}
end
section
variable {w w' : World}
end
section
variable {w : World}
end
/-- A slice that reads as such places. -/
def SeesP (w : World) (s : Sl) (l : List Pl) : Prop := Sees w 3 s.A s.n s.cap (flatP l)
/-- A foot that reads as such lists. -/
structure Foot (w : World) (f : Ft) (R W : List Pl) : Prop where
  r : SeesP w f.r R
  w : SeesP w f.w W
section
variable {w w' : World} {s : Sl} {f : Ft} {l R W : List Pl}
theorem SeesP.on (h : SeesP w s l) (hb : Below w.heap.size w w') : SeesP w' s l := Sees.below h hb
theorem Foot.on (h : Foot w f R W) (hb : Below w.heap.size w w') : Foot w' f R W := ⟨h.r.on hb, h.w.on hb⟩
theorem SeesP.len (h : SeesP w s l) : l.length = s.n := by
  have := Sees.len h
  unfold flatP at this
  rw [flat_len Pl.len] at this
  omega
theorem SeesP.at_ (h : SeesP w s l) {i : Nat} {x : Pl} (hx : l[i]? = some x) : ∃ g o, s.A = some ⟨g, o, none⟩ ∧ w.rangeAt g (o + i * 3) x.cs := sees_at Pl.len h hx (by omega)
theorem own_seesP {B n cap : Nat} {A : Option Addr} (h : w.ownsRow B 23 3 (.slice A n cap) n (flatP l)) : SeesP w ⟨A, n, cap⟩ l := own_sees h
theorem sees_nil (w : World) : SeesP w ⟨none, 0, 0⟩ [] := ⟨rfl, Nat.le_refl _, Nat.zero_le _, fun _ => rfl, fun ad e => (by cases e)⟩
end
end Go.Proofs.YtfadfdfpocpelaaDoor
