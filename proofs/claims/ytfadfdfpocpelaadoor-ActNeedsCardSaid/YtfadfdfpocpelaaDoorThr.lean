/- Threads by value: twenty-two cells. Conditions: none. -/
import Derived.Test.YtfadfdfpocpelaaDoorPair
import Derived.Deep.QuietTactic
namespace Go.Proofs.YtfadfdfpocpelaaDoor
open Go.RowKit Go.ChangeShapes Go.WideShapes

/-- A slice: where, how long, its room. -/
structure Sl where
  A : Option Addr
  n : Nat
  cap : Nat
def Sl.v (s : Sl) : Value := .slice s.A s.n s.cap
/-- A thread: where it is, its fuel, its state; its registers; its micro; its bag, its snapshot, and how much is old. -/
structure Th where
  pc : Int
  fu : Int
  st : Int
  a0 : Int
  a1 : Int
  a2 : Int
  a3 : Int
  a4 : Int
  a5 : Int
  a6 : Int
  a7 : Int
  a8 : Int
  a9 : Int
  a10 : Int
  a11 : Int
  k : Int
  i : Int
  n : Int
  se : Sl
  bg : Sl
  sn : Sl
  old : Int
def Th.cs (x : Th) : List Value := [.int .i64 x.pc, .int .i64 x.fu, .int .i64 x.st, .int .i64 x.a0, .int .i64 x.a1, .int .i64 x.a2, .int .i64 x.a3, .int .i64 x.a4, .int .i64 x.a5, .int .i64 x.a6, .int .i64 x.a7, .int .i64 x.a8, .int .i64 x.a9, .int .i64 x.a10, .int .i64 x.a11, .int .i64 x.k, .int .i64 x.i, .int .i64 x.n, x.se.v, x.bg.v, x.sn.v, .int .i64 x.old]
def noS : Sl := ⟨none, 0, 0⟩
def noT : Th := ⟨0, 0, 0, 0, 0, 0, 0, 0, 0, 0, 0, 0, 0, 0, 0, 0, 0, 0, noS, noS, noS, 0⟩
theorem Th.len (x : Th) : x.cs.length = 22 := rfl
theorem Th.size (x : Th) : x.cs.toArray.size = 22 := rfl
theorem Th.onea (x : Th) : x.cs.toArray.all (·.oneCell') = true := by simp [Th.cs, Sl.v, Value.oneCell']
theorem size46 : (Tryd.prog.info? 46).map (·.size) = some 22 := by kernel_rfl
theorem load46 (x : Th) : (Tryd.prog.info? 46).map (·.size) = some x.cs.length := size46
theorem sizeT (x : Th) : (Tryd.prog.info? 46).map (·.size) = some x.cs.toArray.size := size46
/-- Its three lists read as such. -/
structure Reads (w : World) (x : Th) (z : List Int) (l : List Bg) (s : List Int) : Prop where
  se : SeesI w x.se.A x.se.n x.se.cap z
  bg : SeesB w x.bg.A x.bg.n x.bg.cap l
  sn : SeesI w x.sn.A x.sn.n x.sn.cap s
theorem Reads.on {w w' : World} {x : Th} {z s : List Int} {l : List Bg} (h : Reads w x z l s) (hb : Below w.heap.size w w') : Reads w' x z l s := ⟨h.se.on hb, h.bg.on hb, h.sn.on hb⟩
/-- A micro. -/
structure Mi where
  k : Int
  i : Int
  n : Int
  se : Sl
def Mi.cs (x : Mi) : List Value := [.int .i64 x.k, .int .i64 x.i, .int .i64 x.n, x.se.v]
theorem Mi.onea (x : Mi) : x.cs.toArray.all (·.oneCell') = true := by simp [Mi.cs, Sl.v, Value.oneCell']
theorem size43 : (Tryd.prog.info? 43).map (·.size) = some 4 := by kernel_rfl
def Th.mi (x : Th) : Mi := ⟨x.k, x.i, x.n, x.se⟩
end Go.Proofs.YtfadfdfpocpelaaDoor
