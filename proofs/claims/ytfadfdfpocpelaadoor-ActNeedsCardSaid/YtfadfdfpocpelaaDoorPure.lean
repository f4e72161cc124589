/- A thread's registers, an instruction, and what one that touches nothing shared does, plainly. Conditions: none. -/
import Derived.Test.YtfadfdfpocpelaaDoorClone
namespace Go.Proofs.YtfadfdfpocpelaaDoor
open Go.RowKit Go.ChangeShapes Go.WideShapes

/-- The k-th register. -/
def Th.reg (x : Th) (k : Nat) : Wd :=
  match k with
  | 0 => ⟨x.a0, x.a1, x.a2⟩
  | 1 => ⟨x.a3, x.a4, x.a5⟩
  | 2 => ⟨x.a6, x.a7, x.a8⟩
  | 3 => ⟨x.a9, x.a10, x.a11⟩
  | _ => noW
/-- The k-th register set. -/
def Th.setR (x : Th) (k : Nat) (v : Wd) : Th :=
  match k with
  | 0 => { x with a0 := v.n, a1 := v.c, a2 := v.g }
  | 1 => { x with a3 := v.n, a4 := v.c, a5 := v.g }
  | 2 => { x with a6 := v.n, a7 := v.c, a8 := v.g }
  | 3 => { x with a9 := v.n, a10 := v.c, a11 := v.g }
  | _ => x
/-- Is x from a to b? -/
def inB (x a b : Int) : Bool := decide (a ≤ x) && decide (x ≤ b)
/-- The register of any number; there is none: the plain word 0. -/
def regI (x : Th) (r : Int) : Wd := if inB r 0 3 = true then x.reg r.toNat else noW
/-- With that register; there is none: as it was. -/
def setI (x : Th) (r : Int) (v : Wd) : Th := if inB r 0 3 = true then x.setR r.toNat v else x
/-- An instruction. -/
structure Ins where
  op : Int
  a : Int
  b : Int
  c : Int
  n : Int
deriving DecidableEq
def Ins.cs (x : Ins) : List Value := [.int .i64 x.op, .int .i64 x.a, .int .i64 x.b, .int .i64 x.c, .int .i64 x.n]
def noI : Ins := ⟨0, 0, 0, 0, 0⟩
instance : Inhabited Ins := ⟨noI⟩
theorem Ins.len (x : Ins) : x.cs.length = 5 := rfl
theorem Ins.onea (x : Ins) : x.cs.toArray.all (·.oneCell') = true := by simp [Ins.cs, Value.oneCell']
theorem size35 : (Tryd.prog.info? 35).map (·.size) = some 5 := by kernel_rfl
theorem load35 (c : Ins) : (Tryd.prog.info? 35).map (·.size) = some c.cs.length := size35
/-- The thread that has started an instruction. -/
def stT (x : Th) : Th := { x with pc := wrap64 (x.pc + 1), fu := wrap64 (x.fu - 1) }
section
variable (x : Th) (se bg sn : Sl)
theorem reg_put (k : Nat) : (x.put se bg sn).reg k = x.reg k := by
  unfold Th.reg
  split <;> rfl
theorem regI_put (r : Int) : regI (x.put se bg sn) r = regI x r := by
  unfold regI
  rw [reg_put]
theorem setR_put (k : Nat) (v : Wd) : (x.put se bg sn).setR k v = (x.setR k v).put se bg sn := by
  unfold Th.setR
  split <;> rfl
theorem setI_put (r : Int) (v : Wd) : setI (x.put se bg sn) r v = (setI x r v).put se bg sn := by
  unfold setI
  split
  · exact setR_put x se bg sn _ v
  · rfl
end
theorem put_put (x : Th) (a b c a' b' c' : Sl) : (x.put a b c).put a' b' c' = x.put a' b' c' := rfl
/-- A register in memory. -/
theorem reg_len (v : Wd) : (Tryd.prog.info? 25).map (·.size) = some v.cs.length := size25
theorem reg_range {w : World} {g : Nat} {x : Th} (h : Blk w g 46 x.cs.toArray) {k : Nat} (hk : k < 4) : w.rangeAt g (3 + k * 3) (x.reg k).cs := by
  rcases (show k = 0 ∨ k = 1 ∨ k = 2 ∨ k = 3 by omega) with rfl | rfl | rfl | rfl <;> exact range_part h _ _ rfl
theorem reg_there {w : World} {g : Nat} {x : Th} (h : Blk w g 46 x.cs.toArray) {k : Nat} (hk : k < 4) : w.there g (3 + k * 3) 3 := there_blk h _ _ (by rw [Th.size]; omega)
theorem reg_splice (x : Th) (v : Wd) {k : Nat} (hk : k < 4) : splice x.cs.toArray (3 + k * 3) v.cs = (x.setR k v).cs.toArray := by
  rcases (show k = 0 ∨ k = 1 ∨ k = 2 ∨ k = 3 by omega) with rfl | rfl | rfl | rfl <;> rfl
theorem inB_nat {r : Int} (h : inB r 0 3 = true) : ∃ k : Nat, r = (k : Int) ∧ k < 4 ∧ r.toNat = k := by
  simp only [inB, Bool.and_eq_true, decide_eq_true_eq] at h
  exact ⟨r.toNat, by omega, by omega, rfl⟩
end Go.Proofs.YtfadfdfpocpelaaDoor
