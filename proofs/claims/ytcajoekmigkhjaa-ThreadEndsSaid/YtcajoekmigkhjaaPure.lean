/- A thread's registers, an instruction, and what one that touches nothing shared does, plainly. Conditions: none. -/
import Derived.Test.YtcajoekmigkhjaaClone
namespace Go.Proofs.Ytcajoekmigkhjaa
open Go.RowKit Go.ChangeShapes Go.WideShapes

/-- The k-th register. -/
def Th.reg (x : Th) (k : Nat) : Wd :=
  match k with
  | 0 => ⟨x.a0, x.a1, x.a2⟩
  | 1 => ⟨x.a3, x.a4, x.a5⟩
  | 2 => ⟨x.a6, x.a7, x.a8⟩
  | 3 => ⟨x.a9, x.a10, x.a11⟩
  | _ => noW
/-- The k-th register set. -/
def Th.setR (x : Th) (k : Nat) (v : Wd) : Th :=
  match k with
  | 0 => { x with a0 := v.n, a1 := v.c, a2 := v.g }
  | 1 => { x with a3 := v.n, a4 := v.c, a5 := v.g }
  | 2 => { x with a6 := v.n, a7 := v.c, a8 := v.g }
  | 3 => { x with a9 := v.n, a10 := v.c, a11 := v.g }
  | _ => x
/-- Is x from a to b? -/
def inB (x a b : Int) : Bool := decide (a ≤ x) && decide (x ≤ b)
/-- The register of any number; there is none: the plain word 0. -/
def regI (x : Th) (r : Int) : Wd := if inB r 0 3 = true then x.reg r.toNat else noW
/-- With that register; there is none: as it was. -/
def setI (x : Th) (r : Int) (v : Wd) : Th := if inB r 0 3 = true then x.setR r.toNat v else x
/-- An instruction. -/
structure Ins where
  op : Int
  a : Int
  b : Int
  c : Int
  n : Int
deriving DecidableEq
def Ins.cs (x : Ins) : List Value := [.int .i64 x.op, .int .i64 x.a, .int .i64 x.b, .int .i64 x.c, .int .i64 x.n]
def noI : Ins := ⟨0, 0, 0, 0, 0⟩
instance : Inhabited Ins := ⟨noI⟩
theorem Ins.len (x : Ins) : x.cs.length = 5 := rfl
theorem Ins.onea (x : Ins) : x.cs.toArray.all (·.oneCell') = true := by simp [Ins.cs, Value.oneCell']
theorem size42 : (Try.prog.info? 42).map (·.size) = some 5 := by kernel_rfl
theorem load42 (c : Ins) : (Try.prog.info? 42).map (·.size) = some c.cs.length := size42
/-- What is reckoned of two numbers. -/
def ariZ (op a b : Int) : Int := if op = 4 then wrap64 (a + b) else if op = 5 then wrap64 (a - b) else if op = 6 then wrap64 (a * b) else if b = 0 then 0 else wrap64 (a.tdiv b)
/-- Is nothing reckoned? -/
def ariN (op b : Int) : Bool := op == 7 && b == 0
/-- The thread behind an instruction that reckons. -/
def recT (x : Th) (i : Ins) : Th := if ariN i.op (regI x i.c).n = true then { x with st := 1 } else setI x i.a ⟨ariZ i.op (regI x i.b).n (regI x i.c).n, 0, 0⟩
/-- The thread behind a jump. -/
def jmpT (x : Th) (i : Ins) (b : Bool) : Th := if b = true then { x with pc := i.n } else x
/-- Does the instruction touch nothing that is shared? -/
def locB (i : Ins) : Bool := inB i.op 1 10
/-- The thread behind such an instruction. -/
def locT (x : Th) (i : Ins) : Th :=
  if i.op = 1 then { x with st := 1 }
  else if i.op = 2 then setI x i.a ⟨i.n, 0, 0⟩
  else if i.op = 3 then setI x i.a (regI x i.b)
  else if i.op = 4 ∨ i.op = 5 ∨ i.op = 6 ∨ i.op = 7 then recT x i
  else if i.op = 8 then jmpT x i true
  else if i.op = 9 then jmpT x i ((regI x i.a).n == 0)
  else if i.op = 10 then jmpT x i ((regI x i.a).n == (regI x i.b).n)
  else x
/-- The thread that has started an instruction. -/
def stT (x : Th) : Th := { x with pc := wrap64 (x.pc + 1), fu := wrap64 (x.fu - 1) }
section
variable (x : Th) (se bg sn : Sl)
theorem reg_put (k : Nat) : (x.put se bg sn).reg k = x.reg k := by
  unfold Th.reg
  split <;> rfl
theorem regI_put (r : Int) : regI (x.put se bg sn) r = regI x r := by
  unfold regI
  rw [reg_put]
theorem setR_put (k : Nat) (v : Wd) : (x.put se bg sn).setR k v = (x.setR k v).put se bg sn := by
  unfold Th.setR
  split <;> rfl
theorem setI_put (r : Int) (v : Wd) : setI (x.put se bg sn) r v = (setI x r v).put se bg sn := by
  unfold setI
  split
  · exact setR_put x se bg sn _ v
  · rfl
theorem recT_put (i : Ins) : recT (x.put se bg sn) i = (recT x i).put se bg sn := by
  unfold recT
  rw [regI_put, regI_put]
  split
  · rfl
  · exact setI_put x se bg sn _ _
theorem jmpT_put (i : Ins) (b : Bool) : jmpT (x.put se bg sn) i b = (jmpT x i b).put se bg sn := by
  unfold jmpT
  split <;> rfl
theorem locT_put (i : Ins) : locT (x.put se bg sn) i = (locT x i).put se bg sn := by
  unfold locT
  rw [regI_put, regI_put]
  split
  · rfl
  split
  · exact setI_put x se bg sn _ _
  split
  · exact setI_put x se bg sn _ _
  split
  · exact recT_put x se bg sn i
  split
  · exact jmpT_put x se bg sn i _
  split
  · exact jmpT_put x se bg sn i _
  split
  · exact jmpT_put x se bg sn i _
  · rfl
end
theorem put_put (x : Th) (a b c a' b' c' : Sl) : (x.put a b c).put a' b' c' = x.put a' b' c' := rfl
/-- What stays. -/
theorem setR_st (x : Th) (k : Nat) (v : Wd) : (x.setR k v).st = x.st ∧ (x.setR k v).fu = x.fu ∧ (x.setR k v).k = x.k ∧ (x.setR k v).se = x.se ∧ (x.setR k v).bg = x.bg ∧ (x.setR k v).sn = x.sn := by
  unfold Th.setR
  split <;> exact ⟨rfl, rfl, rfl, rfl, rfl, rfl⟩
theorem setI_st (x : Th) (r : Int) (v : Wd) : (setI x r v).fu = x.fu ∧ (setI x r v).k = x.k ∧ (setI x r v).se = x.se ∧ (setI x r v).bg = x.bg ∧ (setI x r v).sn = x.sn := by
  unfold setI
  split
  · exact (setR_st x _ v).2
  · exact ⟨rfl, rfl, rfl, rfl, rfl⟩
theorem recT_st (x : Th) (i : Ins) : (recT x i).fu = x.fu ∧ (recT x i).k = x.k ∧ (recT x i).se = x.se ∧ (recT x i).bg = x.bg ∧ (recT x i).sn = x.sn := by
  unfold recT
  split
  · exact ⟨rfl, rfl, rfl, rfl, rfl⟩
  · exact setI_st x _ _
theorem jmpT_st (x : Th) (i : Ins) (b : Bool) : (jmpT x i b).fu = x.fu ∧ (jmpT x i b).k = x.k ∧ (jmpT x i b).se = x.se ∧ (jmpT x i b).bg = x.bg ∧ (jmpT x i b).sn = x.sn := by
  unfold jmpT
  split <;> exact ⟨rfl, rfl, rfl, rfl, rfl⟩
theorem locT_st (x : Th) (i : Ins) : (locT x i).fu = x.fu ∧ (locT x i).k = x.k ∧ (locT x i).se = x.se ∧ (locT x i).bg = x.bg ∧ (locT x i).sn = x.sn := by
  unfold locT
  split
  · exact ⟨rfl, rfl, rfl, rfl, rfl⟩
  split
  · exact setI_st x _ _
  split
  · exact setI_st x _ _
  split
  · exact recT_st x i
  split
  · exact jmpT_st x i _
  split
  · exact jmpT_st x i _
  split
  · exact jmpT_st x i _
  · exact ⟨rfl, rfl, rfl, rfl, rfl⟩
/-- A register in memory. -/
theorem reg_len (v : Wd) : (Try.prog.info? 25).map (·.size) = some v.cs.length := size25
theorem reg_range {w : World} {g : Nat} {x : Th} (h : Blk w g 32 x.cs.toArray) {k : Nat} (hk : k < 4) : w.rangeAt g (3 + k * 3) (x.reg k).cs := by
  rcases (show k = 0 ∨ k = 1 ∨ k = 2 ∨ k = 3 by omega) with rfl | rfl | rfl | rfl <;> exact range_part h _ _ rfl
theorem reg_there {w : World} {g : Nat} {x : Th} (h : Blk w g 32 x.cs.toArray) {k : Nat} (hk : k < 4) : w.there g (3 + k * 3) 3 := there_blk h _ _ (by rw [Th.size]; omega)
theorem reg_splice (x : Th) (v : Wd) {k : Nat} (hk : k < 4) : splice x.cs.toArray (3 + k * 3) v.cs = (x.setR k v).cs.toArray := by
  rcases (show k = 0 ∨ k = 1 ∨ k = 2 ∨ k = 3 by omega) with rfl | rfl | rfl | rfl <;> rfl
theorem inB_nat {r : Int} (h : inB r 0 3 = true) : ∃ k : Nat, r = (k : Int) ∧ k < 4 ∧ r.toNat = k := by
  simp only [inB, Bool.and_eq_true, decide_eq_true_eq] at h
  exact ⟨r.toNat, by omega, by omega, rfl⟩
end Go.Proofs.Ytcajoekmigkhjaa
