/- A program's text as octets; what the closure that writes a line does. Conditions: lines of at most 1000 octets. -/
import Derived.Test.YtodklfjoeehinaaDoorInI
namespace Go.Proofs.YtodklfjoeehinaaDoor
open Go.RowKit Nine

/-! ### a program's text -/
def lineI (x : Ins) : List UInt8 := lineZ x.o x.a x.b x.c x.n
def linesT (xs : List Ins) : List UInt8 := xs.flatMap fun x => lineI x ++ [10]
def wThread : List UInt8 := [116, 104, 114, 101, 97, 100]
def wFirst : List UInt8 := [119, 97, 114, 114, 101, 110, 101, 114]
def textT (xs : List Ins) : List UInt8 := wThread ++ [10] ++ linesT xs
def headL (r c s : Int) : List UInt8 := joinL [wFirst, Lib.itoa r, Lib.itoa c, Lib.itoa s] ++ [10]
def textM (xss : List (List Ins)) : List UInt8 := xss.flatMap textT
def textP (r c s : Int) (xss : List (List Ins)) : List UInt8 := headL r c s ++ textM xss
theorem linesT_snoc (xs : List Ins) (x : Ins) : linesT (xs ++ [x]) = linesT xs ++ lineI x ++ [10] := by simp [linesT]
theorem textM_snoc (xss : List (List Ins)) (xs : List Ins) : textM (xss ++ [xs]) = textM xss ++ textT xs := by simp [textM]
theorem lineI_short {x : Ins} (h : WideI x) : (lineI x).length ≤ 110 := lineZ_short h.1 h.2.1 h.2.2.1 h.2.2.2
theorem linesT_short : ∀ (xs : List Ins), (∀ x ∈ xs, WideI x) → (linesT xs).length ≤ 111 * xs.length
  | [], _ => by simp [linesT]
  | x :: t, h => by
    have h1 := lineI_short (h x (by simp))
    have h2 := linesT_short t fun y hy => h y (List.mem_cons_of_mem _ hy)
    have e : linesT (x :: t) = lineI x ++ [10] ++ linesT t := by simp [linesT]
    rw [e]
    simp only [List.length_append, List.length_cons, List.length_nil, Nat.mul_add]
    omega
theorem textT_short (xs : List Ins) (h : ∀ x ∈ xs, WideI x) (hl : xs.length ≤ 16) : (textT xs).length ≤ 1783 := by
  have h1 := linesT_short xs h
  have h2 : 111 * xs.length ≤ 111 * 16 := Nat.mul_le_mul_left _ hl
  unfold textT wThread
  simp only [List.length_append, List.length_cons, List.length_nil]
  omega
theorem textM_short : ∀ (xss : List (List Ins)), (∀ xs ∈ xss, (∀ x ∈ xs, WideI x) ∧ xs.length ≤ 16) → (textM xss).length ≤ 1783 * xss.length
  | [], _ => by simp [textM]
  | x :: t, h => by
    have h1 := textT_short x (h x (by simp)).1 (h x (by simp)).2
    have h2 := textM_short t fun y hy => h y (List.mem_cons_of_mem _ hy)
    have e : textM (x :: t) = textT x ++ textM t := by simp [textM]
    rw [e, List.length_append, List.length_cons, Nat.mul_add]
    omega
theorem head_short {r c s : Int} (hr : Wide r) (hc : Wide c) (hs : Wide s) : (joinL [wFirst, Lib.itoa r, Lib.itoa c, Lib.itoa s]).length ≤ 110 := by
  have h1 := itoa_short hr
  have h2 := itoa_short hc
  have h3 := itoa_short hs
  unfold wFirst
  simp only [joinL, List.length_append, List.length_cons, List.length_nil]
  omega

/-! ### the closure -/
end Go.Proofs.YtodklfjoeehinaaDoor
