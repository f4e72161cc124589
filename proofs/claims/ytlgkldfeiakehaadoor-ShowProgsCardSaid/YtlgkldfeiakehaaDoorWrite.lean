/- A program's text as octets; what the closure that writes a line does. Conditions: lines of at most 1000 octets. -/
import Derived.Test.YtlgkldfeiakehaaDoorInI
namespace Go.Proofs.YtlgkldfeiakehaaDoor
open Go.RowKit Nine

/-! ### a program's text -/
def lineI (x : Ins) : List UInt8 := lineZ x.o x.a x.b x.c x.n
def linesT (xs : List Ins) : List UInt8 := xs.flatMap fun x => lineI x ++ [10]
def wThread : List UInt8 := [116, 104, 114, 101, 97, 100]
def wFirst : List UInt8 := [119, 97, 114, 114, 101, 110, 101, 114]
def textT (xs : List Ins) : List UInt8 := wThread ++ [10] ++ linesT xs
def headL (r c s : Int) : List UInt8 := joinL [wFirst, Lib.itoa r, Lib.itoa c, Lib.itoa s] ++ [10]
def textM (xss : List (List Ins)) : List UInt8 := xss.flatMap textT
def textP (r c s : Int) (xss : List (List Ins)) : List UInt8 := headL r c s ++ textM xss
theorem linesT_snoc (xs : List Ins) (x : Ins) : linesT (xs ++ [x]) = linesT xs ++ lineI x ++ [10] := by simp [linesT]
theorem textM_snoc (xss : List (List Ins)) (xs : List Ins) : textM (xss ++ [xs]) = textM xss ++ textT xs := by simp [textM]
theorem lineI_short {x : Ins} (h : WideI x) : (lineI x).length ≤ 110 := lineZ_short h.1 h.2.1 h.2.2.1 h.2.2.2
theorem linesT_short : ∀ (xs : List Ins), (∀ x ∈ xs, WideI x) → (linesT xs).length ≤ 111 * xs.length
  | [], _ => by simp [linesT]
  | x :: t, h => by
    have h1 := lineI_short (h x (by simp))
    have h2 := linesT_short t fun y hy => h y (List.mem_cons_of_mem _ hy)
    have e : linesT (x :: t) = lineI x ++ [10] ++ linesT t := by simp [linesT]
    rw [e]
    simp only [List.length_append, List.length_cons, List.length_nil, Nat.mul_add]
    omega
theorem textT_short (xs : List Ins) (h : ∀ x ∈ xs, WideI x) (hl : xs.length ≤ 16) : (textT xs).length ≤ 1783 := by
  have h1 := linesT_short xs h
  have h2 : 111 * xs.length ≤ 111 * 16 := Nat.mul_le_mul_left _ hl
  unfold textT wThread
  simp only [List.length_append, List.length_cons, List.length_nil]
  omega
theorem textM_short : ∀ (xss : List (List Ins)), (∀ xs ∈ xss, (∀ x ∈ xs, WideI x) ∧ xs.length ≤ 16) → (textM xss).length ≤ 1783 * xss.length
  | [], _ => by simp [textM]
  | x :: t, h => by
    have h1 := textT_short x (h x (by simp)).1 (h x (by simp)).2
    have h2 := textM_short t fun y hy => h y (List.mem_cons_of_mem _ hy)
    have e : textM (x :: t) = textT x ++ textM t := by simp [textM]
    rw [e, List.length_append, List.length_cons, Nat.mul_add]
    omega
theorem head_short {r c s : Int} (hr : Wide r) (hc : Wide c) (hs : Wide s) : (joinL [wFirst, Lib.itoa r, Lib.itoa c, Lib.itoa s]).length ≤ 110 := by
  have h1 := itoa_short hr
  have h2 := itoa_short hc
  have h3 := itoa_short hs
  unfold wFirst
  simp only [joinL, List.length_append, List.length_cons, List.length_nil]
  omega

/-! ### the closure -/
theorem build_on {B b : Nat} {bs : List Value} {w w' : World} (h : Lib.IsBuilder 51 5 B b bs w) (hb : Below w.heap.size w w') : Lib.IsBuilder 51 5 B b bs w' := by
  rcases h with ⟨h1, v, h2, h3, h4⟩ | ⟨h1, v, h2, h3, h4⟩
  · exact .inl ⟨h1, v, (hb.block b (Array.getElem?_eq_some_iff.1 h2).1).trans h2, own_below h3 hb, h4⟩
  · exact .inr ⟨h1, v, (hb.block b (Array.getElem?_eq_some_iff.1 h2).1).trans h2, own_below h3 hb, h4⟩
theorem below_base {B b : Nat} {bs : List Value} {w : World} (h : Lib.IsBuilder 51 5 B b bs w) : B ≤ w.heap.size := by
  rcases h with ⟨h1, v, h2, _⟩ | ⟨h1, v, h2, _⟩
  · exact Nat.le_trans h1 (Nat.le_of_lt (Array.getElem?_eq_some_iff.1 h2).1)
  · exact Nat.le_trans h1 (Nat.le_of_lt (Array.getElem?_eq_some_iff.1 h2).1)
def Wrote (B b : Nat) (q : List UInt8) (w : World) (e : Ending) (w' : World) : Prop := e = .returned (.tuple #[]) ∧ Lib.IsBuilder 51 5 B b (cellsB q) w' ∧ Below B w w'
set_option maxRecDepth 100000 in
theorem write_line (B b : Nat) (q : List UInt8) (A : Option Addr) (n cap : Nat) (xs : List (List UInt8)) (w : World) (h : Lib.IsBuilder 51 5 B b (cellsB q) w) (hR : Row w w.heap.size A n cap xs) (hn : n ≤ 1000) (hx : ∀ x ∈ xs, x.length ≤ 1000) (hj : (joinL xs).length ≤ 1000) (hq : q.length ≤ 100000) :
    Calls Tryd.prog 25 #[.slice A n cap, .pointer (some ⟨b, 0, none⟩)] w (Wrote B b (q ++ joinL xs ++ [10]) w) := by
  have hJ := join_any A n cap xs w hR hn hx
  have hB := below_base h
  generalize joinL xs = y at *
  go_enter Tryd.func25, Tryd.ntmps25
  go_wp2_with fail
  refine hJ.mono ?_
  rintro e w1 ⟨rfl, hb1⟩
  have h1 := build_on h hb1
  have q1 : Below B w w1 := hb1.mono hB
  go_wp2_with fail
  refine (write_any B b q y w1 h1 (by omega) hj (by have := hb1.size; omega)).mono ?_
  rintro e w2 ⟨v2, rfl, h2, hb2⟩
  have q2 := q1.trans hb2
  go_wp2_with fail
  refine (write_any B b (q ++ y) [10] w2 h2 (by rw [List.length_append]; omega) (by decide) (below_base h2)).mono ?_
  rintro e w3 ⟨v3, rfl, h3, hb3⟩
  go_wp2
  go_end0
  exact ⟨rfl, h3, q2.trans hb3⟩
end Go.Proofs.YtlgkldfeiakehaaDoor
