/- How the laws' arguments came in: a program by value, an instruction by value, and a slice of octets. Conditions: none. -/
import Derived.Test.YtfadfdfpocpelaaGreatDoorPFew
import Derived.Deep.Slices
import Derived.ProofKit
import Derived.OpenShut
import Derived.ChangeOld
import Derived.Below
namespace Go.Proofs.YtfadfdfpocpelaaGreatDoor.P
open Go.RowKit Go.ChangeShapes Go.WideShapes Go.Deep

/-- Of 64 bits. -/
def Wide (x : Ins) : Prop := (Lit.int .i64 x.n).wf = true
theorem array5 {α : Type} {cs : Array α} (h : cs.size = 5) : ∃ c0 c1 c2 c3 c4, cs = #[c0, c1, c2, c3, c4] := by
  obtain ⟨l⟩ := cs
  match l, h with
  | [c0, c1, c2, c3, c4], _ => exact ⟨c0, c1, c2, c3, c4, rfl⟩
theorem array4 {α : Type} {cs : Array α} (h : cs.size = 4) : ∃ c0 c1 c2 c3, cs = #[c0, c1, c2, c3] := by
  obtain ⟨l⟩ := cs
  match l, h with
  | [c0, c1, c2, c3], _ => exact ⟨c0, c1, c2, c3, rfl⟩
theorem cells45 : Tryz.prog.cellsOf 49 = 5 := by kernel_rfl
theorem sz46 : Tryz.prog.cellsOf 45 = 1 := by kernel_rfl
theorem sz24 : Tryz.prog.cellsOf 24 = 4 := by kernel_rfl
theorem cells22 : Tryz.prog.cellsOf 22 = 1 := by kernel_rfl
theorem cells3 : Tryz.prog.cellsOf 3 = 1 := by kernel_rfl
theorem cells2 : Tryz.prog.cellsOf 2 = 1 := by kernel_rfl
theorem five_trod {H : Type} {enc : TypeId × Value → H} {w : World} {base : Nat} {spare : Nat → Bool} {held : Bool} {fuel : Nat} {c0 c1 c2 c3 c4 : Value} {x : DataW H × List MemPlace}
    (hf : DataW.trod enc Tryz.prog w base spare held fuel 49 [c0, c1, c2, c3, c4] = some x) : ∃ z : Ins, (c0 = .int .i64 z.o ∧ c1 = .int .i64 z.a ∧ c2 = .int .i64 z.b ∧ c3 = .int .i64 z.c ∧ c4 = .int .i64 z.n) ∧ Wide z := by
  obtain ⟨ys, k, _, _, _, hyl, hat⟩ := DataW.trod_struct Tryz.underlying49 hf
  match ys, hyl with
  | [y0, y1, y2, y3, y4], _ =>
    have f0 : DataW.trod enc Tryz.prog w base spare held k 3 (([c0, c1, c2, c3, c4].drop 0).take (Tryz.prog.cellsOf 3)) = some y0 := hat 0 _ rfl
    have f1 : DataW.trod enc Tryz.prog w base spare held k 3 (([c0, c1, c2, c3, c4].drop 1).take (Tryz.prog.cellsOf 3)) = some y1 := hat 1 _ rfl
    have f2 : DataW.trod enc Tryz.prog w base spare held k 3 (([c0, c1, c2, c3, c4].drop 2).take (Tryz.prog.cellsOf 3)) = some y2 := hat 2 _ rfl
    have f3 : DataW.trod enc Tryz.prog w base spare held k 3 (([c0, c1, c2, c3, c4].drop 3).take (Tryz.prog.cellsOf 3)) = some y3 := hat 3 _ rfl
    have f4 : DataW.trod enc Tryz.prog w base spare held k 2 (([c0, c1, c2, c3, c4].drop 4).take (Tryz.prog.cellsOf 2)) = some y4 := hat 4 _ rfl
    rw [cells3] at f0 f1 f2 f3
    rw [cells2] at f4
    obtain ⟨z0, e0, _, _⟩ := DataW.trod_int Tryz.underlying3 f0
    obtain ⟨z1, e1, _, _⟩ := DataW.trod_int Tryz.underlying3 f1
    obtain ⟨z2, e2, _, _⟩ := DataW.trod_int Tryz.underlying3 f2
    obtain ⟨z3, e3, _, _⟩ := DataW.trod_int Tryz.underlying3 f3
    obtain ⟨z4, e4, _, w4⟩ := DataW.trod_int Tryz.underlying2 f4
    simp at e0 e1 e2 e3 e4
    subst e0 e1 e2 e3 e4
    exact ⟨⟨z0, z1, z2, z3, z4⟩, ⟨rfl, rfl, rfl, rfl, rfl⟩, w4⟩
theorem list_of {α : Type} {n : Nat} {p : Nat → α → Prop} (h : ∀ i, i < n → ∃ x, p i x) : ∃ l : List α, l.length = n ∧ ∀ i x, l[i]? = some x → p i x := by
  induction n with
  | zero => exact ⟨[], rfl, fun i x hx => by simp at hx⟩
  | succ n ih =>
    obtain ⟨l, hl, hp⟩ := ih fun i hi => h i (by omega)
    obtain ⟨x, hx⟩ := h n (by omega)
    refine ⟨l ++ [x], by rw [List.length_append, hl]; rfl, fun i y hy => ?_⟩
    rcases Nat.lt_or_ge i n with hi | hi
    · rw [List.getElem?_append_left (by omega)] at hy
      exact hp i y hy
    · have : i = n := by
        have := (List.getElem?_eq_some_iff.1 hy).1
        rw [List.length_append, hl] at this
        simp at this
        omega
      subst this
      rw [← hl, List.getElem?_concat_length] at hy
      injection hy with hy
      exact hy ▸ hx
theorem lst_in {H : Type} {enc : TypeId × Value → H} {w : World} {base : Nat} {held : Bool} {fuel : Nat} {v : Value} {x : DataW H × List MemPlace}
    (h : DataW.trod enc Tryz.prog w base (fun _ => true) held fuel 45 [v] = some x) : ∃ A n cap xs, v = .slice A n cap ∧ Lst w (fun g => g < w.heap.size) A n cap xs ∧ ∀ y ∈ xs, Wide y := by
  rcases open_slice Tryz.underlying45 h with ⟨hcs, _⟩ | ⟨a, len, cap, m, n', D, Pl, hcs, hb, hl, hm, hmm, hx, hi⟩
  · simp at hcs
    subst hcs
    exact ⟨none, 0, 0, [], rfl, Lst.nil _ _, fun y hy => by cases hy⟩
  · simp at hcs
    subst hcs
    have hlm : len ≤ m := by rw [hmm]; simpa using hl
    have each : ∀ i, i < len → ∃ z : Ins, (w.cell? (a.add (i * 5)) = some (.int .i64 z.o) ∧ w.cell? ((a.add (i * 5)).add 1) = some (.int .i64 z.a) ∧ w.cell? ((a.add (i * 5)).add 2) = some (.int .i64 z.b) ∧ w.cell? ((a.add (i * 5)).add 3) = some (.int .i64 z.c) ∧ w.cell? ((a.add (i * 5)).add 4) = some (.int .i64 z.n)) ∧ Wide z := by
      intro i hin
      obtain ⟨cs, hc, ht⟩ := hi i (by omega)
      rw [cells45] at hc
      obtain ⟨_, hcl, hat⟩ := World.cells?_some hc
      match cs, hcl with
      | [c0, c1, c2, c3, c4], _ =>
        obtain ⟨z, ⟨rfl, rfl, rfl, rfl, rfl⟩, hw⟩ := five_trod ht
        exact ⟨z, ⟨by simpa [Addr.add] using hat 0 (by omega), by simpa using hat 1 (by omega), by simpa using hat 2 (by omega), by simpa using hat 3 (by omega), by simpa using hat 4 (by omega)⟩, hw⟩
    obtain ⟨xs, hxl, hxs⟩ := list_of each
    refine ⟨some a, len, cap, xs, rfl, ⟨hxl, hl, hm, fun h => (by cases h), fun ad ha i y hy => ?_⟩, fun y hy => ?_⟩
    · injection ha with ha
      subst ha
      obtain ⟨⟨h0, h1, h2, h3, h4⟩, _⟩ := hxs i y hy
      obtain ⟨b, off, spot⟩ := a
      have hpos : 0 < xs.length := by have := (List.getElem?_eq_some_iff.1 hy).1; omega
      have hspot : spot = none := by simpa [Addr.add] using World.cell?_spot (hxs 0 _ (List.getElem?_eq_getElem hpos)).1.1
      subst hspot
      rw [plain_add] at h0 h1 h2 h3 h4
      rw [plain_add] at h1 h2 h3 h4
      exact ⟨b, off, rfl, World.block_lt_of_cell? w _ h0, ⟨h0, h1, h2, h3, h4⟩⟩
    · obtain ⟨i, hi⟩ := List.getElem?_of_mem hy
      exact (hxs i y hi).2
theorem mat_in {H : Type} {enc : TypeId × Value → H} {w : World} {base : Nat} {held : Bool} {fuel : Nat} {v : Value} {x : DataW H × List MemPlace}
    (h : DataW.trod enc Tryz.prog w base (fun _ => true) held fuel 22 [v] = some x) : ∃ A n cap xss, v = .slice A n cap ∧ Mat w (fun g => g < w.heap.size) A n cap xss ∧ ∀ l ∈ xss, ∀ y ∈ l, Wide y := by
  rcases open_slice1 Tryz.underlying22 sz46 h with ⟨hcs, _⟩ | ⟨a, len, cap, m, n', V, D, Pl, hcs, hb, hl, hm, hmm, hx, hi⟩
  · simp at hcs
    subst hcs
    exact ⟨none, 0, 0, [], rfl, Mat.nil _ _, fun y hy => by cases hy⟩
  · simp at hcs
    subst hcs
    have hlm : len ≤ m := by rw [hmm]; simpa using hl
    have each : ∀ i, i < len → ∃ l : List Ins, ∃ A' n2 cap', w.cell? (a.add i) = some (.slice A' n2 cap') ∧ Lst w (fun g => g < w.heap.size) A' n2 cap' l ∧ ∀ y ∈ l, Wide y := by
      intro i hin
      obtain ⟨hc, ht⟩ := hi i (by omega)
      obtain ⟨A', n2, cap', l, e, hL, hw⟩ := lst_in ht
      exact ⟨l, A', n2, cap', by rw [hc, e], hL, hw⟩
    obtain ⟨xss, hxl, hxs⟩ := list_of each
    refine ⟨some a, len, cap, xss, rfl, ⟨hxl, hl, hm, fun h => (by cases h), fun ad ha i l hy => ?_⟩, fun y hy => ?_⟩
    · injection ha with ha
      subst ha
      obtain ⟨A', n2, cap', hc, hL, _⟩ := hxs i l hy
      obtain ⟨b, off, spot⟩ := a
      have hpos : 0 < xss.length := by have := (List.getElem?_eq_some_iff.1 hy).1; omega
      obtain ⟨_, _, _, h00, _⟩ := hxs 0 _ (List.getElem?_eq_getElem hpos)
      have hspot : spot = none := by simpa [Addr.add] using World.cell?_spot h00
      subst hspot
      rw [plain_add] at hc
      exact ⟨b, off, A', n2, cap', rfl, World.block_lt_of_cell? w _ hc, hc, hL⟩
    · obtain ⟨i, hi⟩ := List.getElem?_of_mem hy
      obtain ⟨_, _, _, _, _, hw⟩ := hxs i y hi
      exact hw
set_option maxRecDepth 100000 in
/-- A program by value. -/
theorem prog_in {H : Type} {enc : TypeId × Value → H} {w : World} {r : Reach} {b0 base : Nat} {held : Bool} {v : Value} {d : DataW H} {p : List MemPlace}
    (hv : Value.okWide Tryz.prog w r b0 24 v) (h : DataW.Trod enc Tryz.prog w base (fun _ => true) held 24 v d p) : ∃ (r c s : Int) (A : Option Addr) (n cap : Nat) (xss : List (List Ins)), v = .agg #[.int .i64 r, .int .i64 c, .int .i64 s, .slice A n cap] ∧
      Mat w (fun g => g < w.heap.size) A n cap xss ∧ ∀ l ∈ xss, ∀ y ∈ l, Wide y := by
  obtain ⟨cs, rfl, hsz⟩ := okWide_struct Tryz.underlying24 hv
  obtain ⟨c0, c1, c2, c3, rfl⟩ := array4 (hsz.trans sz24)
  obtain ⟨fuel, hf⟩ := h
  obtain ⟨ys, k, _, _, _, hyl, hat⟩ := DataW.trod_struct Tryz.underlying24 hf
  match ys, hyl with
  | [y0, y1, y2, y3], _ =>
    have f0 : DataW.trod enc Tryz.prog w base (fun _ => true) held k 3 (([c0, c1, c2, c3].drop 0).take (Tryz.prog.cellsOf 3)) = some y0 := hat 0 _ rfl
    have f1 : DataW.trod enc Tryz.prog w base (fun _ => true) held k 3 (([c0, c1, c2, c3].drop 1).take (Tryz.prog.cellsOf 3)) = some y1 := hat 1 _ rfl
    have f2 : DataW.trod enc Tryz.prog w base (fun _ => true) held k 3 (([c0, c1, c2, c3].drop 2).take (Tryz.prog.cellsOf 3)) = some y2 := hat 2 _ rfl
    have f3 : DataW.trod enc Tryz.prog w base (fun _ => true) held k 22 (([c0, c1, c2, c3].drop 3).take (Tryz.prog.cellsOf 22)) = some y3 := hat 3 _ rfl
    rw [cells3] at f0 f1 f2
    rw [cells22] at f3
    obtain ⟨z0, e0, _, _⟩ := DataW.trod_int Tryz.underlying3 f0
    obtain ⟨z1, e1, _, _⟩ := DataW.trod_int Tryz.underlying3 f1
    obtain ⟨z2, e2, _, _⟩ := DataW.trod_int Tryz.underlying3 f2
    obtain ⟨A, n, cap, xss, e3, hM, hw⟩ := mat_in f3
    simp at e0 e1 e2
    subst e0 e1 e2 e3
    exact ⟨z0, z1, z2, A, n, cap, xss, rfl, hM, hw⟩
theorem low_in {w : World} (g : Nat) (h : (fun g => g < w.heap.size) g) : g < w.heap.size := h
end Go.Proofs.YtfadfdfpocpelaaGreatDoor.P
