/- The contract of prog's checkThread: the first error of a thread's instructions. Conditions: the variable 'rows' lies as it is laid. -/
import Derived.Test.YtfadfdfpocpelaaDoorPMats
namespace Go.Proofs.YtfadfdfpocpelaaDoor.P
open Go.RowKit

/-- What Check answers of an instruction, of a thread's, of all threads', of a program. -/
def chkI (x : Ins) (r s k : Int) : Int := chk x.o x.a x.b x.c x.n r s k
def chkT (r s k : Int) : List Ins → Int
  | [] => 0
  | x :: t => if chkI x r s k = 0 then chkT r s k t else chkI x r s k
def chkM (r s : Int) : List (List Ins) → Int
  | [] => 0
  | xs :: t => if chkT r s xs.length xs = 0 then chkM r s t else chkT r s xs.length xs
def okHead (r c s : Int) : Bool := decide (0 ≤ r ∧ r ≤ 4) && decide (0 ≤ c ∧ c ≤ 6) && decide (0 ≤ s ∧ s ≤ 2)
def long (xs : List Ins) : Bool := decide (16 < xs.length)
def chkP (r c s : Int) (xss : List (List Ins)) : Int :=
  if okHead r c s = false then 3 else if ¬ (1 ≤ xss.length ∧ xss.length ≤ 4) then 4 else if xss.any long = true then 4 else chkM r s xss

theorem chkT_at {r s k : Int} {xs : List Ins} {i : Nat} {x : Ins} (h : xs[i]? = some x) : chkT r s k (xs.drop i) = if chkI x r s k = 0 then chkT r s k (xs.drop (i + 1)) else chkI x r s k := by
  obtain ⟨hi, rfl⟩ := List.getElem?_eq_some_iff.1 h
  rw [List.drop_eq_getElem_cons hi]
  rfl
theorem chkM_at {r s : Int} {xss : List (List Ins)} {i : Nat} {xs : List Ins} (h : xss[i]? = some xs) : chkM r s (xss.drop i) = if chkT r s xs.length xs = 0 then chkM r s (xss.drop (i + 1)) else chkT r s xs.length xs := by
  obtain ⟨hi, rfl⟩ := List.getElem?_eq_some_iff.1 h
  rw [List.drop_eq_getElem_cons hi]
  rfl
/-- A program's block. -/
def prg (r c s : Int) (A : Option Addr) (n cap : Nat) : Array Value := #[.int .i64 r, .int .i64 c, .int .i64 s, .slice A n cap]

set_option maxRecDepth 100000 in
set_option maxHeartbeats 1000000 in
theorem checkThread_any {w : World} {S : Nat → Prop} {A : Option Addr} {n cap : Nat} {xs : List Ins} (h : Lst w S A n cap xs) (hS : ∀ g, S g → g < w.heap.size) (hL : Laid w) (r c s : Int) (B : Option Addr) (l m : Nat) :
    Calls Tryd.prog 21 #[.slice A n cap, .agg #[.int .i64 r, .int .i64 c, .int .i64 s, .slice B l m]] w fun e w' => e = .returned (.int .i64 (chkT r s n xs)) ∧ Below w.heap.size w w' := by
  have hm := len_i64 h.room h.most
  have hlen := Lib.hid h.len
  obtain ⟨W0, eW0⟩ : ∃ W0, W0 = w.alloc (.cells #[.int .i64 r, .int .i64 c, .int .i64 s, .slice B l m] 39) := ⟨_, rfl⟩
  have b0 : Below w.heap.size w W0 := by rw [eW0]; exact (Below.refl _ w).alloc (Nat.le_refl _) _
  have p0 : Blk W0 w.heap.size 39 #[.int .i64 r, .int .i64 c, .int .i64 s, .slice B l m] := by rw [eW0]; exact heap_alloc_new w _
  replace h := h.below b0 hS
  replace hS : ∀ g, S g → g < W0.heap.size := fun g hg => Nat.lt_of_lt_of_le (hS g hg) b0.size
  replace hL := hL.on b0
  go_enter Tryd.func21, Tryd.ntmps21
  go_wp2_with fail
  rw [← eW0]
  clear eW0
  go_wp2_with fail
  go_loopw [10] (fun i wr => ∃ k : Nat, i = .int .i64 k ∧ k ≤ n ∧ chkT r s n xs = chkT r s n (xs.drop k) ∧ Below W0.heap.size W0 wr) (fun i _ => n - (intOf i).toNat)
  case atStart => exact ⟨0, rfl, Nat.zero_le _, rfl, Below.refl _ _⟩
  case round =>
    obtain ⟨k, rfl, hk, hv, hb⟩ := hrel
    by_cases hlt : k < n
    · obtain ⟨g, off, x, rfl, hg, hx, hc⟩ := (h.below hb hS).at_ k hlt
      rw [chkT_at hx] at hv
      have HV := Lib.hid hv
      clear hv hx
      have a1 : Below wr.heap.size wr (wr.alloc (.cells #[.int .i64 x.o, .int .i64 x.a, .int .i64 x.b, .int .i64 x.c, .int .i64 x.n] 35)) := (Below.refl _ _).alloc (Nat.le_refl _) _
      have y1 := At5.new wr x.o x.a x.b x.c x.n
      have p1 := (p0.below hb p0.lt).below a1 (Nat.lt_of_lt_of_le p0.lt hb.size)
      have hC := check_any x.o x.a x.b x.c x.n r c s n B l m _ ((hL.on hb).on a1)
      obtain ⟨v, ev⟩ : ∃ v, chk x.o x.a x.b x.c x.n r s n = v := ⟨_, rfl⟩
      rw [ev] at hC
      have EV : Hid (chkI x r s n = v) := Lib.hid ev
      clear ev
      have q1 := hb.trans (a1.mono hb.size)
      obtain ⟨d0, d1, d2, d3, d4⟩ := id hc
      obtain ⟨f0, f1, f2, f3, f4⟩ := y1
      have z0 := p1.cell 0
      have z1 := p1.cell 1
      have z2 := p1.cell 2
      have z3 := p1.cell 3
      have t0 : decide ((k : Int) < (n : Int)) = true := decide_eq_true (by omega)
      have i0 : (0 : Int) ≤ (k : Int) := by omega
      have i1 : (k : Int) < (n : Int) := by omega
      clear p1 hc
      go_wp2_with fail
      refine hC.mono ?_
      rintro e w2 ⟨rfl, hb2⟩
      have q2 := q1.trans (hb2.mono q1.size)
      clear d0 d1 d2 d3 d4 f0 f1 f2 f3 f4 z0 z1 z2 z3 hC
      by_cases hv : v = 0
      · subst hv
        have HN : Hid (chkT r s n xs = chkT r s n (xs.drop (k + 1))) := Lib.hid (by rw [HV.out, if_pos EV.out])
        go_wp2
        go_roundw
        case rel => exact ⟨k + 1, by go_num, by omega, HN.out, q2⟩
        case measure => simp [intOf]; omega
      · have HN : Hid (chkT r s n xs = v) := Lib.hid (by rw [HV.out, if_neg (by rw [EV.out]; exact hv), EV.out])
        go_wp2
        go_ret
        exact ⟨by rw [HN.out]; rfl, b0.trans (q2.mono b0.size)⟩
    · have HN : Hid (chkT r s n xs = 0) := Lib.hid (by rw [hv, List.drop_eq_nil_of_le (by rw [hlen.out]; omega)]; rfl)
      clear hv
      have t0 : decide ((k : Int) < (n : Int)) = false := decide_eq_false (by omega)
      go_wp2
      go_ret
      exact ⟨by rw [HN.out]; rfl, b0.trans (hb.mono b0.size)⟩
end Go.Proofs.YtfadfdfpocpelaaDoor.P
