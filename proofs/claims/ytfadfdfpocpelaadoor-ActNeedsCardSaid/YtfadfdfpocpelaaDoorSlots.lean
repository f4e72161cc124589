/- Threads by value: twenty-two cells. Conditions: none. -/
import Derived.Test.YtfadfdfpocpelaaDoorFBase
import Derived.Deep.QuietTactic
namespace Go.Proofs.YtfadfdfpocpelaaDoor
open Go.RowKit Go.ChangeShapes Go.WideShapes

/-- A program; what its code holds is not read. -/
structure Pg where
  r : Int
  c : Int
  s : Int
  co : Sl
def Pg.cs (x : Pg) : List Value := [.int .i64 x.r, .int .i64 x.c, .int .i64 x.s, x.co.v]
theorem Pg.onea (x : Pg) : x.cs.toArray.all (·.oneCell') = true := by simp [Pg.cs, Sl.v, Value.oneCell']
theorem size39 : (Tryd.prog.info? 39).map (·.size) = some 4 := by kernel_rfl
structure Pg.Ok (x : Pg) : Prop where
  room : x.co.n ≤ x.co.cap
  most : x.co.cap ≤ maxLen
end Go.Proofs.YtfadfdfpocpelaaDoor
namespace Go.Proofs.YtfadfdfpocpelaaDoor
open Go.RowKit Go.ChangeShapes Go.WideShapes

set_option maxRecDepth 100000 in
theorem each_any (sl : Int) (w : World) : Calls Tryd.prog 65 #[.int .i64 sl] w fun e w' => e = .returned (.int .i64 (cl sl 2)) ∧ w = w' := by
  go_enter Tryd.func65, Tryd.ntmps65
  go_wp2_with (go_at_call 80; refine (clamp_any sl 2 _).mono ?_; rintro e w' ⟨rfl, rfl⟩)
  go_ret
  exact ⟨rfl, rfl⟩
theorem all_of (th sl : Int) : 0 ≤ cl th 4 * cl sl 2 ∧ cl th 4 * cl sl 2 ≤ 8 := by
  obtain ⟨a, b⟩ := cl_of th 4 (by omega)
  obtain ⟨c, d⟩ := cl_of sl 2 (by omega)
  refine ⟨Int.mul_nonneg a c, ?_⟩
  have h1 : cl th 4 * cl sl 2 ≤ 4 * cl sl 2 := Int.mul_le_mul_of_nonneg_right b c
  omega
set_option maxRecDepth 100000 in
theorem count_any (th sl : Int) (w : World) : Calls Tryd.prog 64 #[.int .i64 th, .int .i64 sl] w fun e w' => e = .returned (.int .i64 (cl th 4 * cl sl 2)) ∧ w = w' := by
  obtain ⟨h0, h8⟩ := all_of th sl
  have c1 := clamp_any th 4 w
  have c2 := each_any sl w
  generalize cl th 4 = n at *
  generalize cl sl 2 = m at *
  have t1 : (-9223372036854775808 : Int) ≤ n * m := by omega
  have t2 : n * m ≤ 9223372036854775807 := by omega
  go_enter Tryd.func64, Tryd.ntmps64
  go_wp2_with (first | (go_at_call 80; refine c1.mono ?_; rintro e w' ⟨rfl, rfl⟩) | (go_at_call 65; refine c2.mono ?_; rintro e w' ⟨rfl, rfl⟩))
  go_ret
  exact ⟨rfl, rfl⟩
theorem res7 (tmps : Array Value) (w : World) (g : Nat) (x : Pl) (u : Value) (hp : tmps[6]?.getD undef = .pointer (some ⟨g, 0, none⟩)) (hu : tmps[7]?.getD undef = u) (hg : Blk w g 23 x.cs.toArray) :
    (results Tryd.f55 tmps).run Tryd.prog w = .ok (.tuple #[.agg x.cs.toArray, u]) w := by
  have hr : Tryd.f55.results = #[.cell 6 23, .tmp 7] := by kernel_rfl
  rw [results_cell_tmp hr]
  have h2 : tmps.getD 6 undef = .pointer (some ⟨g, 0, none⟩) := by simpa using hp
  have h3 : tmps.getD 7 undef = u := by simpa using hu
  rw [h2, h3]
  have hl := run_loadVar_row w g 23 23 x.cs.toArray (0, 0) _ hg Tryd.underlying23 rfl size23
  simp [asAddr, Result.andThen, hl]
/-- Is there an i-th slot, and where is it? -/
def slotB (i th sl : Int) : Bool := decide (0 ≤ i) && decide (i < cl th 4 * cl sl 2)
def slotP (i th sl : Int) : Pl := if slotB i th sl = true then ⟨5, i / cl sl 2, i % cl sl 2⟩ else noP
set_option maxRecDepth 100000 in
set_option maxHeartbeats 2000000 in
theorem slot_any (i th sl : Int) (w : World) : Calls Tryd.prog 55 #[.int .i64 i, .int .i64 th, .int .i64 sl] w fun e w' => e = .returned (.tuple #[.agg (slotP i th sl).cs.toArray, .bool (slotB i th sl)]) ∧ Below w.heap.size w w' := by
  obtain ⟨h0, h8⟩ := all_of th sl
  obtain ⟨P, eP⟩ : ∃ P, slotP i th sl = P := ⟨_, rfl⟩
  obtain ⟨b, eb⟩ : ∃ b, slotB i th sl = b := ⟨_, rfl⟩
  rw [eP, eb]
  unfold slotP at eP
  rw [eb] at eP
  unfold slotB at eb
  have c1 : ∀ W, _ := fun W => count_any th sl W
  have c2 : ∀ W, _ := fun W => each_any sl W
  obtain ⟨s0, s2⟩ := cl_of sl 2 (by omega)
  have ho : b = true → 1 ≤ cl sl 2 := fun h => by
    rw [h] at eb
    simp only [Bool.and_eq_true, decide_eq_true_eq] at eb
    rcases Int.lt_or_le (cl sl 2) 1 with hs | hs
    · have e0 : cl sl 2 = 0 := by omega
      rw [e0, Int.mul_zero] at eb
      omega
    · exact hs
  generalize cl th 4 * cl sl 2 = M at *
  generalize cl sl 2 = S at *
  have c3 : ∀ W, _ := fun W => in_any i 0 (M - 1) W
  have e3 : inB i 0 (M - 1) = b := by
    rw [← eb]
    unfold inB
    congr 1
    exact decide_eq_decide.2 (by omega)
  rw [e3] at c3
  have t1 : (-9223372036854775808 : Int) ≤ M - 1 := by omega
  have t2 : M - 1 ≤ 9223372036854775807 := by omega
  cases b with
  | false =>
    simp only [Bool.false_eq_true, if_false] at eP
    subst eP
    clear eb e3 ho
    go_enter Tryd.func55, Tryd.ntmps55
    go_wp2_with (first | (go_at_call 64; refine (c1 _).mono ?_; rintro e w' ⟨rfl, rfl⟩) | (go_at_call 11; refine (c3 _).mono ?_; rintro e w' ⟨rfl, rfl⟩))
    refine bodyPost_ret (res7 _ _ w.heap.size noP (.bool false) rfl rfl (heap_alloc_new w _)) rfl ?_
    exact ⟨rfl, (Below.refl _ w).alloc (Nat.le_refl _) _⟩
  | true =>
    have ho1 := ho rfl
    simp only [if_true] at eP
    simp only [Bool.and_eq_true, decide_eq_true_eq] at eb
    obtain ⟨i0, iM⟩ := eb
    have z0 : (S == 0) = false := by simpa using (show S ≠ 0 by omega)
    clear e3 ho
    go_enter Tryd.func55, Tryd.ntmps55
    go_wp2_with (first | (go_at_call 64; refine (c1 _).mono ?_; rintro e w' ⟨rfl, rfl⟩) | (go_at_call 11; refine (c3 _).mono ?_; rintro e w' ⟨rfl, rfl⟩) | (go_at_call 65; refine (c2 _).mono ?_; rintro e w' ⟨rfl, rfl⟩))
    subst eP
    go_region
    go_wp2
    refine bodyPost_ret (res7 _ _ w.heap.size ⟨5, i / S, i % S⟩ (.bool true) rfl rfl (heap_alloc_new w _)) rfl ?_
    exact ⟨rfl, below_dn ((Below.refl _ w).alloc (Nat.le_refl _) _) 1⟩
end Go.Proofs.YtfadfdfpocpelaaDoor
namespace Go.Proofs.YtfadfdfpocpelaaDoor
open Go.RowKit Go.ChangeShapes Go.WideShapes

def thrZ (p : Pg) : Int := cl p.co.n 4
def sloZ (p : Pg) : Int := cl p.co.n 4 * cl p.s 2
theorem Pg.n63 {p : Pg} (h : p.Ok) : (p.co.n : Int) ≤ 9223372036854775807 := by
  have := h.room
  have := h.most
  unfold maxLen at this
  omega
set_option maxRecDepth 100000 in
set_option maxHeartbeats 4000000 in
theorem threads_any (p : Pg) (h : p.Ok) (w : World) : Calls Tryd.prog 66 #[.agg p.cs.toArray] w fun e w' => e = .returned (.int .i64 (thrZ p)) ∧ Below w.heap.size w w' := by
  have hn := Pg.n63 h
  have e0 : thrZ p = if (4 : Int) < p.co.n then 4 else (p.co.n : Int) := by unfold thrZ cl; rw [if_neg (by omega)]
  rw [e0]
  obtain ⟨p1, f1⟩ : ∃ p, w.heap.size = p := ⟨_, rfl⟩
  obtain ⟨W1, ea1⟩ : ∃ W, w.alloc (.cells p.cs.toArray 39) = W := ⟨_, rfl⟩
  have ka1 : Below w.heap.size w W1 := by rw [← ea1]; exact (Below.refl _ w).alloc (Nat.le_refl _) _
  have b1 : Blk W1 p1 39 p.cs.toArray := by rw [← ea1]; exact blk_new w _ 39 _ f1
  have kk : Below w.heap.size w W1 := ka1
  have hp1 : w.heap.size ≤ p1 := Nat.le_of_eq f1
  clear ka1
  by_cases h4 : (4 : Int) < p.co.n
  · have c1_1_3 : W1.cell? ⟨p1, 3, none⟩ = some (.slice p.co.A p.co.n p.co.cap) := b1.cell 3
    have t0 : decide ((4 : Int) < (p.co.n : Int)) = true := decide_eq_true h4
    rw [if_pos h4]
    have t1 : min (p.co.n : Int) 4 = 4 := by omega
    go_enter Tryd.func66, Tryd.ntmps66
    go_wp2
    go_ret
    first | exact ⟨rfl, kk⟩ | (rw [f1] at kk; exact ⟨rfl, kk⟩)
  · have c1_1_3 : W1.cell? ⟨p1, 3, none⟩ = some (.slice p.co.A p.co.n p.co.cap) := b1.cell 3
    have t0 : decide ((4 : Int) < (p.co.n : Int)) = false := decide_eq_false h4
    rw [if_neg h4]
    have t1 : min (p.co.n : Int) 4 = (p.co.n : Int) := by omega
    go_enter Tryd.func66, Tryd.ntmps66
    go_wp2
    go_ret
    first | exact ⟨rfl, kk⟩ | (rw [f1] at kk; exact ⟨rfl, kk⟩)
theorem thr_of (p : Pg) : 0 ≤ thrZ p ∧ thrZ p ≤ 4 := cl_of _ 4 (by omega)
end Go.Proofs.YtfadfdfpocpelaaDoor
