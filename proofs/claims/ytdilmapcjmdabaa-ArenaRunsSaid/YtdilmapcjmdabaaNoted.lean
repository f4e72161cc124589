/- The books so far: a book is noted where its mark is new. Conditions: at most 1000 books. -/
import Derived.Test.YtdilmapcjmdabaaBoth
set_option linter.unusedSimpArgs false
namespace Go.Proofs.Ytdilmapcjmdabaa
open Go.ChangeShapes Go.WideShapes Go.RowKit
/-- A book: where its lists lie, its mark. -/
abbrev Bok := Rim × Int
def Bok.cs (b : Bok) : List Value := [.slice b.1.Ac b.1.n b.1.cc, .slice b.1.Ar b.1.m b.1.cr, .int .i64 b.2]
theorem Bok.len (b : Bok) : b.cs.length = 3 := rfl
def boks (l : List Bok) : List Value := l.flatMap Bok.cs
theorem bok_one (b : Bok) : ∀ u ∈ b.cs, u.oneCell' = true := by
  intro u hu
  simp [Bok.cs] at hu
  rcases hu with rfl | rfl | rfl <;> rfl
theorem slice53 (r : Rim) (M : Int) (w : World) : (Instr.buildSlice 53 1 #[(0, .agg (r.bk M))]).run Try.prog w = .ok (.slice (some ⟨w.heap.size, 0, none⟩) 1 1) (w.alloc (.cells (r.bk M) 34)) := by kernel_rfl
theorem wpList_build {ops : Array Oper} {rest : List Oper} {op : Oper} {a : Act} {w : World} {Q : Exit → Act → World → Prop} (hgd : op.guard = none) (t : TypeId) (len : Nat) (x : Operand) (ho : op.op = .buildSlice t len #[(0, x)])
    (v r : Value) (W : World) (hx : a.eval x = v) (hr : (Instr.buildSlice t len #[(0, v)]).run Try.prog w = .ok r W)
    (h : wpList Try.prog ops Q rest (a.put op.dst r) W) : wpList Try.prog ops Q (op :: rest) a w :=
  wpList_plain hgd fun K hK => by
    unfold Oper.wp execOp
    simp only [ho, Sem.run_bind, List.map_toArray, List.map_cons, List.map_nil, hx, hr, Result.andThen_ok]
    exact hK _ _ h
/-- What a call of 'noted' gives. -/
def Notes (w : World) (A : Option Addr) (l : List Bok) (e : Ending) (w' : World) : Prop :=
  ∃ A' c', e = .returned (.slice A' l.length c') ∧ w'.ownsRow 0 34 3 (.slice A' l.length c') l.length (boks l) ∧ Kept (lies A) w w' ∧ ∀ g, lies A' g → lies A g ∨ w.heap.size ≤ g
set_option maxRecDepth 100000 in
set_option maxHeartbeats 1000000 in
theorem noted_any {w : World} {A : Option Addr} {n c : Nat} {l : List Bok} (r : Rim) (M : Int) (ho : w.ownsRow 0 34 3 (.slice A n c) n (boks l)) (hn : n ≤ 1000) (hl : l.length = n) :
    Calls Try.prog 20 #[.slice A n c, .agg (r.bk M)] w (Notes w A (if M = (n : Int) then l ++ [(r, M)] else l)) := by
  obtain ⟨i0, hi, hz0, hz1, hz2⟩ := info_parts info34
  obtain ⟨q, eq⟩ : ∃ q, q = w.heap.size := ⟨_, rfl⟩
  obtain ⟨W0, eW0⟩ : ∃ W, W = w.alloc (.cells (r.bk M) 34) := ⟨_, rfl⟩
  have hb0 : Below w.heap.size w W0 := by rw [eW0]; exact (Below.refl _ w).alloc (Nat.le_refl _) _
  have B0 : Blk W0 q 34 (r.bk M) := by rw [eW0, eq]; exact heap_alloc_new w _
  have q2 : W0.cell? ⟨q, 2, none⟩ = some (.int .i64 M) := B0.cell 2
  have ho0 : W0.ownsRow 0 34 3 (.slice A n c) n (boks l) := by rw [eW0]; exact ho.alloc _
  by_cases hM : M = (n : Int)
  · rw [if_pos hM]
    have t0 : (M == (n : Int)) = true := by simpa using hM
    obtain ⟨W1, eW1⟩ : ∃ W, W = W0.alloc (.cells (r.bk M) 34) := ⟨_, rfl⟩
    have hb1 : Below W0.heap.size W0 W1 := by rw [eW1]; exact (Below.refl _ W0).alloc (Nat.le_refl _) _
    have ho1 : W1.ownsRow 0 34 3 (.slice A n c) n (boks l) := by rw [eW1]; exact ho0.alloc _
    have B1 : Blk W1 W0.heap.size 34 (r.bk M) := by rw [eW1]; exact heap_alloc_new W0 _
    have hsl := slice53 r M W0
    rw [← eW1] at hsl
    have hk : (l ++ [(r, M)]).length = n + 1 := by rw [List.length_append, hl]; rfl
    have HM := Lib.hid hM
    have HK := Lib.hid hk
    have E1 := Lib.hid eW1
    clear hM hl hk eW1
    go_enter Try.func20, Try.ntmps20
    go_upto_region 1 with fail
    rw [← eW0, ← eq]
    have EQ := Lib.hid eq
    clear eW0 eq
    have qr : W0.heap[q]? = some (.cells (r.bk M) 34 (0, 0)) := B0
    go_wp2_with (first
      | (refine wpList_load_row rfl 34 (.tmp 3) rfl q rfl 34 (r.bk M) (0, 0) _ qr Try.underlying34 rfl (sz34 r _) ?_)
      | (refine wpList_build rfl 53 1 (.tmp 11) rfl (.agg (r.bk M)) _ W1 rfl hsl ?_)
      | (at_builtin; refine wpList_append_lies _ rfl _ _ 53 rfl 0 34 i0 (.agg #[.slice none 0 0, .slice none 0 0, .int .i64 0]) 3 56 Try.underlying53 hi hz0 hz1 hz2 rfl (by decide) (.slice A n c) n (boks l) rfl ho1 ⟨W0.heap.size, 0, none⟩ 1 1 (Bok.cs (r, M)) rfl rfl (World.news_of_block (cs := r.bk M) (t := 34) (fr := (0, 0)) B1) (bok_one _) (by decide) (by unfold maxLen; omega) (by omega) (Nat.zero_le _) W1.heap.size rfl ?_))
    intro g cp w' hown hgrow hat hlt
    have hK := HK.out
    rw [← hK] at hown ⊢
    clear hK
    go_wp2
    go_ret
    have kg := kept_grown hgrow
    have hsz := hb0.size
    have hsz1 := hb1.size
    refine ⟨some ⟨g, 0, none⟩, cp, rfl, by rw [show boks (l ++ [(r, M)]) = boks l ++ Bok.cs (r, M) by simp [boks]]; exact hown, ((kept_below (lies A) (hb0.trans (hb1.mono hb0.size))).next kg (fun g' e => .inl ((own_lies A n c g').1 e))), fun g' hg' => ?_⟩
    have e2 : g = g' := by simpa [lies] using hg'
    subst e2
    rcases hat with hat | hat
    · exact .inl ((own_lies A n c _).1 hat)
    · exact .inr (by omega)
  · rw [if_neg hM]
    have t0 : (M == (n : Int)) = false := by simpa using hM
    subst hl
    clear hM
    go_enter Try.func20, Try.ntmps20
    go_upto_region 1 with fail
    rw [← eW0, ← eq]
    clear eW0 eq
    go_wp2
    go_ret
    exact ⟨A, c, rfl, ho0, kept_below _ hb0, fun g hg => .inl hg⟩
end Go.Proofs.Ytdilmapcjmdabaa
