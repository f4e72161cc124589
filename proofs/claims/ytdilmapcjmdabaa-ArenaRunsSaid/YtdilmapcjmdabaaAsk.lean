/- What an arena tells: a field, what is found, the cells, the row, the mark. Conditions: at most 1000 changes. -/
import Derived.Test.YtdilmapcjmdabaaTake
import Derived.Test.YtdilmapcjmdabaaStore
import Derived.Test.YtdilmapcjmdabaaCopies
namespace Go.Proofs.Ytdilmapcjmdabaa
open Go.ChangeShapes Go.WideShapes Go.RowKit
/-- A field's word. -/
def loadM (s : Sta) (k f : Int) : Option Wd := match s.cel k with
  | some c => if f = 0 then some c.x else if f = 1 then some c.y else none
  | none => none
/-- What is found through a word. -/
def findM (s : Sta) (x : Wd) : Int := if 1 ≤ x.c then (match s.cel x.c with
  | some c => if c.s = 0 ∨ c.g ≠ x.g then 1 else if c.s = 1 then 2 else 3
  | none => 0) else 0
def optW : Option Wd → Value
  | none => .tuple #[.agg #[.int .i64 0, .int .i64 0, .int .i64 0], .bool false]
  | some x => .tuple #[.agg x.cs.toArray, .bool true]
section
variable {w w' : World} {p : Nat} {L : Lim} {s : Sta} {H : His} {P : List Chg}
theorem load_no {k f : Int} {v : Value} (h : ∀ W, Below w.heap.size w W → Calls Try.prog 36 #[v, .int .i64 k] W fun e w' => e = .returned (.bool false) ∧ W = w') :
    Calls Try.prog 13 #[v, .int .i64 k, .int .i64 f] w fun e w' => e = .returned (optW none) ∧ Below w.heap.size w w' := by
  obtain ⟨W1, eW1⟩ : ∃ W, W = w.alloc (.cells #[.int .i64 0, .int .i64 0, .int .i64 0] 24) := ⟨_, rfl⟩
  have hb1 : Below w.heap.size w W1 := by rw [eW1]; exact (Below.refl _ w).alloc (Nat.le_refl _) _
  have hB : Blk W1 w.heap.size 24 #[.int .i64 0, .int .i64 0, .int .i64 0] := by rw [eW1]; exact heap_alloc_new w _
  go_enter Try.func13, Try.ntmps13
  go_wp2_with fail
  rw [← eW1]
  clear eW1
  refine (h W1 hb1).mono ?_
  rintro e w' ⟨rfl, rfl⟩
  go_wp2_with fail
  refine (plain_zero W1).mono ?_
  rintro e w2 ⟨rfl, hb2⟩
  have hB2 := hB.on hb2
  go_wp2_with (refine wpList_store_row rfl 24 (.tmp 6) (.tmp 17) rfl w.heap.size #[.int .i64 0, .int .i64 0, .int .i64 0] rfl rfl 24 #[.int .i64 0, .int .i64 0, .int .i64 0] hB2 size24 rfl (by simp [Value.oneCell']) ?_)
  refine bodyPost_ret (res_two (p := 6) (q := 7) (by kernel_rfl) _ _ w.heap.size #[.int .i64 0, .int .i64 0, .int .i64 0] _ rfl rfl (load24 (setRow_heap _ _ _ _ _ _ hB2))) rfl ?_
  exact ⟨rfl, below_setRow (hb1.trans (hb2.mono hb1.size)) (Nat.le_refl _) _⟩
theorem load_wide {k f : Int} {v : Value} (hf : (decide (0 ≤ f) && decide (f ≤ 1)) = false) (h : ∀ W, Below w.heap.size w W → Calls Try.prog 36 #[v, .int .i64 k] W fun e w' => e = .returned (.bool true) ∧ W = w') :
    Calls Try.prog 13 #[v, .int .i64 k, .int .i64 f] w fun e w' => e = .returned (optW none) ∧ Below w.heap.size w w' := by
  obtain ⟨W1, eW1⟩ : ∃ W, W = w.alloc (.cells #[.int .i64 0, .int .i64 0, .int .i64 0] 24) := ⟨_, rfl⟩
  have hb1 : Below w.heap.size w W1 := by rw [eW1]; exact (Below.refl _ w).alloc (Nat.le_refl _) _
  have hB : Blk W1 w.heap.size 24 #[.int .i64 0, .int .i64 0, .int .i64 0] := by rw [eW1]; exact heap_alloc_new w _
  have hfa := field_any f W1
  rw [hf] at hfa
  clear hf
  go_enter Try.func13, Try.ntmps13
  go_wp2_with fail
  rw [← eW1]
  clear eW1
  refine (h W1 hb1).mono ?_
  rintro e w' ⟨rfl, rfl⟩
  go_wp2_with fail
  refine hfa.mono ?_
  rintro e w' ⟨rfl, rfl⟩
  go_wp2_with fail
  refine (plain_zero W1).mono ?_
  rintro e w2 ⟨rfl, hb2⟩
  have hB2 := hB.on hb2
  go_wp2_with (refine wpList_store_row rfl 24 (.tmp 6) (.tmp 17) rfl w.heap.size #[.int .i64 0, .int .i64 0, .int .i64 0] rfl rfl 24 #[.int .i64 0, .int .i64 0, .int .i64 0] hB2 size24 rfl (by simp [Value.oneCell']) ?_)
  refine bodyPost_ret (res_two (p := 6) (q := 7) (by kernel_rfl) _ _ w.heap.size #[.int .i64 0, .int .i64 0, .int .i64 0] _ rfl rfl (load24 (setRow_heap _ _ _ _ _ _ hB2))) rfl ?_
  exact ⟨rfl, below_setRow (hb1.trans (hb2.mono hb1.size)) (Nat.le_refl _) _⟩
set_option maxRecDepth 100000 in
theorem load_at {k f : Int} {x : Wd} {c : Cel} (h : Are w p L s.C s.R P) (hI : Inv s) (hc : s.cel k = some c) (hf : (decide (0 ≤ f) && decide (f ≤ 1)) = true) (hx : ∀ W, (Instr.index 43 (.agg (c.x.cs ++ c.y.cs).toArray) (.int .i64 f)).run Try.prog W = .ok (.agg x.cs.toArray) W) :
    Calls Try.prog 13 #[.pointer (some ⟨p, 0, none⟩), .int .i64 k, .int .i64 f] w fun e w' => e = .returned (optW (some x)) ∧ Below w.heap.size w w' := by
  obtain ⟨W1, eW1⟩ : ∃ W, W = w.alloc (.cells #[.int .i64 0, .int .i64 0, .int .i64 0] 24) := ⟨_, rfl⟩
  have hb1 : Below w.heap.size w W1 := by rw [eW1]; exact (Below.refl _ w).alloc (Nat.le_refl _) _
  have hB : Blk W1 w.heap.size 24 #[.int .i64 0, .int .i64 0, .int .i64 0] := by rw [eW1]; exact heap_alloc_new w _
  have hfa := field_any f W1
  rw [hf] at hfa
  clear hf
  have h1 := h.below hb1
  have hh1 := has_any h1 k
  rw [has_some h1 hc] at hh1
  have a1 := h1.at1
  have hfd := field4 c
  generalize (c.x.cs ++ c.y.cs).toArray = xy at *
  go_enter Try.func13, Try.ntmps13
  go_wp2_with fail
  rw [← eW1]
  clear eW1
  refine hh1.mono ?_
  rintro e w' ⟨rfl, rfl⟩
  go_wp2_with fail
  refine hfa.mono ?_
  rintro e w' ⟨rfl, rfl⟩
  go_wp2_with fail
  refine (at_did h1 hI hc).mono ?_
  rintro e w2 ⟨rfl, hb2⟩
  have hB2 := hB.on hb2
  go_wp2_with (refine wpList_store_row rfl 24 (.tmp 6) (.tmp 26) rfl w.heap.size x.cs.toArray rfl rfl 24 #[.int .i64 0, .int .i64 0, .int .i64 0] hB2 size24 rfl x.one ?_)
  refine bodyPost_ret (res_two (p := 6) (q := 7) (by kernel_rfl) _ _ w.heap.size x.cs.toArray _ rfl rfl (load24 (setRow_heap _ _ _ _ _ _ hB2))) rfl ?_
  exact ⟨rfl, below_setRow (hb1.trans (hb2.mono hb1.size)) (Nat.le_refl _) _⟩
theorem load_any (k f : Int) (h : Are w p L s.C s.R P) (hI : Inv s) : Calls Try.prog 13 #[.pointer (some ⟨p, 0, none⟩), .int .i64 k, .int .i64 f] w fun e w' => e = .returned (optW (loadM s k f)) ∧ Below w.heap.size w w' := by
  cases hc : s.cel k with
  | none =>
    have e : loadM s k f = none := by unfold loadM; rw [hc]
    rw [e]
    exact load_no fun W hW => by
      have := has_any (h.below hW) k
      rw [has_none (h.below hW) hc] at this
      exact this
  | some c =>
    by_cases f0 : f = 0
    · have e : loadM s k f = some c.x := by unfold loadM; rw [hc]; exact if_pos f0
      rw [e]
      subst f0
      exact load_at h hI hc rfl (index0 c.x c.y)
    · by_cases f1 : f = 1
      · have e : loadM s k f = some c.y := by unfold loadM; rw [hc]; simp only [if_neg f0]; exact if_pos f1
        rw [e]
        subst f1
        exact load_at h hI hc rfl (index1 c.x c.y)
      · have e : loadM s k f = none := by unfold loadM; rw [hc]; simp only [if_neg f0]; exact if_neg f1
        rw [e]
        exact load_wide (by simp; omega) fun W hW => by
          have := has_any (h.below hW) k
          rw [has_some (h.below hW) hc] at this
          exact this

theorem mark_any (h : Are w p L s.C s.R P) : Calls Try.prog 27 #[.pointer (some ⟨p, 0, none⟩)] w fun e w' => e = .returned (.int .i64 (P.length : Int)) ∧ w = w' := by
  have a0 := h.at0
  have hc := count_any h.past
  rw [← h.lenP] at hc
  generalize P.length = q at hc
  go_enter Try.func27, Try.ntmps27
  go_wp2_with fail
  refine (made_some a0).mono ?_
  rintro e w' ⟨rfl, rfl⟩
  go_wp2_with fail
  refine hc.mono ?_
  rintro e w' ⟨rfl, rfl⟩
  go_wp2
  go_ret
  exact ⟨rfl, rfl⟩
theorem mark_no {v : Value} (h : Calls Try.prog 41 #[v] w fun e w' => e = .returned (.bool false) ∧ w = w') : Calls Try.prog 27 #[v] w fun e w' => e = .returned (.int .i64 0) ∧ w = w' := by
  go_enter Try.func27, Try.ntmps27
  go_wp2_with fail
  refine h.mono ?_
  rintro e w' ⟨rfl, rfl⟩
  go_wp2
  go_ret
  exact ⟨rfl, rfl⟩
theorem cells_any (h : Are w p L s.C s.R P) (hn : L.n ≤ 1000) : Calls Try.prog 18 #[.pointer (some ⟨p, 0, none⟩)] w (Cloned 45 10 L.n (flatC s.C) w) := by
  have a0 := h.at0
  have a1 := h.at1
  have c0 : w.cell? ⟨L.ps, 0, none⟩ = some (.slice L.Ac L.n L.cc) := h.stock.box.cell 0
  go_enter Try.func18, Try.ntmps18
  go_wp2_with fail
  refine (made_some a0).mono ?_
  rintro e w' ⟨rfl, rfl⟩
  go_wp2_with fail
  refine (clone43 h.stock.oc (flat_one Cel.one _) hn).mono ?_
  rintro e w1 ⟨A, cap, rfl, ho, hb⟩
  go_wp2
  go_ret
  exact ⟨A, cap, rfl, ho, hb⟩
theorem cells_no {v : Value} (h : Calls Try.prog 41 #[v] w fun e w' => e = .returned (.bool false) ∧ w = w') : Calls Try.prog 18 #[v] w fun e w' => e = .returned (.slice none 0 0) ∧ w = w' := by
  go_enter Try.func18, Try.ntmps18
  go_wp2_with fail
  refine h.mono ?_
  rintro e w' ⟨rfl, rfl⟩
  go_wp2
  go_ret
  exact ⟨rfl, rfl⟩
theorem ahead_any {ps cc n cr m : Nat} {Ac Ar : Option Addr} {C : List Cel} {R : List Int} (h : Stk w ps Ac cc n Ar cr m C R) (hm : m ≤ 1000) : Calls Try.prog 42 #[.pointer (some ⟨ps, 0, none⟩)] w (Cloned 3 1 m (ints R) w) := by
  have c1 : w.cell? ⟨ps, 1, none⟩ = some (.slice Ar m cr) := h.box.cell 1
  go_enter Try.func42, Try.ntmps42
  go_wp2_with fail
  refine (clone56 h.or (flat_one (fun x => by simp [Value.oneCell']) _) hm).mono ?_
  rintro e w1 ⟨A, cap, rfl, ho, hb⟩
  go_wp2_with fail
  refine (reverse_any ho hm hb.size).mono ?_
  rintro e w2 ⟨rfl, ho2, hb2⟩
  rw [List.reverse_reverse] at ho2
  go_wp2
  go_ret
  exact ⟨A, cap, rfl, ho2, hb.trans hb2⟩
theorem list_any (h : Are w p L s.C s.R P) (hm : L.m ≤ 1000) : Calls Try.prog 17 #[.pointer (some ⟨p, 0, none⟩)] w (Cloned 3 1 L.m (ints s.R) w) := by
  have a0 := h.at0
  have a1 := h.at1
  go_enter Try.func17, Try.ntmps17
  go_wp2_with fail
  refine (made_some a0).mono ?_
  rintro e w' ⟨rfl, rfl⟩
  go_wp2_with fail
  refine (ahead_any h.stock hm).mono ?_
  rintro e w1 ⟨A, cap, rfl, ho, hb⟩
  go_wp2
  go_ret
  exact ⟨A, cap, rfl, ho, hb⟩
theorem list_no {v : Value} (h : Calls Try.prog 41 #[v] w fun e w' => e = .returned (.bool false) ∧ w = w') : Calls Try.prog 17 #[v] w fun e w' => e = .returned (.slice none 0 0) ∧ w = w' := by
  go_enter Try.func17, Try.ntmps17
  go_wp2_with fail
  refine h.mono ?_
  rintro e w' ⟨rfl, rfl⟩
  go_wp2
  go_ret
  exact ⟨rfl, rfl⟩
end
end Go.Proofs.Ytdilmapcjmdabaa
