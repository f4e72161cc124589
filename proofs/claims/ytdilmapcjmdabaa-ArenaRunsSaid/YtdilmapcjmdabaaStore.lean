/- A cell is written. Conditions: at most 1000 changes. -/
import Derived.Test.YtdilmapcjmdabaaTake
namespace Go.Proofs.Ytdilmapcjmdabaa
open Go.ChangeShapes Go.WideShapes Go.RowKit
section
variable {w w' : World} {p : Nat} {L : Lim} {s : Sta} {H : His}
theorem put0 (c : Cel) (x : Wd) : splice c.cs.toArray 4 x.cs = (Cel.cs { c with x := x }).toArray := rfl
theorem put1 (c : Cel) (x : Wd) : splice c.cs.toArray 7 x.cs = (Cel.cs { c with y := x }).toArray := rfl
theorem there_blk {g : Nat} {t : TypeId} {cs : Array Value} (h : Blk w g t cs) (o n : Nat) (hn : o + n ≤ cs.size) : w.there g o n := fun j hj =>
  ⟨by rw [h.cell, Array.getElem?_eq_getElem (by omega)]; rfl, h.free _⟩
theorem range_blk {g : Nat} {t : TypeId} {cs : List Value} (h : Blk w g t cs.toArray) : w.rangeAt g 0 cs := fun j v hv => by
  rw [Nat.zero_add, h.cell]
  simpa using hv
theorem load24m (x : Wd) : (Try.prog.info? 24).map (·.size) = some x.cs.length := size24
theorem Wd.one (x : Wd) : x.cs.toArray.all (·.oneCell') = true := by simp [Wd.cs, Value.oneCell']
theorem Cel.onea (c : Cel) : c.cs.toArray.all (·.oneCell') = true := by simp [Cel.cs, Value.oneCell']

set_option maxRecDepth 100000 in
theorem store_no {k f : Int} {x : Wd} {v : Value} (h : ∀ W, Below w.heap.size w W → Calls Try.prog 36 #[v, .int .i64 k] W fun e w' => e = .returned (.bool false) ∧ W = w') :
    Calls Try.prog 26 #[v, .int .i64 k, .int .i64 f, .agg x.cs.toArray] w fun e w' => e = .returned (.bool false) ∧ Below w.heap.size w w' := by
  obtain ⟨W1, eW1⟩ : ∃ W, W = w.alloc (.cells x.cs.toArray 24) := ⟨_, rfl⟩
  have hb1 : Below w.heap.size w W1 := by rw [eW1]; exact (Below.refl _ w).alloc (Nat.le_refl _) _
  go_enter Try.func26, Try.ntmps26
  go_wp2_with fail
  rw [← eW1]
  clear eW1
  refine (h W1 hb1).mono ?_
  rintro e w' ⟨rfl, rfl⟩
  go_wp2
  go_ret
  exact ⟨rfl, hb1⟩
set_option maxRecDepth 100000 in
theorem store_wide {k f : Int} {x : Wd} {v : Value} (hf : (decide (0 ≤ f) && decide (f ≤ 1)) = false) (h : ∀ W, Below w.heap.size w W → Calls Try.prog 36 #[v, .int .i64 k] W fun e w' => e = .returned (.bool true) ∧ W = w') :
    Calls Try.prog 26 #[v, .int .i64 k, .int .i64 f, .agg x.cs.toArray] w fun e w' => e = .returned (.bool false) ∧ Below w.heap.size w w' := by
  obtain ⟨W1, eW1⟩ : ∃ W, W = w.alloc (.cells x.cs.toArray 24) := ⟨_, rfl⟩
  have hb1 : Below w.heap.size w W1 := by rw [eW1]; exact (Below.refl _ w).alloc (Nat.le_refl _) _
  have hfa := field_any f W1
  rw [hf] at hfa
  clear hf
  go_enter Try.func26, Try.ntmps26
  go_wp2_with fail
  rw [← eW1]
  clear eW1
  refine (h W1 hb1).mono ?_
  rintro e w' ⟨rfl, rfl⟩
  go_wp2_with fail
  refine hfa.mono ?_
  rintro e w' ⟨rfl, rfl⟩
  go_wp2
  go_ret
  exact ⟨rfl, hb1⟩

set_option maxRecDepth 100000 in
set_option maxHeartbeats 1000000 in
theorem store_at {k f : Int} {o : Nat} {x : Wd} {c to : Cel} (h : Ara w p L s H) (hI : Inv s) (hh : H.length ≤ 1000) (hc : s.cel k = some c) (hm : Can s ⟨k, c, to⟩) (hf : f = 0 ∧ o = 4 ∨ f = 1 ∧ o = 7) (hp : splice c.cs.toArray o x.cs = to.cs.toArray) :
    Calls Try.prog 26 #[.pointer (some ⟨p, 0, none⟩), .int .i64 k, .int .i64 f, .agg x.cs.toArray] w fun e w' => e = .returned (.bool true) ∧ Did w p L s H (some ⟨k, c, to⟩) w' := by
  obtain ⟨z, ez⟩ : ∃ z, z = w.heap.size := ⟨_, rfl⟩
  obtain ⟨W1, eW1⟩ : ∃ W, W = w.alloc (.cells x.cs.toArray 24) := ⟨_, rfl⟩
  have hb1 : Below w.heap.size w W1 := by rw [eW1]; exact (Below.refl _ w).alloc (Nat.le_refl _) _
  have hx : Blk W1 w.heap.size 24 x.cs.toArray := by rw [eW1]; exact heap_alloc_new w _
  rw [← ez] at hx
  have h1 := h.below hb1
  have hh1 := has_any h1 k
  rw [has_some h1 hc] at hh1
  have hfa := field_any f W1
  have hft : (decide (0 ≤ f) && decide (f ≤ 1)) = true := by rcases hf with ⟨rfl, _⟩ | ⟨rfl, _⟩ <;> decide
  rw [hft] at hfa
  have a1 := h1.at1
  clear hft
  go_enter Try.func26, Try.ntmps26
  go_wp2_with fail
  rw [← eW1, ← ez]
  clear eW1
  have EZ := Lib.hid ez
  clear ez
  refine hh1.mono ?_
  rintro e w' ⟨rfl, rfl⟩
  go_wp2_with fail
  refine hfa.mono ?_
  rintro e w' ⟨rfl, rfl⟩
  go_wp2_with fail
  refine (at_did h1 hI hc).mono ?_
  rintro e w2 ⟨rfl, hb2⟩
  have h2 := h1.below hb2
  have hx2 := hx.on hb2
  have hB : Blk (w2.alloc (.cells noC.cs.toArray 45)) w2.heap.size 45 noC.cs.toArray := heap_alloc_new w2 _
  obtain ⟨w3, ew3⟩ : ∃ W, W = (w2.alloc (.cells noC.cs.toArray 45)).setRow w2.heap.size c.cs.toArray := ⟨_, rfl⟩
  have hb3 : Below w2.heap.size w2 w3 := by rw [ew3]; exact below_setRow ((Below.refl _ w2).alloc (Nat.le_refl _) _) (Nat.le_refl _) _
  have hB3 : Blk w3 w2.heap.size 45 c.cs.toArray := by rw [ew3]; exact setRow_heap _ _ _ _ _ _ hB
  have hx3 := hx2.on hb3
  have h3 := h2.below hb3
  have hB4 : Blk (w3.setCells w2.heap.size o x.cs.toArray.toList) w2.heap.size 45 to.cs.toArray := by rw [← hp]; exact heap_cells x.cs o w3 _ hB3
  have hb4 : Below w2.heap.size w2 (w3.setCells w2.heap.size o x.cs.toArray.toList) := hb3.trans ((kept_cells w2.heap.size x.cs o w3).under _ hb3.size (fun k e => by omega))
  have hth : w3.there w2.heap.size o 3 := there_blk hB3 o 3 (by rcases hf with ⟨_, rfl⟩ | ⟨_, rfl⟩ <;> simp [Cel.cs])
  have hbw : Below w.heap.size w (w3.setCells w2.heap.size o x.cs.toArray.toList) := (hb1.trans (hb2.mono hb1.size)).trans (hb4.mono (Nat.le_trans hb1.size hb2.size))
  have h4 : Ara (w3.setCells w2.heap.size o x.cs.toArray.toList) p L s H := h.below hbw
  have HT := Lib.hid (turn_did h4 hI hm hh)
  have HP := Lib.hid hp
  clear hp hh1 hfa hb1 hb2 hb3 hb4 h1 h2 h3 h hm
  rcases hf with ⟨rfl, rfl⟩ | ⟨rfl, rfl⟩
  all_goals (
    go_wp2_with (first
      | (refine wpList_store_row rfl 45 (.tmp 9) (.tmp 24) rfl w2.heap.size c.cs.toArray rfl rfl 45 noC.cs.toArray hB size45 rfl c.onea ?_
         show wpList _ _ _ _ _ ((w2.alloc (.cells noC.cs.toArray 45)).setRow w2.heap.size c.cs.toArray)
         rw [← ew3]
         clear ew3 hB)
      | (refine wpList_load_row rfl 24 (.tmp 7) rfl z rfl 24 x.cs.toArray (0, 0) _ hx3 Try.underlying24 rfl size24 ?_)
      | (refine wpList_store_mid rfl 24 (.tmp 28) (.tmp 26) rfl w2.heap.size _ x.cs.toArray rfl rfl hth size24 x.one ?_)
      | (refine wpList_load_row rfl 45 (.tmp 9) rfl w2.heap.size rfl 45 to.cs.toArray (0, 0) _ hB4 Try.underlying45 rfl size45 ?_))
    refine HT.out.mono ?_
    rintro e w4 ⟨rfl, hT⟩
    go_wp2
    go_ret
    exact ⟨rfl, hT.from_ hbw⟩)

theorem store_any {k f : Int} {x : Wd} (h : Ara w p L s H) (hI : Inv s) (hh : H.length ≤ 1000) :
    Calls Try.prog 26 #[.pointer (some ⟨p, 0, none⟩), .int .i64 k, .int .i64 f, .agg x.cs.toArray] w fun e w' => e = .returned (.bool (stoM s k f x).isSome) ∧ Did w p L s H (stoM s k f x) w' := by
  cases hc : s.cel k with
  | none =>
    have e : stoM s k f x = none := by unfold stoM; rw [hc]
    rw [e]
    refine (store_no fun W hW => by
      have := has_any (h.below hW) k
      rw [has_none (h.below hW) hc] at this
      exact this).mono ?_
    rintro e w' ⟨rfl, hb⟩
    exact ⟨rfl, are_to h hb⟩
  | some c =>
    by_cases f0 : f = 0
    · have e : stoM s k f x = some ⟨k, c, { c with x := x }⟩ := by unfold stoM; rw [hc]; exact if_pos f0
      have := can_sto hI e
      rw [e]
      exact store_at h hI hh hc this (.inl ⟨f0, rfl⟩) (put0 c x)
    · by_cases f1 : f = 1
      · have e : stoM s k f x = some ⟨k, c, { c with y := x }⟩ := by unfold stoM; rw [hc]; simp only [if_neg f0]; exact if_pos f1
        have := can_sto hI e
        rw [e]
        exact store_at h hI hh hc this (.inr ⟨f1, rfl⟩) (put1 c x)
      · have e : stoM s k f x = none := by unfold stoM; rw [hc]; simp only [if_neg f0]; exact if_neg f1
        rw [e]
        refine (store_wide (by simp; omega) fun W hW => by
          have := has_any (h.below hW) k
          rw [has_some (h.below hW) hc] at this
          exact this).mono ?_
        rintro e w' ⟨rfl, hb⟩
        exact ⟨rfl, are_to h hb⟩
end
end Go.Proofs.Ytdilmapcjmdabaa
