/- A cell is given out, taken back, retired, written. Conditions: at most 1000 changes. -/
import Derived.Test.YtdilmapcjmdabaaGive
import Derived.Test.YtdilmapcjmdabaaPure
namespace Go.Proofs.Ytdilmapcjmdabaa
open Go.ChangeShapes Go.WideShapes Go.RowKit

/-- An arena that stands as told, with its past. -/
abbrev Ara (w : World) (p : Nat) (L : Lim) (s : Sta) (H : His) : Prop := Are w p L s.C s.R H.chgs
/-- What an arena is behind a move. -/
abbrev Did (w : World) (p : Nat) (L : Lim) (s : Sta) (H : His) (m : Option Mov) (w' : World) : Prop := AreTo w p L (s.go m).C (s.go m).R (His.go H s m).chgs w'
section
variable {w w' : World} {p : Nat} {L : Lim} {s : Sta} {H : His}
theorem chgs_go (H : His) (s : Sta) (m : Mov) : (His.go H s (some m)).chgs = H.chgs ++ [⟨m.k, m.was⟩] := by simp [His.go, His.chgs]
theorem chgs_len (H : His) : H.chgs.length = H.length := by simp [His.chgs]
theorem Are.lenC {C : List Cel} {R : List Int} {P : List Chg} (h : Are w p L C R P) : C.length = L.n := h.stock.len
theorem Are.lenR {C : List Cel} {R : List Int} {P : List Chg} (h : Are w p L C R P) : R.length = L.m := h.stock.lenR
theorem Are.lenP {C : List Cel} {R : List Int} {P : List Chg} (h : Are w p L C R P) : P.length = L.h := h.past.len
theorem are_to {C : List Cel} {R : List Int} {P : List Chg} (h : Are w p L C R P) (hb : Below w.heap.size w w') : AreTo w p L C R P w' :=
  ⟨L, h.below hb, kept_below _ hb, fun _ e => .inl e⟩
theorem has_some {P : List Chg} (h : Are w p L s.C s.R P) {k : Int} {c : Cel} (hc : s.cel k = some c) : (decide (1 ≤ k) && decide (k ≤ (L.n : Int))) = true := by
  obtain ⟨j, h1, h2, h3, _⟩ := cel_some hc
  have := h.lenC
  simp
  omega
theorem has_none {P : List Chg} (h : Are w p L s.C s.R P) {k : Int} (hc : s.cel k = none) : (decide (1 ≤ k) && decide (k ≤ (L.n : Int))) = false := by
  have := cel_none.1 hc
  have := h.lenC
  simp
  omega
theorem turn_did {m : Mov} (h : Ara w p L s H) (hI : Inv s) (hm : Can s m) (hh : H.length ≤ 1000) :
    Calls Try.prog 52 #[.pointer (some ⟨p, 0, none⟩), .int .i64 m.k, .agg m.to.cs.toArray] w fun e w' => e = .returned (.tuple #[]) ∧ Did w p L s H (some m) w' := by
  obtain ⟨j, h1, h2, h3, h4⟩ := cel_some hm.at_
  have hn := h.lenC
  have hr := h.lenR
  have hp := h.lenP
  rw [chgs_len] at hp
  have := turn_any h (by have := hI.le; omega) (by have := hI.lenR; omega) (by omega) h1 h2 (fun e1 e2 e3 => by have := hm.head e1 e2; rw [e3] at this; cases this) (to := m.to)
  refine this.mono ?_
  rintro e w' ⟨rfl, hT⟩
  refine ⟨rfl, ?_⟩
  unfold Did
  rw [chgs_go]
  unfold Sta.go Sta.turn
  simp only [h4]
  exact hT
theorem at_did {P : List Chg} {k : Int} {c : Cel} (h : Are w p L s.C s.R P) (hI : Inv s) (hc : s.cel k = some c) :
    Calls Try.prog 39 #[.pointer (some ⟨L.ps, 0, none⟩), .int .i64 k] w fun e w' => e = .returned (.agg c.cs.toArray) ∧ Below w.heap.size w w' := by
  obtain ⟨j, h1, h2, h3, h4⟩ := cel_some hc
  exact at_any h.stock (by have := hI.le; have := h.lenC; omega) h1 h2

theorem alloc_any {b d : Int} (h : Ara w p L s H) (hI : Inv s) (hh : H.length ≤ 1000) :
    Calls Try.prog 23 #[.pointer (some ⟨p, 0, none⟩), .int .i64 b, .int .i64 d] w fun e w' =>
      e = .returned (match allM s b d with | none => .tuple #[.agg #[.int .i64 0, .int .i64 0, .int .i64 0], .bool false] | some m => .tuple #[.agg #[.int .i64 m.k, .int .i64 m.k, .int .i64 m.to.g], .bool true]) ∧ Did w p L s H (allM s b d) w' := by
  match hR : s.R with
  | [] =>
    have e : allM s b d = none := by unfold allM; rw [hR]
    rw [e]
    have h' := h
    unfold Ara at h'
    rw [hR] at h'
    refine (alloc_none h').mono ?_
    rintro e w' ⟨rfl, hb⟩
    exact ⟨rfl, are_to h hb⟩
  | k :: r =>
    obtain ⟨c, h1, h2, h3⟩ := all_some hI b d k r hR
    obtain ⟨j, e1, e2, e3, e4⟩ := cel_some h1
    rw [h3]
    have h' := h
    unfold Ara at h'
    rw [hR] at h'
    have hp := h.lenP
    rw [chgs_len] at hp
    refine (alloc_some h' (by have := hI.le; have := h.lenC; omega) (by have := hI.lenR; have := h.lenR; omega) (by omega) e1 e2 h2).mono ?_
    rintro e w' ⟨rfl, hT⟩
    refine ⟨rfl, ?_⟩
    unfold Did
    rw [chgs_go]
    unfold Sta.go Sta.turn
    simp only [e4, hR]
    rw [show row1 (k :: r) k c ⟨1, wrap64 (c.g + 1), b, d, noW, noW⟩ = r by unfold row1; rw [if_pos ⟨h2, by simp⟩]; rfl]
    exact hT

set_option maxRecDepth 100000 in
theorem free_any {k : Int} (h : Ara w p L s H) (hI : Inv s) (hh : H.length ≤ 1000) :
    Calls Try.prog 24 #[.pointer (some ⟨p, 0, none⟩), .int .i64 k] w fun e w' => e = .returned (.bool (freeM s k).isSome) ∧ Did w p L s H (freeM s k) w' := by
  have a1 := h.at1
  have hh1 := has_any h k
  cases hc : s.cel k with
  | none =>
    have e : freeM s k = none := by unfold freeM; rw [hc]
    rw [has_none h hc] at hh1
    rw [e]
    go_enter Try.func24, Try.ntmps24
    go_wp2_with fail
    refine hh1.mono ?_
    rintro e w' ⟨rfl, rfl⟩
    go_wp2
    go_ret
    exact ⟨rfl, are_to h (Below.refl _ _)⟩
  | some c =>
    rw [has_some h hc] at hh1
    have hf0 := field0 c
    have hf1 := field1 c
    by_cases h0 : c.s = 0
    · have e : freeM s k = none := by unfold freeM; rw [hc]; exact if_pos h0
      have t0 : (c.s == 0) = true := by simpa using h0
      rw [e]
      go_enter Try.func24, Try.ntmps24
      go_wp2_with fail
      refine hh1.mono ?_
      rintro e w' ⟨rfl, rfl⟩
      go_wp2_with fail
      refine (at_did h hI hc).mono ?_
      rintro e w1 ⟨rfl, hb1⟩
      go_wp2
      go_ret
      exact ⟨rfl, are_to h hb1⟩
    · have e : freeM s k = some ⟨k, c, ⟨0, c.g, 0, 0, noW, noW⟩⟩ := by unfold freeM; rw [hc]; exact if_neg h0
      have t0 : (c.s == 0) = false := by simpa using h0
      rw [e]
      go_enter Try.func24, Try.ntmps24
      go_wp2_with fail
      refine hh1.mono ?_
      rintro e w' ⟨rfl, rfl⟩
      go_wp2_with fail
      refine (at_did h hI hc).mono ?_
      rintro e w1 ⟨rfl, hb1⟩
      have h1 := h.below hb1
      have a2 := h1.at1
      go_wp2_with fail
      refine (at_did h1 hI hc).mono ?_
      rintro e w2 ⟨rfl, hb2⟩
      have h2 := h1.below hb2
      go_wp2_with fail
      refine (turn_did (m := ⟨k, c, ⟨0, c.g, 0, 0, noW, noW⟩⟩) h2 hI (can_free e) hh).mono ?_
      rintro e w3 ⟨rfl, hT⟩
      go_wp2
      go_ret
      exact ⟨rfl, hT.from_ (hb1.trans (hb2.mono hb1.size))⟩

set_option maxRecDepth 100000 in
theorem retire_any {k : Int} (h : Ara w p L s H) (hI : Inv s) (hh : H.length ≤ 1000) :
    Calls Try.prog 25 #[.pointer (some ⟨p, 0, none⟩), .int .i64 k] w fun e w' => e = .returned (.bool (retM s k).isSome) ∧ Did w p L s H (retM s k) w' := by
  have a1 := h.at1
  have hh1 := has_any h k
  cases hc : s.cel k with
  | none =>
    have e : retM s k = none := by unfold retM; rw [hc]
    rw [has_none h hc] at hh1
    rw [e]
    go_enter Try.func25, Try.ntmps25
    go_wp2_with fail
    refine hh1.mono ?_
    rintro e w' ⟨rfl, rfl⟩
    go_wp2
    go_ret
    exact ⟨rfl, are_to h (Below.refl _ _)⟩
  | some c =>
    rw [has_some h hc] at hh1
    have hf0 := field0 c
    by_cases h0 : c.s = 1
    · have e : retM s k = some ⟨k, c, { c with s := 2 }⟩ := by unfold retM; rw [hc]; exact if_pos h0
      have t0 : (c.s != 1) = false := by simpa using h0
      rw [e]
      go_enter Try.func25, Try.ntmps25
      go_wp2_with fail
      refine hh1.mono ?_
      rintro e w' ⟨rfl, rfl⟩
      go_wp2_with fail
      refine (at_did h hI hc).mono ?_
      rintro e w1 ⟨rfl, hb1⟩
      have h1 := h.below hb1
      have a2 := h1.at1
      go_wp2_with fail
      refine (at_did h1 hI hc).mono ?_
      rintro e w2 ⟨rfl, hb2⟩
      have h2 := h1.below hb2
      have hB : Blk (w2.alloc (.cells noC.cs.toArray 45)) w2.heap.size 45 noC.cs.toArray := heap_alloc_new w2 _
      have hB3 : Blk ((w2.alloc (.cells noC.cs.toArray 45)).setRow w2.heap.size c.cs.toArray) w2.heap.size 45 c.cs.toArray := setRow_heap _ _ _ _ _ _ hB
      have hB4 : Blk (((w2.alloc (.cells noC.cs.toArray 45)).setRow w2.heap.size c.cs.toArray).setCell ⟨w2.heap.size, 0, none⟩ (.int .i64 2)) w2.heap.size 45 (Cel.cs { c with s := 2 }).toArray := heap_setCell_same _ _ _ _ _ _ hB3
      have q0 := hB3.cell 0
      have q1 := hB3.free 0
      have hb3 : Below w2.heap.size w2 (((w2.alloc (.cells noC.cs.toArray 45)).setRow w2.heap.size c.cs.toArray).setCell ⟨w2.heap.size, 0, none⟩ (.int .i64 2)) := (below_setRow ((Below.refl _ w2).alloc (Nat.le_refl _) _) (Nat.le_refl _) _).setCell (Nat.le_refl _) _
      go_wp2_with (first
        | (refine wpList_store_row rfl 45 (.tmp 5) (.tmp 25) rfl w2.heap.size c.cs.toArray rfl rfl 45 noC.cs.toArray hB size45 rfl (by simp [Cel.cs, Value.oneCell']) ?_
           obtain ⟨w3, ew3⟩ : ∃ W, W = (w2.alloc (.cells noC.cs.toArray 45)).setRow w2.heap.size c.cs.toArray := ⟨_, rfl⟩
           rw [← ew3] at q0 q1 hB4 hb3 hB3
           show wpList _ _ _ _ _ ((w2.alloc (.cells noC.cs.toArray 45)).setRow w2.heap.size c.cs.toArray)
           rw [← ew3]
           clear ew3 hB)
        | (refine wpList_load_row rfl 45 (.tmp 5) rfl w2.heap.size rfl 45 (Cel.cs { c with s := 2 }).toArray (0, 0) _ hB4 Try.underlying45 rfl size45 ?_))
      have h3 := h2.below hb3
      go_wp2_with fail
      refine (turn_did (m := ⟨k, c, { c with s := 2 }⟩) h3 hI (can_ret e) hh).mono ?_
      rintro e w4 ⟨rfl, hT⟩
      go_wp2
      go_ret
      exact ⟨rfl, hT.from_ ((hb1.trans (hb2.mono hb1.size)).trans (hb3.mono (Nat.le_trans hb1.size hb2.size)))⟩
    · have e : retM s k = none := by unfold retM; rw [hc]; exact if_neg h0
      have t0 : (c.s != 1) = true := by simpa using h0
      rw [e]
      go_enter Try.func25, Try.ntmps25
      go_wp2_with fail
      refine hh1.mono ?_
      rintro e w' ⟨rfl, rfl⟩
      go_wp2_with fail
      refine (at_did h hI hc).mono ?_
      rintro e w1 ⟨rfl, hb1⟩
      go_wp2
      go_ret
      exact ⟨rfl, are_to h hb1⟩
end
end Go.Proofs.Ytdilmapcjmdabaa
