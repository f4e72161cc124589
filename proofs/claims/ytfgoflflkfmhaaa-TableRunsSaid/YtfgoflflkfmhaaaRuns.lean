/- Any texts, under any sums, are numbered as they come, and told apart whatever their sums are: the walk. Conditions: none. -/
import Derived.Test.YtfgoflflkfmhaaaRowsIn
namespace Go.Proofs.Ytfgoflflkfmhaaa
open Go.RowKit Go.Maps

/-- The cells of the law's own list. -/
def flat3 (ws : List Txt) : List Value := ws.flatMap fun x => [.int .u64 x.1, .string x.2, .bool false]
theorem flat3_snoc (ws : List Txt) (x : Txt) : flat3 (ws ++ [x]) = flat3 ws ++ [.int .u64 x.1, .string x.2, .bool false] := by simp [flat3]
theorem flat3_get : ∀ (ws : List Txt) (j : Nat) (x : Txt), ws[j]? = some x → (flat3 ws)[j * 3]? = some (.int .u64 x.1) ∧ (flat3 ws)[j * 3 + 1]? = some (.string x.2)
  | [], _, _, h => by simp at h
  | y :: r, 0, x, h => by
    simp at h
    subst h
    simp [flat3]
  | y :: r, j + 1, x, h => by
    have e1 : (j + 1) * 3 = j * 3 + 1 + 1 + 1 := by omega
    have e2 : flat3 (y :: r) = .int .u64 y.1 :: .string y.2 :: .bool false :: flat3 r := by simp [flat3]
    rw [e1, e2]
    exact flat3_get r j x (by simpa using h)

theorem lies_of {w : World} {B : Nat} {A : Option Addr} {cap : Nat} {ws : List Txt} (ho : w.ownsRow B 29 3 (.slice A ws.length cap) ws.length (flat3 ws)) : Lies w A ws := fun j x hx => by
  have hj := (List.getElem?_eq_some_iff.1 hx).1
  rcases ho.2 with ⟨hv, h0⟩ | ⟨g, cp, cur, hv, _, hg, _⟩
  · rw [List.length_eq_zero_iff.1 h0] at hx
    simp at hx
  · have ho' := ho
    rw [hv] at ho'
    injection hv with hA _ _
    obtain ⟨f0, f1⟩ := flat3_get ws j x hx
    exact ⟨g, hA, (Array.getElem?_eq_some_iff.1 hg).1, by rw [ho'.cellAt (j * 3) (by omega)]; exact f0, by rw [ho'.cellAt (j * 3 + 1) (by omega)]; exact f1⟩
theorem row_turned {w w' : World} {B Bt n : Nat} {v : Value} {xs : List Value} (ho : w.ownsRow B 29 3 v n xs) (ht : Turned w w' Bt) : w'.ownsRow B 29 3 v n xs := by
  refine ⟨ho.1, ?_⟩
  rcases ho.2 with ⟨h1, h2⟩ | ⟨g, cap, cur, h1, h2, h3, h4⟩
  · exact .inl ⟨h1, h2⟩
  · exact .inr ⟨g, cap, cur, h1, h2, ht.rows g cur h3, h4⟩

/-- A table and the law's own list, both made behind w. -/
structure Goes (w wr : World) (B T K M : Nat) (v : Value) (ws : List Txt) (c : Nat) : Prop where
  tab : ∃ tv D, Tab wr B T K M tv D ws c
  own : ∃ A cp, v = .slice A ws.length cp
  row : wr.ownsRow w.heap.size 29 3 v ws.length (flat3 ws)
  below : Below w.heap.size w wr
  low : w.heap.size ≤ B
theorem Goes.after {w wr w' : World} {B T K M c : Nat} {v : Value} {ws : List Txt} (h : Goes w wr B T K M v ws c) (hb : Below wr.heap.size wr w') : Goes w w' B T K M v ws c := by
  obtain ⟨⟨tv, D, hT⟩, ho, hr, hB, hl⟩ := h
  exact ⟨⟨tv, D, hT.below hb⟩, ho, hr.kept (grown_below hb none) (by cases v.ownBlock <;> simp), hB.trans (hb.mono hB.size), hl⟩

theorem Goes.more {w wr : World} {B T K M c cp : Nat} {A : Option Addr} {tv : Value} {D : DataW Unit} {ws : List Txt} {h : Int} {s : ByteArray} (hT : Tab wr B T K M tv D (ws ++ [(h, s)]) c)
    (hr : wr.ownsRow w.heap.size 29 3 (.slice A (ws.length + 1) cp) (ws.length + 1) (flat3 ws ++ [.int .u64 h, .string s, .bool false])) (hb : Below w.heap.size w wr) (hl : w.heap.size ≤ B) :
    Goes w wr B T K M (.slice A (ws.length + 1) cp) (ws ++ [(h, s)]) c := by
  have e : (ws ++ [(h, s)]).length = ws.length + 1 := by simp
  exact ⟨⟨tv, D, hT⟩, ⟨A, cp, by rw [e]⟩, by rw [e, flat3_snoc]; exact hr, hb, hl⟩

set_option maxRecDepth 100000 in
set_option maxHeartbeats 4000000 in
theorem runs_walk (O : Option Addr) (n cap : Nat) (R : Nat → Int × ByteArray × Bool) (w : World) (ho : IsRows w O n cap R) :
    Calls Try.prog 3 #[.slice O n cap] w fun e w' => e = .returned (.bool true) ∧ Below w.heap.size w w' := by
  have hn63 : (n : Int) ≤ 9223372036854775807 := by have := ho.1; have := ho.2.1; unfold maxLen at this; omega
  obtain ⟨i0, hi, hz0, hz1, hz2⟩ := info_parts info29
  go_enter Try.func3, Try.ntmps3
  go_wp2_with (first
    | (go_at_call 5; refine (alive_any _).mono ?_; rintro e w1 ⟨rfl, hb1⟩)
    | (go_at_call 6; refine (new_any _).mono ?_; rintro e w2 ⟨T, K, M, tv, D, rfl, hT2, hb2⟩))
  have HG : Goes w w2 w1.heap.size T K M (.slice none 0 0) [] 0 := ⟨⟨tv, D, hT2⟩, ⟨none, 0, rfl⟩, World.ownsRow_nil _ _ _ _, hb1.trans (hb2.mono hb1.size), hb1.size⟩
  clear hT2 hb2 hb1
  generalize w1.heap.size = B at HG
  go_loopw [4, 5, 6, 7, 8, 9, 10, 11] (fun v cl i _ _ _ _ _ wr => ∃ (k : Nat) (ws : List Txt) (c : Nat), i = .int .i64 k ∧ k ≤ n ∧ k ≤ 80 ∧ ws.length ≤ k ∧ c ≤ ws.length ∧ cl = .int .i64 ((ws.length : Int) - c) ∧ Goes w wr B T K M v ws c)
    (fun _ _ i _ _ _ _ _ _ => 80 - (intOf i).toNat)
  case atStart => exact ⟨0, [], 0, rfl, Nat.zero_le _, Nat.zero_le _, Nat.le_refl _, Nat.le_refl _, rfl, HG⟩
  case round =>
    obtain ⟨k, ws, c, rfl, hkn, hk80, hwk, hcw, rfl, HGr⟩ := hrel
    clear HG
    obtain ⟨A, cp, rfl⟩ := HGr.own
    obtain ⟨tv, D, hT⟩ := HGr.tab
    have hlies := lies_of HGr.row
    obtain ⟨q, hq⟩ : ∃ q, q = (ws.length : Int) - c := ⟨_, rfl⟩
    rw [← hq]
    have hq0 : 0 ≤ q := by omega
    have hq1 : q ≤ 80 := by omega
    have HQ := Lib.hid hq
    clear hq
    by_cases hk1 : k < n
    · by_cases hk2 : k < 80
      · have hk3 : (k : Int) < 80 := by omega
        have hk4 : (k : Int) < n := by omega
        obtain ⟨hF, b, off, rfl, hbw, hc0, hc1, hc2⟩ := ho.2.2 k hk1
        generalize R k = p at hF hc0 hc1 hc2
        obtain ⟨h, s, f⟩ := p
        simp only at hF hc0 hc1 hc2
        have cc : ∀ W, Below w.heap.size w W → W.cell? ⟨b, off + k * 3, none⟩ = some (.int .u64 h) ∧ W.cell? ⟨b, off + k * 3 + 1, none⟩ = some (.string s) ∧ W.cell? ⟨b, off + k * 3 + 2, none⟩ = some (.bool f) :=
          fun W hb => ⟨(hb.cell hbw).trans hc0, (hb.cell hbw).trans hc1, (hb.cell hbw).trans hc2⟩
        obtain ⟨c0, c1, c2⟩ := cc wr HGr.below
        have hp := place_any A cp ws h s f wr hlies (by omega)
        clear hc0 hc1 hc2 hk1 hk2
        cases hsp : spot h s ws with
        | none =>
          rw [hsp] at hp
          have hp' : Calls Try.prog 7 #[.slice A ws.length cp, .agg #[.int .u64 h, .string s, .bool f]] wr fun e w' => e = .returned (.int .i64 (-1)) ∧ Below wr.heap.size wr w' := hp
          clear hp
          go_wp2_with fail
          refine hp'.mono ?_
          rintro e w3 ⟨rfl, hb3⟩
          have G3 := HGr.after hb3
          have r3 := (Below.refl w3.heap.size w3).drew
          obtain ⟨k0, k1, _⟩ := cc w3.drew (G3.below.trans (r3.mono G3.below.size))
          have hfd : Calls Try.prog 8 #[.pointer (some ⟨T, 0, none⟩), .int .u64 h, .string s] w3.drew fun e w' => e = .returned (.tuple #[.int .i64 0, .bool false]) ∧ Below w3.heap.size w3.drew w' := by
            have e := find_tab h s w3.drew ((hT.below hb3).below r3) hF.1
            rw [hsp] at e
            exact e
          clear hb3 hp' hlies c0 c1 c2 HGr hT
          go_wp2_with fail
          go_region_held3 (fun w' => w'.cell? ⟨b, off + k * 3, none⟩ = some (.int .u64 h) ∧ w'.cell? ⟨b, off + k * 3 + 1, none⟩ = some (.string s))
            (first
              | (exact ⟨k0, k1⟩)
              | (exact ⟨q0, q1⟩))
            (first | (go_at_call 8; refine hfd.mono ?_; rintro e w4 ⟨rfl, hb4⟩; have G4 := G3.after (r3.trans hb4); obtain ⟨q0, q1, q2⟩ := cc w4 G4.below))
          cases f with
          | true =>
            go_wp2
            go_roundw
            case rel => exact ⟨k + 1, ws, c, by go_num, by omega, by omega, by omega, hcw, by rw [HQ.out], G4⟩
            case measure => simp [intOf]; omega
          | false =>
            obtain ⟨tv4, D4, hT4⟩ := G4.tab
            have r4 := (Below.refl w4.heap.size w4).drew
            have hput := put_new h s w4.drew (hT4.below r4) hF hsp (by omega)
            have hB4 : B ≤ w4.heap.size := Nat.le_trans hT4.lowT (Nat.le_of_lt hT4.ltT)
            obtain ⟨k2, k3, _⟩ := cc w4.drew (G4.below.trans (r4.mono G4.below.size))
            clear hfd hb4
            go_wp2_with fail
            go_region_held3 (fun w' => w'.cell? ⟨b, off + k * 3, none⟩ = some (.int .u64 h) ∧ w'.cell? ⟨b, off + k * 3 + 1, none⟩ = some (.string s))
              (first
                | (exact ⟨k2, k3⟩)
                | (exact ⟨p0, p1⟩))
              (first | (go_at_call 9; refine hput.mono ?_; rintro e w6 ⟨rfl, htd, tv6, D6, hT6⟩; have td6 := (turned_below r4 hB4).trans htd; have bl6 := G4.below.trans (td6.below.mono G4.low); obtain ⟨p0, p1, p2⟩ := cc w6 bl6))
            have row6 := row_turned G4.row td6
            have lies6 := lies_of row6
            have hu := under_any A cp ws h w6 lies6 (by omega)
            clear hput htd q0 q1 q2 k2 k3 k0 k1
            obtain ⟨ub, hub⟩ : ∃ ub, ub = isUnder h ws := ⟨_, rfl⟩
            obtain ⟨cs, hcs⟩ : ∃ cs, cs = sumsN h ws c := ⟨_, rfl⟩
            have hcl : (((ws ++ [(h, s)]).length : Nat) : Int) - (cs : Int) = if ub then q + 1 else q := by
              rw [hcs, hub, HQ.out]
              unfold sumsN
              have e : (ws ++ [(h, s)]).length = ws.length + 1 := by simp
              rw [e]
              split <;> omega
            have hcs1 : cs ≤ ws.length + 1 := by
              rw [hcs]
              unfold sumsN
              split <;> omega
            rw [← hub] at hu
            rw [← hcs] at hT6
            have hwN : (ws.length : Int) ≤ 80 := by omega
            clear hub hcs
            cases ub
            all_goals simp only [Bool.false_eq_true, if_false, if_true] at hcl
            all_goals (
              go_wp2_with fail
              refine hu.mono ?_
              rintro e w' ⟨rfl, rfl⟩
              go_wp2_with (first
                | (at_builtin; refine wpList_append_lies _ rfl _ _ 22 rfl w.heap.size 29 i0 _ 3 32 Try.underlying22 hi hz0 hz1 hz2 rfl (by decide) _ ws.length (flat3 ws) rfl (row6.alloc _) ⟨w6.heap.size, 0, none⟩ 1 1 [.int .u64 h, .string s, .bool false] rfl rfl
                    (World.news_of_block (cs := #[.int .u64 h, .string s, .bool false]) (t := 29) (fr := (0, 0)) (heap_alloc_new w6 _)) (by simp [Value.oneCell']) (by omega) (by unfold maxLen; omega) (by omega) (by have := bl6.size; simp; omega) _ rfl ?_; intro g7 cap7 w7 hown7 hgrow7 hat7 hlt7))
              have hT7 := (hT6.below ((Below.refl _ w6).alloc (Nat.le_refl _) _)).stays hgrow7 (fun r hr => (row_kind (row6.alloc (.cells #[.int .u64 h, .string s, .bool false] 29)) r hr).2)
              have bl7 := (bl6.alloc bl6.size (.cells #[.int .u64 h, .string s, .bool false] 29)).grown hgrow7 (by have := bl6.size; simp; omega) (fun r hr => (row_kind row6 r hr).1)
              have G7 := Goes.more hT7 hown7 bl7 G4.low
              have hl7 := len_tab w7 hT7
              have hc7 := clashes_tab w7 hT7
              have en : (((ws ++ [(h, s)]).length : Nat) : Int) = (ws.length : Int) + 1 := by simp
              rw [hcl] at hc7
              rw [en] at hl7
              clear en hT7 bl7 hown7 hgrow7 hu lies6 row6 hT6 hat7 hlt7
              go_wp2_with (first
                | (go_at_call 11; refine hl7.mono ?_; rintro e w' ⟨rfl, rfl⟩)
                | (go_at_call 12; refine hc7.mono ?_; rintro e w8 ⟨rfl, hb8⟩))
              go_roundw
              case rel => exact ⟨k + 1, ws ++ [(h, s)], cs, by go_num, by omega, by omega, by simp; omega, by simp; omega, by rw [hcl], G7.after hb8⟩
              case measure => simp [intOf]; omega)
        | some j =>
          rw [hsp] at hp
          have hj := spot_lt hsp
          have hj0 : (0 : Int) ≤ (j : Int) := by omega
          have hp' : Calls Try.prog 7 #[.slice A ws.length cp, .agg #[.int .u64 h, .string s, .bool f]] wr fun e w' => e = .returned (.int .i64 (j : Int)) ∧ Below wr.heap.size wr w' := hp
          clear hp
          go_wp2_with fail
          refine hp'.mono ?_
          rintro e w3 ⟨rfl, hb3⟩
          have G3 := HGr.after hb3
          have r3 := (Below.refl w3.heap.size w3).drew
          obtain ⟨k0, k1, _⟩ := cc w3.drew (G3.below.trans (r3.mono G3.below.size))
          have hfd : Calls Try.prog 8 #[.pointer (some ⟨T, 0, none⟩), .int .u64 h, .string s] w3.drew fun e w' => e = .returned (.tuple #[.int .i64 (j : Int), .bool true]) ∧ Below w3.heap.size w3.drew w' := by
            have e := find_tab h s w3.drew ((hT.below hb3).below r3) hF.1
            rw [hsp] at e
            exact e
          clear hb3 hp' hlies c0 c1 c2 HGr hT
          go_wp2_with fail
          go_region_held3 (fun w' => w'.cell? ⟨b, off + k * 3, none⟩ = some (.int .u64 h) ∧ w'.cell? ⟨b, off + k * 3 + 1, none⟩ = some (.string s))
            (first
              | (exact ⟨k0, k1⟩)
              | (exact ⟨q0, q1⟩))
            (first | (go_at_call 8; refine hfd.mono ?_; rintro e w4 ⟨rfl, hb4⟩; have G4 := G3.after (r3.trans hb4); obtain ⟨q0, q1, q2⟩ := cc w4 G4.below))
          cases f with
          | true =>
            go_wp2
            go_roundw
            case rel => exact ⟨k + 1, ws, c, by go_num, by omega, by omega, by omega, hcw, by rw [HQ.out], G4⟩
            case measure => simp [intOf]; omega
          | false =>
            obtain ⟨tv4, D4, hT4⟩ := G4.tab
            have r4 := (Below.refl w4.heap.size w4).drew
            have hput := put_old h s j w4.drew (hT4.below r4) hF.1 hsp
            obtain ⟨k2, k3, _⟩ := cc w4.drew (G4.below.trans (r4.mono G4.below.size))
            clear hfd hb4
            go_wp2_with fail
            go_region_held3 (fun w' => w'.cell? ⟨b, off + k * 3, none⟩ = some (.int .u64 h) ∧ w'.cell? ⟨b, off + k * 3 + 1, none⟩ = some (.string s))
              (first
                | (exact ⟨k2, k3⟩)
                | (exact ⟨p0, p1⟩))
              (first | (go_at_call 9; refine hput.mono ?_; rintro e w6 ⟨rfl, hb6⟩; have G6 := G4.after (r4.trans hb6); obtain ⟨p0, p1, p2⟩ := cc w6 G6.below))
            obtain ⟨tv6, D6, hT6⟩ := G6.tab
            have hl7 := len_tab w6 hT6
            have hc7 := clashes_tab w6 hT6
            rw [← HQ.out] at hc7
            clear hput hb6 q0 q1 q2 k2 k3 k0 k1 hT6 hT4
            go_wp2_with (first
              | (go_at_call 11; refine hl7.mono ?_; rintro e w' ⟨rfl, rfl⟩)
              | (go_at_call 12; refine hc7.mono ?_; rintro e w8 ⟨rfl, hb8⟩))
            go_roundw
            case rel => exact ⟨k + 1, ws, c, by go_num, by omega, by omega, by omega, hcw, by rw [HQ.out], G6.after hb8⟩
            case measure => simp [intOf]; omega
      · obtain rfl : k = 80 := by omega
        have hg := gets_any A cp wr hT hlies
        go_wp2_with fail
        refine hg.mono ?_
        rintro e w3 ⟨rfl, hb3⟩
        go_wp2
        go_ret
        exact ⟨rfl, HGr.below.trans (hb3.mono HGr.below.size)⟩
    · obtain rfl : k = n := by omega
      have hg := gets_any A cp wr hT hlies
      go_wp2_with fail
      refine hg.mono ?_
      rintro e w3 ⟨rfl, hb3⟩
      go_wp2
      go_ret
      exact ⟨rfl, HGr.below.trans (hb3.mono HGr.below.size)⟩
end Go.Proofs.Ytfgoflflkfmhaaa
