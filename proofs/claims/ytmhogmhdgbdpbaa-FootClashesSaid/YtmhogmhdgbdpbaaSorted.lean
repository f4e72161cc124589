/- The plain answer's list, rising, each place once. Conditions: at most 400 places. -/
import Derived.Test.YtmhogmhdgbdpbaaBoth
namespace Go.Proofs.Ytmhogmhdgbdpbaa
open Go.ChangeShapes Go.WideShapes Go.RowKit

theorem grown_from {w w' : World} {B m cp : Nat} {A' : Option Addr} {O : List Pl} (hB : B ≤ w.heap.size) (o : Obj) (ho : w.ownsRow B 32 3 (.slice A' m cp) m (flatP O)) (hg : (w.alloc o).grownBy w' (Value.slice A' m cp).ownBlock) : Below B w w' := by
  have h1 : Below B w (w.alloc o) := (Below.refl B w).alloc hB o
  exact h1.trans ((kept_grown hg).under _ (Nat.le_trans hB h1.size) (fun g e => own_new ho g ((own_lies _ _ _ _).1 e)))
theorem own_snoc {w : World} {B m : Nat} {v : Value} {O : List Pl} (x : Pl) (h : w.ownsRow B 32 3 v m (flatP O ++ [.int .i64 x.k, .int .i64 x.i, .int .i64 x.j])) : w.ownsRow B 32 3 v m (flatP (O ++ [x])) := by
  rw [show flatP (O ++ [x]) = flatP O ++ x.cs by simp [flatP]]
  exact h
theorem own_base {w : World} {B B' k n : Nat} {t : TypeId} {v : Value} {vs : List Value} (h : w.ownsRow B t k v n vs) (hB : B' ≤ B) : w.ownsRow B' t k v n vs := by
  refine ⟨h.1, ?_⟩
  rcases h.2 with h0 | ⟨g, c, cur, e, hb, rest⟩
  · exact .inl h0
  · exact .inr ⟨g, c, cur, e, Nat.le_trans hB hb, rest⟩
theorem own_row {w : World} {B g o n cap : Nat} {l : List Pl} (h : w.ownsRow B 32 3 (.slice (some ⟨g, o, none⟩) n cap) n (flatP l)) : o = 0 := by
  rcases h.2 with ⟨e, _⟩ | ⟨g', c, cur, e, _⟩
  · cases e
  · injection e with e
    injection e with e
    injection e
theorem take_snoc {O : List Pl} {k : Nat} {y : Pl} (hy : O[k]? = some y) : O.take (k + 1) = O.take k ++ [y] := by
  rw [List.take_add_one, hy]
  rfl
theorem ins_put {x y : Pl} {P S : List Pl} (h : insTo x P = (S, true)) : insTo x (P ++ [y]) = (S ++ [y], true) := by
  rw [insTo_snoc, h]
  rfl
theorem ins_less {x y : Pl} {P S : List Pl} (h : insTo x P = (S, false)) (hl : lessP x y = true) : insTo x (P ++ [y]) = (S ++ [x] ++ [y], true) := by
  rw [insTo_snoc, h]
  unfold insStep
  simp [hl]
theorem ins_more {x y : Pl} {P S : List Pl} (h : insTo x P = (S, false)) (hl : lessP x y = false) : insTo x (P ++ [y]) = (S ++ [y], false) := by
  rw [insTo_snoc, h]
  unfold insStep
  simp [hl]
theorem insP_put {x : Pl} {P S : List Pl} (h : insTo x P = (S, true)) : insP x P = S := by
  unfold insP
  rw [h]
  rfl
theorem insP_no {x : Pl} {P S : List Pl} (h : insTo x P = (S, false)) : insP x P = S ++ [x] := by
  unfold insP
  rw [h]
  rfl
/-- What the inner loop keeps. -/
def Inner (wB : World) (x : Pl) (O : List Pl) (k : Nat) (v u : Value) (wr : World) : Prop :=
  ∃ (A : Option Addr) (c : Nat) (S : List Pl) (b : Bool), insTo x (O.take k) = (S, b) ∧ v = .slice A S.length c ∧ u = .bool b ∧ S.length ≤ k + 1 ∧ wr.ownsRow wB.heap.size 32 3 (.slice A S.length c) S.length (flatP S) ∧ Below wB.heap.size wB wr
theorem inner_len {x : Pl} {O S : List Pl} {b : Bool} {k : Nat} (h : insTo x (O.take k) = (S, b)) : S.length ≤ k + 1 := by
  have := (insTo_len x (O.take k)).1
  rw [h] at this
  have h2 : (O.take k).length ≤ k := by rw [List.length_take]; omega
  simp only at this
  omega
set_option maxRecDepth 100000 in
set_option maxHeartbeats 8000000 in
theorem sortedref_any {w : World} {A : Option Addr} {n cap : Nat} {l : List Pl} (h : SeesP w ⟨A, n, cap⟩ l) (hn : n ≤ 400) :
    Calls Try.prog 19 #[.slice A n cap] w fun e w' => ∃ A' n' cap', e = .returned (.slice A' n' cap') ∧ SeesP w' ⟨A', n', cap'⟩ (normP l) ∧ (∀ g, holds A' n' g → w.heap.size ≤ g) ∧ Below w.heap.size w w' := by
  obtain ⟨i0, hi, hz0, hz1, hz2⟩ : ∃ (i : TypeInfo), Try.prog.info? 32 = some i ∧ i.zero = some (.agg noP.cs.toArray) ∧ i.size = 3 ∧ i.bytes = 24 := by
    have h := info32
    cases e : Try.prog.info? 32 with
    | none => rw [e] at h; simp at h
    | some i =>
      rw [e] at h
      simp only [Option.map_some, Option.some.injEq, Prod.mk.injEq] at h
      exact ⟨i, rfl, h.1, h.2.1, h.2.2⟩
  have hl : l.length = n := h.len
  have HL := Lib.hid hl
  clear hl
  go_enter Try.func19, Try.ntmps19
  go_wp2_with fail
  go_loopw [3, 4, 5, 6, 7] (fun v i _ _ _ wr => ∃ (j : Nat) (A' : Option Addr) (c' : Nat), i = .int .i64 j ∧ j ≤ n ∧ v = .slice A' (normTo l j).length c' ∧ wr.ownsRow w.heap.size 32 3 (.slice A' (normTo l j).length c') (normTo l j).length (flatP (normTo l j)) ∧ Below w.heap.size w wr) (fun _ i _ _ _ _ => n - (intOf i).toNat)
  case atStart => exact ⟨0, none, 0, rfl, Nat.zero_le _, rfl, World.ownsRow_nil _ _ _ _, Below.refl _ _⟩
  case round =>
    obtain ⟨i, AO, cO, rfl, hin, rfl, hO, hb⟩ := hrel
    have hmO := normTo_len l i
    obtain ⟨O, eO⟩ : ∃ O, O = normTo l i := ⟨_, rfl⟩
    rw [← eO] at hO hmO ⊢
    by_cases hlt : i < n
    · obtain ⟨x, hx⟩ : ∃ x, l[i]? = some x := ⟨_, List.getElem?_eq_getElem (by have := HL.out; omega)⟩
      obtain ⟨g, o, hA, _⟩ := (h.on hb).at_ hx
      have hA : A = some ⟨g, o, none⟩ := hA
      subst hA
      have t0 : decide ((i : Int) < (n : Int)) = true := decide_eq_true (by omega)
      have b0 : (0 : Int) ≤ (i : Int) := by omega
      have b1 : (i : Int) < (n : Int) := by omega
      have hrow := range_of (h.on hb) hx
      have hh := has_any (own_seesP hO) (by omega) x
      obtain ⟨m, em⟩ : ∃ m, m = O.length := ⟨_, rfl⟩
      rw [← em] at hh hO hmO ⊢
      obtain ⟨T, eT⟩ : ∃ T, T = decide (x ∈ O) := ⟨_, rfl⟩
      rw [← eT] at hh
      have HX := Lib.hid (And.intro hx (And.intro hb (And.intro eO (And.intro em eT))))
      clear hx hb eO em eT
      go_wp2_with (first
        | (refine wpList_load_mid rfl 32 (.tmp 17) rfl g (o + i * 3) rfl x.cs _ hrow Try.underlying32 rfl (load32 x) ?_)
        | fail)
      refine hh.mono ?_
      rintro e wB ⟨rfl, hb1⟩
      have hO1 := ownB_below hO hb1
      obtain ⟨hx, hb, eO, em, eT⟩ := HX.out
      have hbb := stepB hb hb1
      have hl1 := h.on hbb
      have hnx := normTo_next hx
      rw [← eO] at hnx
      clear hh hrow hO hb hb1
      cases T with
      | true =>
        rw [if_pos (of_decide_eq_true eT.symm)] at hnx
        have HR := Lib.hid (And.intro hnx (And.intro hbb (And.intro hO1 em)))
        clear hnx hbb hO1 hl1 hx eO em eT
        go_wp2
        go_roundw
        case rel => exact ⟨i + 1, AO, cO, by simp, by omega, by rw [HR.out.1, HR.out.2.2.2], by rw [HR.out.1, ← HR.out.2.2.2]; exact HR.out.2.2.1, HR.out.2.1⟩
        case measure => simp [intOf]; omega
      | false =>
        rw [if_neg (of_decide_eq_false eT.symm)] at hnx
        have HR := Lib.hid (And.intro hnx (And.intro hbb em))
        clear hnx hbb hx eO em eT
        go_wp2_with fail
        generalize wr = wr0 at *
        go_loopw [5, 6, 7] (fun v u q wr => ∃ k : Nat, q = .int .i64 k ∧ k ≤ m ∧ Inner wB x O k v u wr) (fun _ _ q _ => m - (intOf q).toNat)
        case atStart => exact ⟨0, rfl, Nat.zero_le _, none, 0, [], false, rfl, rfl, rfl, Nat.zero_le _, World.ownsRow_nil _ _ _ _, Below.refl _ _⟩
        case round =>
          obtain ⟨k, rfl, hk, A5, c5, S, b, hins, rfl, rfl, hSl, hS, hbw⟩ := hrel
          obtain ⟨q, eq⟩ : ∃ q, q = S.length := ⟨_, rfl⟩
          rw [← eq] at hS hSl ⊢
          have hlw := hl1.on hbw
          have hOw := (own_seesP hO1).on hbw
          by_cases hlt2 : k < m
          · obtain ⟨y, hy⟩ : ∃ y, O[k]? = some y := ⟨_, List.getElem?_eq_getElem (by have := HR.out.2.2; omega)⟩
            obtain ⟨gO, oO, hAO, _⟩ := hOw.at_ hy
            have hAO : AO = some ⟨gO, oO, none⟩ := hAO
            subst hAO
            obtain rfl := own_row hO1
            have t1 : decide ((k : Int) < (m : Int)) = true := decide_eq_true (by omega)
            have d0 : (0 : Int) ≤ (k : Int) := by omega
            have d1 : (k : Int) < (m : Int) := by omega
            have tk := take_snoc hy
            have hrxB : ∀ W, Below wB.heap.size wB W → W.rangeAt g (o + i * 3) x.cs := fun W hW => range_of (hl1.on hW) HX.out.1
            have hryB : ∀ W, Below wB.heap.size wB W → W.rangeAt gO (k * 3) y.cs := fun W hW => by
              have := range_of ((own_seesP hO1).on hW) hy
              rwa [Nat.zero_add] at this
            have hrx : ∀ W, Below wr.heap.size wr W → W.rangeAt g (o + i * 3) x.cs := fun W hW => hrxB W (stepB hbw hW)
            have hry : ∀ W, Below wr.heap.size wr W → W.rangeAt gO (k * 3) y.cs := fun W hW => hryB W (stepB hbw hW)
            have k0 : Below wr.heap.size wr wr.drew := (Below.refl _ wr).drew
            have HI := Lib.hid (And.intro hins (And.intro eq tk))
            clear hins eq tk hy hlw hOw
            cases b with
            | true =>
              go_wp2_with fail
              refine wp_region_noPanic ?_
              refine wp_region_held_drew (S := (fun W => Below wr.heap.size wr W)) (by kernel_rfl) k0 (fun hHeld => ?_)
              refine wpAnyH_take (i := 0) (oi := ⟨some 26, _, _, _, _, _⟩) (v := ?_) rfl (by kernel_rfl) (by kernel_rfl) (by kernel_rfl) (fun _ _ _ h => h) (Or.inl ⟨by rfl, ?_⟩) (by assumption) ?_
              rotate_left 1
              · (intro W hSw; go_simp <;> with_reducible rfl)
              try simp only [Act.put, List.setIfInBounds_toArray, List.set_cons_zero, List.set_cons_succ]
              refine wpAnyH_take (i := 1) (oi := ⟨some 27, _, _, _, _, _⟩) (v := ?_) rfl (by kernel_rfl) (by kernel_rfl) (by kernel_rfl) (fun _ _ _ h => h) (Or.inl ⟨by rfl, ?_⟩) (by assumption) ?_
              rotate_left 1
              · (intro W hSw; go_simp <;> with_reducible rfl)
              try simp only [Act.put, List.setIfInBounds_toArray, List.set_cons_zero, List.set_cons_succ]
              refine wpAnyH_take (i := 2) (oi := ⟨some 28, _, _, _, _, _⟩) (v := ?_) rfl (by kernel_rfl) (by kernel_rfl) (by kernel_rfl) (fun _ _ _ h => h) (Or.inl ⟨by rfl, ?_⟩) (by assumption) ?_
              rotate_left 1
              · (intro W hSw; go_simp <;> with_reducible rfl)
              try simp only [Act.put, List.setIfInBounds_toArray, List.set_cons_zero, List.set_cons_succ]
              refine wpAnyH_take (i := 3) (oi := ⟨some 29, _, _, _, _, _⟩) (v := undef) rfl (by kernel_rfl) (by kernel_rfl) (by kernel_rfl) (fun _ _ _ h => h) (Or.inr ⟨by rfl, rfl⟩) (by assumption) ?_
              try simp only [Act.put, List.setIfInBounds_toArray, List.set_cons_zero, List.set_cons_succ]
              refine wpAnyH_take (i := 4) (oi := ⟨some 30, _, _, _, _, _⟩) (v := undef) rfl (by kernel_rfl) (by kernel_rfl) (by kernel_rfl) (fun _ _ _ h => h) (Or.inr ⟨by rfl, rfl⟩) (by assumption) ?_
              try simp only [Act.put, List.setIfInBounds_toArray, List.set_cons_zero, List.set_cons_succ]
              refine wpAnyH_take (i := 5) (oi := ⟨some 31, _, _, _, _, _⟩) (v := undef) rfl (by kernel_rfl) (by kernel_rfl) (by kernel_rfl) (fun _ _ _ h => h) (Or.inr ⟨by rfl, rfl⟩) (by assumption) ?_
              try simp only [Act.put, List.setIfInBounds_toArray, List.set_cons_zero, List.set_cons_succ]
              refine wpAnyH_take (i := 6) (oi := ⟨some 32, _, _, _, _, _⟩) (v := undef) rfl (by kernel_rfl) (by kernel_rfl) (by kernel_rfl) (fun _ _ _ h => h) (Or.inr ⟨by rfl, rfl⟩) (by assumption) ?_
              try simp only [Act.put, List.setIfInBounds_toArray, List.set_cons_zero, List.set_cons_succ]
              refine wpAnyH_take (i := 7) (oi := ⟨some 33, _, _, _, _, _⟩) (v := undef) rfl (by kernel_rfl) (by kernel_rfl) (by kernel_rfl) (fun _ _ _ h => h) (Or.inr ⟨by rfl, rfl⟩) (by assumption) ?_
              try simp only [Act.put, List.setIfInBounds_toArray, List.set_cons_zero, List.set_cons_succ]
              refine wpAnyH_take (i := 8) (oi := ⟨some 34, _, _, _, _, _⟩) (v := undef) rfl (by kernel_rfl) (by kernel_rfl) (by kernel_rfl) (fun _ _ _ h => h) (Or.inr ⟨by rfl, rfl⟩) (by assumption) ?_
              try simp only [Act.put, List.setIfInBounds_toArray, List.set_cons_zero, List.set_cons_succ]
              refine wpAnyH_take (i := 9) (oi := ⟨some 35, _, _, _, _, _⟩) (v := undef) rfl (by kernel_rfl) (by kernel_rfl) (by kernel_rfl) (fun _ _ _ h => h) (Or.inr ⟨by rfl, rfl⟩) (by assumption) ?_
              try simp only [Act.put, List.setIfInBounds_toArray, List.set_cons_zero, List.set_cons_succ]
              refine wpAnyH_take (i := 10) (oi := ⟨some 36, _, _, _, _, _⟩) (v := undef) rfl (by kernel_rfl) (by kernel_rfl) (by kernel_rfl) (fun _ _ _ h => h) (Or.inr ⟨by rfl, rfl⟩) (by assumption) ?_
              try simp only [Act.put, List.setIfInBounds_toArray, List.set_cons_zero, List.set_cons_succ]
              refine wpAnyH_take (i := 11) (oi := ⟨some 37, _, _, _, _, _⟩) (v := undef) rfl (by kernel_rfl) (by kernel_rfl) (by kernel_rfl) (fun _ _ _ h => h) (Or.inr ⟨by rfl, rfl⟩) (by assumption) ?_
              try simp only [Act.put, List.setIfInBounds_toArray, List.set_cons_zero, List.set_cons_succ]
              refine wpAnyH_take (i := 12) (oi := ⟨some 38, _, _, _, _, _⟩) (v := ?_) rfl (by kernel_rfl) (by kernel_rfl) (by kernel_rfl) (fun _ _ _ h => h) (Or.inl ⟨by rfl, ?_⟩) (by assumption) ?_
              rotate_left 1
              · (intro W hSw; go_simp <;> with_reducible rfl)
              try simp only [Act.put, List.setIfInBounds_toArray, List.set_cons_zero, List.set_cons_succ]
              refine wpAnyH_done (by kernel_rfl) ?_ _
              refine NoPanic.normal ?_
              generalize wr.drew = w2 at k0 ⊢
              have hS2 := ownB_below hS k0
              replace hbw := stepB hbw k0
              have hry2 := hry _ k0
              clear hS k0 hrx hry
              have ho7 := hS2.alloc (.cells #[.int .i64 y.k, .int .i64 y.i, .int .i64 y.j] 32)
              have hn7 : Blk (w2.alloc (.cells #[.int .i64 y.k, .int .i64 y.i, .int .i64 y.j] 32)) w2.heap.size 32 #[.int .i64 y.k, .int .i64 y.i, .int .i64 y.j] := heap_alloc_new w2 _
              have hm7 := hbw.size
              go_wp2_with (first
                | (refine wpList_load_mid rfl 32 (.tmp 49) rfl gO (k * 3) rfl [.int .i64 y.k, .int .i64 y.i, .int .i64 y.j] _ hry2 Try.underlying32 rfl (load32 y) ?_)
                | (at_builtin; refine wpList_append_lies _ rfl _ _ 22 rfl wB.heap.size 32 i0 (.agg noP.cs.toArray) 3 24 Try.underlying22 hi hz0 hz1 hz2 rfl (by decide) (.slice A5 q c5) q (flatP S) rfl ho7 ⟨w2.heap.size, 0, none⟩ 1 1 [.int .i64 y.k, .int .i64 y.i, .int .i64 y.j] rfl rfl (World.news_of_block (cs := #[.int .i64 y.k, .int .i64 y.i, .int .i64 y.j]) (t := 32) (fr := (0, 0)) hn7) y.one (by decide) (by unfold maxLen; omega) (by omega) (by simp; omega) (w2.heap.size + 1) (by simp) ?_; intro g7 c7 w7 hw7 hgr7 hat7 hlt7))
              have hb7 := grown_from hm7 (.cells #[.int .i64 y.k, .int .i64 y.i, .int .i64 y.j] 32) hS2 hgr7
              replace hbw := hbw.trans hb7
              replace hw7 := own_snoc y hw7
              have HE := Lib.hid (And.intro hw7 hbw)
              clear ho7 hn7 hgr7 hat7 hlt7 hb7 hm7 hbw hw7 hry2 hS2
              go_wp2_with fail
              go_roundw
              case rel =>
                obtain ⟨hins, eq, tk⟩ := HI.out
                have e : q + 1 = (S ++ [y]).length := by rw [List.length_append, List.length_singleton, ← eq]
                refine ⟨k + 1, by simp, by omega, some ⟨g7, 0, none⟩, c7, S ++ [y], true, by rw [tk]; exact ins_put hins, by rw [e], rfl, inner_len (b := true) (by rw [tk]; exact ins_put hins), by rw [← e]; exact HE.out.1, HE.out.2⟩
              case measure => simp [intOf]; omega
            | false =>
              have hle := fun W => rless_any x y W
              obtain ⟨L, eL⟩ : ∃ L, L = lessP x y := ⟨_, rfl⟩
              rw [← eL] at hle
              have HLE := Lib.hid eL
              clear eL
              go_wp2_with fail
              refine wp_region_noPanic ?_
              refine wp_region_held_drew (S := (fun W => Below wr.heap.size wr W)) (by kernel_rfl) k0 (fun hHeld => ?_)
              refine wpAnyH_take (i := 0) (oi := ⟨some 26, _, _, _, _, _⟩) (v := ?_) rfl (by kernel_rfl) (by kernel_rfl) (by kernel_rfl) (fun _ _ _ h => h) (Or.inl ⟨by rfl, ?_⟩) (by assumption) ?_
              rotate_left 1
              · (intro W hSw; go_simp <;> with_reducible rfl)
              try simp only [Act.put, List.setIfInBounds_toArray, List.set_cons_zero, List.set_cons_succ]
              refine wpAnyH_take (i := 1) (oi := ⟨some 27, _, _, _, _, _⟩) (v := ?_) rfl (by kernel_rfl) (by kernel_rfl) (by kernel_rfl) (fun _ _ _ h => h) (Or.inl ⟨by rfl, ?_⟩) (by assumption) ?_
              rotate_left 1
              · (intro W hSw; go_simp <;> with_reducible rfl)
              try simp only [Act.put, List.setIfInBounds_toArray, List.set_cons_zero, List.set_cons_succ]
              refine wpAnyH_take (i := 2) (oi := ⟨some 28, _, _, _, _, _⟩) (v := ?_) rfl (by kernel_rfl) (by kernel_rfl) (by kernel_rfl) (fun _ _ _ h => h) (Or.inl ⟨by rfl, ?_⟩) (by assumption) ?_
              rotate_left 1
              · (intro W hSw; go_simp <;> with_reducible rfl)
              try simp only [Act.put, List.setIfInBounds_toArray, List.set_cons_zero, List.set_cons_succ]
              refine wpAnyH_take (i := 3) (oi := ⟨some 29, _, _, _, _, _⟩) (v := ?_) rfl (by kernel_rfl) (by kernel_rfl) (by kernel_rfl) (fun _ _ _ h => h) (Or.inl ⟨by rfl, ?_⟩) (by assumption) ?_
              rotate_left 1
              · (intro W hSw; go_simp <;> with_reducible rfl)
              try simp only [Act.put, List.setIfInBounds_toArray, List.set_cons_zero, List.set_cons_succ]
              refine wpAnyH_take (i := 4) (oi := ⟨some 30, _, _, _, _, _⟩) (v := ?_) rfl (by kernel_rfl) (by kernel_rfl) (by kernel_rfl) (fun _ _ _ h => h) (Or.inl ⟨by rfl, ?_⟩) (by assumption) ?_
              rotate_left 1
              · (intro W hSw; go_simp <;> with_reducible rfl)
              try simp only [Act.put, List.setIfInBounds_toArray, List.set_cons_zero, List.set_cons_succ]
              refine wpAnyH_take (i := 5) (oi := ⟨some 31, _, _, _, _, _⟩) (v := ?_) rfl (by kernel_rfl) (by kernel_rfl) (by kernel_rfl) (fun _ _ _ h => h) (Or.inl ⟨by rfl, ?_⟩) (by assumption) ?_
              rotate_left 1
              · (intro W hSw; go_simp <;> with_reducible rfl)
              try simp only [Act.put, List.setIfInBounds_toArray, List.set_cons_zero, List.set_cons_succ]
              refine wpAnyH_take (i := 6) (oi := ⟨some 32, _, _, _, _, _⟩) (v := .agg (List.toArray (x.cs))) rfl (by kernel_rfl) (by kernel_rfl) (by kernel_rfl) (fun _ _ _ h => h) (yieldsIf_load_mid (by rfl) 32 (.tmp 31) rfl g (o + i * 3) rfl (x.cs) _ (fun W hW => hrx W hW) Try.underlying32 rfl (load32 x)) (by assumption) ?_
              try simp only [Act.put, List.setIfInBounds_toArray, List.set_cons_zero, List.set_cons_succ]
              refine wpAnyH_take (i := 7) (oi := ⟨some 33, _, _, _, _, _⟩) (v := ?_) rfl (by kernel_rfl) (by kernel_rfl) (by kernel_rfl) (fun _ _ _ h => h) (Or.inl ⟨by rfl, ?_⟩) (by assumption) ?_
              rotate_left 1
              · (intro W hSw; go_simp <;> with_reducible rfl)
              try simp only [Act.put, List.setIfInBounds_toArray, List.set_cons_zero, List.set_cons_succ]
              refine wpAnyH_take (i := 8) (oi := ⟨some 34, _, _, _, _, _⟩) (v := ?_) rfl (by kernel_rfl) (by kernel_rfl) (by kernel_rfl) (fun _ _ _ h => h) (Or.inl ⟨by rfl, ?_⟩) (by assumption) ?_
              rotate_left 1
              · (intro W hSw; go_simp <;> with_reducible rfl)
              try simp only [Act.put, List.setIfInBounds_toArray, List.set_cons_zero, List.set_cons_succ]
              refine wpAnyH_take (i := 9) (oi := ⟨some 35, _, _, _, _, _⟩) (v := ?_) rfl (by kernel_rfl) (by kernel_rfl) (by kernel_rfl) (fun _ _ _ h => h) (Or.inl ⟨by rfl, ?_⟩) (by assumption) ?_
              rotate_left 1
              · (intro W hSw; go_simp <;> with_reducible rfl)
              try simp only [Act.put, List.setIfInBounds_toArray, List.set_cons_zero, List.set_cons_succ]
              refine wpAnyH_take (i := 10) (oi := ⟨some 36, _, _, _, _, _⟩) (v := .agg (List.toArray (y.cs))) rfl (by kernel_rfl) (by kernel_rfl) (by kernel_rfl) (fun _ _ _ h => h) (yieldsIf_load_mid (by rfl) 32 (.tmp 35) rfl gO (k * 3) rfl (y.cs) _ (fun W hW => hry W hW) Try.underlying32 rfl (load32 y)) (by assumption) ?_
              try simp only [Act.put, List.setIfInBounds_toArray, List.set_cons_zero, List.set_cons_succ]
              refine wpAnyH_ready (rs := [11]) (by kernel_rfl) (by simp) ?_
              refine AllReadyH.cons (o := ⟨some 37, _, _, _, _, _⟩) rfl (fun K hK => ?_) AllReadyH.nil
              go_simp
              refine (hle _).mono ?_
              rintro e w1 ⟨rfl, hb1⟩
              have S1 : (fun W => Below wr.heap.size wr W) w1 := stepB k0 hb1
              refine hK.out _ _ S1 (fun h1 => ?_)
              clear hHeld hK K
              try simp only [Act.put, List.setIfInBounds_toArray, List.set_cons_zero, List.set_cons_succ]
              refine wpAnyH_take (i := 12) (oi := ⟨some 38, _, _, _, _, _⟩) (v := ?_) rfl (by kernel_rfl) (by kernel_rfl) (by kernel_rfl) (fun _ _ _ h => h) (Or.inl ⟨by rfl, ?_⟩) (by assumption) ?_
              rotate_left 1
              · (intro W hSw; go_simp <;> with_reducible rfl)
              try simp only [Act.put, List.setIfInBounds_toArray, List.set_cons_zero, List.set_cons_succ]
              refine wpAnyH_done (by kernel_rfl) ?_ _
              refine NoPanic.normal ?_
              have k2 := S1
              generalize w1 = w2 at k2 ⊢
              have hS2 := ownB_below hS k2
              replace hbw := stepB hbw k2
              have hry2 := hry _ k2
              have hrx2 := hrx _ k2
              clear hS k0 hle hrx hry
              cases L with
              | true =>
                have ho5 := hS2.alloc (.cells #[.int .i64 x.k, .int .i64 x.i, .int .i64 x.j] 32)
                have hn5 : Blk (w2.alloc (.cells #[.int .i64 x.k, .int .i64 x.i, .int .i64 x.j] 32)) w2.heap.size 32 #[.int .i64 x.k, .int .i64 x.i, .int .i64 x.j] := heap_alloc_new w2 _
                have hm5 := hbw.size
                go_wp2_with (first
                  | (refine wpList_load_mid rfl 32 (.tmp 42) rfl g (o + i * 3) rfl [.int .i64 x.k, .int .i64 x.i, .int .i64 x.j] _ hrx2 Try.underlying32 rfl (load32 x) ?_)
                  | (at_builtin; refine wpList_append_lies _ rfl _ _ 22 rfl wB.heap.size 32 i0 (.agg noP.cs.toArray) 3 24 Try.underlying22 hi hz0 hz1 hz2 rfl (by decide) (.slice A5 q c5) q (flatP S) rfl ho5 ⟨w2.heap.size, 0, none⟩ 1 1 [.int .i64 x.k, .int .i64 x.i, .int .i64 x.j] rfl rfl (World.news_of_block (cs := #[.int .i64 x.k, .int .i64 x.i, .int .i64 x.j]) (t := 32) (fr := (0, 0)) hn5) x.one (by decide) (by unfold maxLen; omega) (by omega) (by simp; omega) (w2.heap.size + 1) (by simp) ?_; intro g5 c5 w5 hw5 hgr5 hat5 hlt5; have hb5 := grown_from hm5 (.cells #[.int .i64 x.k, .int .i64 x.i, .int .i64 x.j] 32) hS2 hgr5; have hbw5 := hbw.trans hb5; have hv5 := own_snoc x hw5; obtain ⟨A6, eA6⟩ : ∃ A6 : Option Addr, A6 = some ⟨g5, 0, none⟩ := ⟨_, rfl⟩; rw [← eA6] at hv5 ⊢; clear eA6; obtain ⟨O6, eO6⟩ : ∃ O6, O6 = S ++ [x] := ⟨_, rfl⟩; rw [← eO6] at hv5; have EO6 := Lib.hid eO6; clear eO6; obtain ⟨m6, em6⟩ : ∃ m6, m6 = q + 1 := ⟨_, rfl⟩; rw [← em6] at hv5 ⊢; have hM6 : m6 ≤ 500 := (by omega); have EM6 := Lib.hid em6; clear em6; have ho7 := hv5.alloc (.cells #[.int .i64 y.k, .int .i64 y.i, .int .i64 y.j] 32); have hn7 : Blk (w5.alloc (.cells #[.int .i64 y.k, .int .i64 y.i, .int .i64 y.j] 32)) w5.heap.size 32 #[.int .i64 y.k, .int .i64 y.i, .int .i64 y.j] := heap_alloc_new w5 _; have hm7 := hbw5.size; have hry5 := hryB _ hbw5; clear hw5 hgr5 hat5 hlt5 ho5 hn5)
                  | (refine wpList_load_mid rfl 32 (.tmp 49) rfl gO (k * 3) rfl [.int .i64 y.k, .int .i64 y.i, .int .i64 y.j] _ hry5 Try.underlying32 rfl (load32 y) ?_)
                  | (at_builtin; refine wpList_append_lies _ rfl _ _ 22 rfl wB.heap.size 32 i0 (.agg noP.cs.toArray) 3 24 Try.underlying22 hi hz0 hz1 hz2 rfl (by decide) (.slice A6 m6 c5) m6 (flatP O6) rfl ho7 ⟨w5.heap.size, 0, none⟩ 1 1 [.int .i64 y.k, .int .i64 y.i, .int .i64 y.j] rfl rfl (World.news_of_block (cs := #[.int .i64 y.k, .int .i64 y.i, .int .i64 y.j]) (t := 32) (fr := (0, 0)) hn7) y.one (by decide) (by unfold maxLen; omega) (by omega) (by simp; omega) (w5.heap.size + 1) (by simp) ?_; intro g7 c7 w7 hw7 hgr7 hat7 hlt7))
                have hb7 := grown_from hm7 (.cells #[.int .i64 y.k, .int .i64 y.i, .int .i64 y.j] 32) hv5 hgr7
                have hbw7 := hbw5.trans hb7
                replace hw7 := own_snoc y hw7
                have HE := Lib.hid (And.intro hw7 hbw7)
                clear ho7 hn7 hgr7 hat7 hlt7 hb7 hm7 hbw hbw5 hbw7 hw7 hry2 hrx2 hry5 hS2 hv5 hb5 hm5
                go_wp2_with fail
                go_roundw
                case rel =>
                  obtain ⟨hins, eq, tk⟩ := HI.out
                  have hi2 := ins_less hins HLE.out.symm
                  rw [← tk] at hi2
                  have e : m6 + 1 = (S ++ [x] ++ [y]).length := by rw [EM6.out, List.length_append, List.length_append, List.length_singleton, List.length_singleton, ← eq]
                  refine ⟨k + 1, by simp, by omega, some ⟨g7, 0, none⟩, c7, S ++ [x] ++ [y], true, hi2, by rw [e], rfl, inner_len hi2, by rw [← e, ← EO6.out]; exact HE.out.1, HE.out.2⟩
                case measure => simp [intOf]; omega
              | false =>
                have ho7 := hS2.alloc (.cells #[.int .i64 y.k, .int .i64 y.i, .int .i64 y.j] 32)
                have hn7 : Blk (w2.alloc (.cells #[.int .i64 y.k, .int .i64 y.i, .int .i64 y.j] 32)) w2.heap.size 32 #[.int .i64 y.k, .int .i64 y.i, .int .i64 y.j] := heap_alloc_new w2 _
                have hm7 := hbw.size
                go_wp2_with (first
                  | (refine wpList_load_mid rfl 32 (.tmp 49) rfl gO (k * 3) rfl [.int .i64 y.k, .int .i64 y.i, .int .i64 y.j] _ hry2 Try.underlying32 rfl (load32 y) ?_)
                  | (at_builtin; refine wpList_append_lies _ rfl _ _ 22 rfl wB.heap.size 32 i0 (.agg noP.cs.toArray) 3 24 Try.underlying22 hi hz0 hz1 hz2 rfl (by decide) (.slice A5 q c5) q (flatP S) rfl ho7 ⟨w2.heap.size, 0, none⟩ 1 1 [.int .i64 y.k, .int .i64 y.i, .int .i64 y.j] rfl rfl (World.news_of_block (cs := #[.int .i64 y.k, .int .i64 y.i, .int .i64 y.j]) (t := 32) (fr := (0, 0)) hn7) y.one (by decide) (by unfold maxLen; omega) (by omega) (by simp; omega) (w2.heap.size + 1) (by simp) ?_; intro g7 c7 w7 hw7 hgr7 hat7 hlt7))
                have hb7 := grown_from hm7 (.cells #[.int .i64 y.k, .int .i64 y.i, .int .i64 y.j] 32) hS2 hgr7
                replace hbw := hbw.trans hb7
                replace hw7 := own_snoc y hw7
                have HE := Lib.hid (And.intro hw7 hbw)
                clear ho7 hn7 hgr7 hat7 hlt7 hb7 hm7 hbw hw7 hry2 hrx2 hS2
                go_wp2_with fail
                go_roundw
                case rel =>
                  obtain ⟨hins, eq, tk⟩ := HI.out
                  have hi2 := ins_more hins HLE.out.symm
                  rw [← tk] at hi2
                  have e : q + 1 = (S ++ [y]).length := by rw [List.length_append, List.length_singleton, ← eq]
                  refine ⟨k + 1, by simp, by omega, some ⟨g7, 0, none⟩, c7, S ++ [y], false, hi2, by rw [e], rfl, inner_len hi2, by rw [← e]; exact HE.out.1, HE.out.2⟩
                case measure => simp [intOf]; omega
          · obtain rfl : k = m := by omega
            have t1 : decide ((k : Int) < (k : Int)) = false := decide_eq_false (by omega)
            have htk : O.take k = O := List.take_of_length_le (by have := HR.out.2.2; omega)
            rw [htk] at hins
            cases b with
            | true =>
              have hn2 := insP_put hins
              have HE := Lib.hid (And.intro (own_base hS HR.out.2.1.size) (And.intro (stepB HR.out.2.1 hbw) (And.intro eq (HR.out.1.trans hn2))))
              clear hins hS hbw eq hn2 hlw hOw hl1 hO1 htk
              go_wp2
              go_roundw
              case rel =>
                obtain ⟨h1, h2, h3, h4⟩ := HE.out
                exact ⟨i + 1, A5, c5, by simp, by omega, by rw [h4, h3], by rw [h4, ← h3]; exact h1, h2⟩
              case measure => simp [intOf]; omega
            | false =>
              have hn2 := insP_no hins
              have hrx := range_of hlw HX.out.1
              have HE0 := Lib.hid (And.intro eq (HR.out.1.trans hn2))
              clear hins eq hn2 hlw hOw hO1 htk
              have ho9 := hS.alloc (.cells #[.int .i64 x.k, .int .i64 x.i, .int .i64 x.j] 32)
              have hn9 : Blk (wr.alloc (.cells #[.int .i64 x.k, .int .i64 x.i, .int .i64 x.j] 32)) wr.heap.size 32 #[.int .i64 x.k, .int .i64 x.i, .int .i64 x.j] := heap_alloc_new wr _
              have hm9 := hbw.size
              go_wp2_with (first
                | (refine wpList_load_mid rfl 32 (.tmp 58) rfl g (o + i * 3) rfl [.int .i64 x.k, .int .i64 x.i, .int .i64 x.j] _ hrx Try.underlying32 rfl (load32 x) ?_)
                | (at_builtin; refine wpList_append_lies _ rfl _ _ 22 rfl wB.heap.size 32 i0 (.agg noP.cs.toArray) 3 24 Try.underlying22 hi hz0 hz1 hz2 rfl (by decide) (.slice A5 q c5) q (flatP S) rfl ho9 ⟨wr.heap.size, 0, none⟩ 1 1 [.int .i64 x.k, .int .i64 x.i, .int .i64 x.j] rfl rfl (World.news_of_block (cs := #[.int .i64 x.k, .int .i64 x.i, .int .i64 x.j]) (t := 32) (fr := (0, 0)) hn9) x.one (by decide) (by unfold maxLen; omega) (by omega) (by simp; omega) (wr.heap.size + 1) (by simp) ?_; intro g9 c9 w9 hw9 hgr9 hat9 hlt9))
              have hb9 := grown_from hm9 (.cells #[.int .i64 x.k, .int .i64 x.i, .int .i64 x.j] 32) hS hgr9
              replace hbw := hbw.trans hb9
              replace hw9 := own_snoc x hw9
              have HE := Lib.hid (And.intro (own_base hw9 HR.out.2.1.size) (stepB HR.out.2.1 hbw))
              clear ho9 hn9 hgr9 hat9 hlt9 hb9 hm9 hbw hw9 hrx hS hl1
              go_wp2_with fail
              go_roundw
              case rel =>
                obtain ⟨h3, h4⟩ := HE0.out
                have e : q + 1 = (S ++ [x]).length := by rw [List.length_append, List.length_singleton, ← h3]
                exact ⟨i + 1, some ⟨g9, 0, none⟩, c9, by simp, by omega, by rw [h4, e], by rw [h4, ← e]; exact HE.out.1, HE.out.2⟩
              case measure => simp [intOf]; omega
    · obtain rfl : i = n := by omega
      have t0 : decide ((i : Int) < (i : Int)) = false := decide_eq_false (by omega)
      have e : O = normP l := by rw [eO]; unfold normP; rw [HL.out]
      have hnew := own_new hO
      have hs := own_seesP hO
      obtain ⟨m, em⟩ : ∃ m, m = O.length := ⟨_, rfl⟩
      rw [← em] at hs ⊢
      have HE := Lib.hid (And.intro hs (And.intro hnew (And.intro hb e)))
      clear hO hmO eO e hnew hs em hb h
      go_wp2
      go_ret
      obtain ⟨h1, h2, h3, h4⟩ := HE.out
      exact ⟨AO, m, cO, rfl, by rw [← h4]; exact h1, fun g hg => h2 g hg.2, h3⟩
end Go.Proofs.Ytmhogmhdgbdpbaa
