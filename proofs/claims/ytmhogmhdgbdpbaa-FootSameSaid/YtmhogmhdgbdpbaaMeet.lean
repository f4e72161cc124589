/- Whether one of some places is in one of some lists. Conditions: at most 1000 places a list, at most ten lists. -/
import Derived.Test.YtmhogmhdgbdpbaaSearch
namespace Go.Proofs.Ytmhogmhdgbdpbaa
open Go.ChangeShapes Go.WideShapes Go.RowKit

set_option maxRecDepth 100000 in
set_option maxHeartbeats 1000000 in
/-- The closure, over the captured list. -/
theorem pred_any {w : World} {B : Nat} {A : Option Addr} {n cap : Nat} {l : List Pl} (hB : Blk w B 22 #[.slice A n cap]) (h : SeesP w ⟨A, n, cap⟩ l) (hn : n ≤ 1000) (hs : SortedP l) :
    Go.Proofs.PredBelow Try.prog 29 #[.pointer (some ⟨B, 0, none⟩)] (fun x : Pl => .agg x.cs.toArray) (fun x => decide (x ∈ l)) w := fun W x hb => by
  have hB1 := hB.on hb
  have hsr := fun W' (hb' : Below W.heap.size W W') => search_any ((h.on hb).on hb') hn hs x
  obtain ⟨R, eR⟩ : ∃ R, R = decide (x ∈ l) := ⟨_, rfl⟩
  rw [← eR] at hsr
  show Calls Try.prog 29 #[.agg x.cs.toArray, .pointer (some ⟨B, 0, none⟩)] W fun e w' => e = .returned (.bool (decide (x ∈ l))) ∧ Below w.heap.size w w'
  rw [← eR]
  clear eR h hB
  obtain ⟨k, i, j⟩ := x
  obtain ⟨W0, eW0⟩ : ∃ W0, W0 = W.alloc (.cells #[.int .i64 k, .int .i64 i, .int .i64 j] 32) := ⟨_, rfl⟩
  have hb0 : Below W.heap.size W W0 := by rw [eW0]; exact (Below.refl _ W).alloc (Nat.le_refl _) _
  have hcall := hsr W0 hb0
  have c0 : (W.alloc (.cells #[.int .i64 k, .int .i64 i, .int .i64 j] 32)).cell? ⟨B, 0, none⟩ = some (.slice A n cap) := by rw [← eW0]; exact (hB1.on hb0).cell 0
  rw [eW0] at hcall
  change Calls Try.prog 30 #[.slice A n cap, .agg #[.int .i64 k, .int .i64 i, .int .i64 j], .func (.func 25) #[] #[]] _ _ at hcall
  have HB := Lib.hid (And.intro hb (And.intro hb0 eW0))
  clear hsr hb hb0 eW0 hB1
  show Calls Try.prog 29 #[.agg #[.int .i64 k, .int .i64 i, .int .i64 j], .pointer (some ⟨B, 0, none⟩)] W _
  go_enter Try.func29, Try.ntmps29
  go_wp2_with fail
  refine hcall.mono ?_
  rintro e w1 ⟨ix, rfl, hb1⟩
  have HB1 := Lib.hid (show Below w.heap.size w w1 from by
    obtain ⟨h1, h2, h3⟩ := HB.out
    rw [← h3] at hb1
    exact h1.trans ((h2.trans (hb1.mono h2.size)).mono h1.size))
  clear hb1
  go_wp2
  go_ret
  exact ⟨rfl, HB1.out⟩
set_option maxRecDepth 100000 in
theorem index_none (A : Option Addr) (cap : Nat) (fv : Value) (w : World) : Calls Try.prog 37 #[.slice A 0 cap, fv] w fun e w' => e = .returned (.int .i64 (-1)) ∧ w = w' := by
  go_enter Try.func37, Try.ntmps37
  go_wp2_with fail
  refine wp_loop_rounds 1 ?_
  rw [rounds_succ]
  go_wp2
  go_ret
  exact ⟨rfl, rfl⟩
set_option maxRecDepth 100000 in
theorem some_none (A : Option Addr) (cap : Nat) (fv : Value) (w : World) : Calls Try.prog 31 #[.slice A 0 cap, fv] w fun e w' => e = .returned (.bool false) ∧ w = w' := by
  have hi := index_none A cap fv
  go_enter Try.func31, Try.ntmps31
  go_wp2_with (go_at_call 37; refine (hi _).mono ?_; rintro e w' ⟨rfl, rfl⟩)
  go_ret
  exact ⟨rfl, rfl⟩
theorem contains_any {w : World} {A : Option Addr} {n cap : Nat} {P : List Pl} (h : SeesP w ⟨A, n, cap⟩ P) (hn : n ≤ 1000) (p : Pl → Bool) (lb : Array Value)
    (hp : Go.Proofs.PredBelow Try.prog 29 lb (fun x : Pl => .agg x.cs.toArray) p w) :
    Calls Try.prog 31 #[.slice A n cap, .func (.func 29) #[] lb] w fun e w' => e = .returned (.bool (P.any p)) ∧ Below w.heap.size w w' := by
  have hl : P.length = n := h.len
  by_cases h0 : n = 0
  · subst h0
    obtain rfl := List.eq_nil_of_length_eq_zero hl
    refine (some_none A cap _ w).mono ?_
    rintro e w' ⟨rfl, rfl⟩
    exact ⟨rfl, Below.refl _ _⟩
  · have eg : ∀ args w, (callFunc 29 args).run Try.prog w = .ok (.enter 29 args) w := enters_of Try.func29 (by kernel_rfl) rfl
    obtain ⟨x, hx⟩ : ∃ x, P[0]? = some x := ⟨_, List.getElem?_eq_getElem (by omega)⟩
    obtain ⟨g, o, hA, _⟩ := h.at_ hx
    have hA : A = some ⟨g, o, none⟩ := hA
    subst hA
    have hg : g < w.heap.size := by
      obtain ⟨g', o', e, h1, _⟩ := Sees.cell h _ rfl (by show 0 < n; omega)
      injection e with e1
      subst e1
      exact h1
    have hs := Try.some_any 3 Try.isAgg32 Try.sizeOf32 Pl.cs Pl.len p 29 lb eg g o n cap P w hp (by omega) (by omega) hg (fun j hj i v hv => by
      have hy : P[j]? = some P[j]! := by rw [List.getElem?_eq_getElem hj, List.getElem!_eq_getElem?_getD, List.getElem?_eq_getElem hj]; rfl
      obtain ⟨g', o', e, h2⟩ := h.at_ hy
      injection e with e
      injection e with e1 e2
      subst e1 e2
      exact h2 i v hv)
    rw [show P.take n = P from List.take_of_length_le (by omega)] at hs
    exact hs
set_option maxRecDepth 100000 in
set_option maxHeartbeats 1000000 in
theorem ordered_any {w : World} {A : Option Addr} {n cap : Nat} {l : List Pl} (h : SeesP w ⟨A, n, cap⟩ l) (hn : n ≤ 1000) :
    Calls Try.prog 28 #[.slice A n cap] w fun e w' => ∃ A' n' cap' l', e = .returned (.slice A' n' cap') ∧ SeesP w' ⟨A', n', cap'⟩ l' ∧ n' ≤ 1000 ∧ SortedP l' ∧ (∀ z, z ∈ l' ↔ z ∈ l) ∧ Below w.heap.size w w' := by
  have hs := sorted_any h hn
  have hl : l.length = n := h.len
  go_enter Try.func28, Try.ntmps28
  go_wp2_with fail
  refine hs.mono ?_
  rintro e w1 ⟨b, rfl, hb, hbl⟩
  cases b with
  | true =>
    have HB := Lib.hid (And.intro (h.on hbl) (And.intro (hb rfl) hbl))
    clear h hs hb hbl hl
    go_wp2
    go_ret
    exact ⟨A, n, cap, l, rfl, HB.out.1, hn, HB.out.2.1, fun _ => Iff.rfl, HB.out.2.2⟩
  | false =>
    obtain ⟨W, eW⟩ : ∃ W, W = w1.alloc (.cells #[.slice A n cap] 22) := ⟨_, rfl⟩
    have hb1 : Below w1.heap.size w1 W := by rw [eW]; exact (Below.refl _ w1).alloc (Nat.le_refl _) _
    have hd : Head W w1.heap.size [(⟨A, n, cap⟩, l)] := ⟨by rw [eW]; exact heap_alloc_new w1 _, fun x hx => by
      rw [List.mem_singleton] at hx
      subst hx
      exact (h.on hbl).on hb1⟩
    have hu := union_any hd (L := l) (by simp) (by omega) (by simp)
    have hlen := normP_len l
    rw [eW] at hu
    have HB := Lib.hid (And.intro hbl (And.intro hb1 (And.intro eW (And.intro hlen hl))))
    clear h hs hb hbl hl hd hb1 eW hlen
    go_wp2_with fail
    refine hu.mono ?_
    rintro e w2 ⟨A2, n2, cap2, rfl, h2, _, hb2⟩
    have HC := Lib.hid (And.intro h2 hb2)
    clear h2 hb2
    go_wp2
    go_ret
    obtain ⟨hbl, hb1, eW, hlen, hl⟩ := HB.out
    obtain ⟨h2, hb2⟩ := HC.out
    rw [← eW] at hb2
    have hn2 : (normP l).length = n2 := h2.len
    exact ⟨A2, n2, cap2, normP l, rfl, h2, by omega, rises_falls (normP_rises l), normP_mem l, hbl.trans ((hb1.trans (hb2.mono hb1.size)).mono hbl.size)⟩
theorem hit_ord {P l l' : List Pl} (h : ∀ z, z ∈ l' ↔ z ∈ l) : (P.any fun x => decide (x ∈ l')) = hit P l := by
  unfold hit
  simp only [h]
set_option maxRecDepth 100000 in
set_option maxHeartbeats 2000000 in
theorem meet_any {w : World} {g : Nat} {H : List (Sl × List Pl)} {A : Option Addr} {n cap : Nat} {P : List Pl} (h : Head w g H) (hP : SeesP w ⟨A, n, cap⟩ P) (hn : n ≤ 1000) (hm : H.length ≤ 10) (hH : ∀ x ∈ H, x.1.n ≤ 1000) :
    Calls Try.prog 21 #[.slice A n cap, .slice (some ⟨g, 0, none⟩) H.length H.length] w fun e w' => e = .returned (.bool (H.any fun x => hit P x.2)) ∧ Below w.heap.size w w' := by
  obtain ⟨m, em⟩ : ∃ m, m = H.length := ⟨_, rfl⟩
  rw [← em]
  rw [← em] at hm
  obtain ⟨R, eR⟩ : ∃ R, R = H.any fun x => hit P x.2 := ⟨_, rfl⟩
  rw [← eR]
  have HM := Lib.hid (And.intro em eR)
  clear em eR
  go_enter Try.func21, Try.ntmps21
  go_wp2_with fail
  go_loopw [6, 7, 8, 11] (fun _ _ _ v wr => ∃ k : Nat, v = .int .i64 k ∧ k ≤ m ∧ (∀ (i : Nat) (x : Sl × List Pl), i < k → H[i]? = some x → hit P x.2 = false) ∧ Below w.heap.size w wr) (fun _ _ _ v _ => m - (intOf v).toNat)
  case atStart => exact ⟨0, rfl, Nat.zero_le _, fun i x hi => by omega, Below.refl _ _⟩
  case round =>
    obtain ⟨k, rfl, hk, hno, hb⟩ := hrel
    by_cases hlt : k < m
    · obtain ⟨⟨s, l⟩, hs⟩ : ∃ x, H[k]? = some x := ⟨_, List.getElem?_eq_getElem (by rw [← HM.out.1]; exact hlt)⟩
      have hmem := List.mem_of_getElem? hs
      have h1 := h.on hb
      have t0 : decide ((k : Int) < (m : Int)) = true := decide_eq_true (by omega)
      have c0 := h1.cell hs
      have hsn : s.n ≤ 1000 := hH _ hmem
      have hv : SeesP wr s l := h1.all _ hmem
      have b0 : (0 : Int) ≤ (k : Int) := by omega
      have b1 : (k : Int) < (m : Int) := by omega
      have hk1 : IntKind.i64.wrap ((k : Int) + 1) = ((k + 1 : Nat) : Int) := by rw [IntKind.wrap_i64]; omega
      obtain ⟨sA, sn, sc⟩ := s
      simp only at c0 hsn
      have ho := ordered_any hv hsn
      have HX := Lib.hid (And.intro hs (And.intro hno hb))
      clear hs hmem h1 hv hno hb
      go_wp2_with fail
      refine ho.mono ?_
      rintro e w1 ⟨A', n', cap', l', rfl, hl', hn', hso, hmm, hb1⟩
      obtain ⟨W, eW⟩ : ∃ W, W = w1.alloc (.cells #[.slice A' n' cap'] 22) := ⟨_, rfl⟩
      have hbW : Below w1.heap.size w1 W := by rw [eW]; exact (Below.refl _ w1).alloc (Nat.le_refl _) _
      have hBW : Blk W w1.heap.size 22 #[.slice A' n' cap'] := by rw [eW]; exact heap_alloc_new w1 _
      have hb2 := HX.out.2.2.trans ((hb1.trans (hbW.mono hb1.size)).mono HX.out.2.2.size)
      have hc := contains_any (hP.on hb2) hn _ _ (pred_any hBW (hl'.on hbW) hn' hso)
      rw [hit_ord hmm, eW] at hc
      obtain ⟨T, eT⟩ : ∃ T, T = hit P l := ⟨_, rfl⟩
      rw [← eT] at hc
      have HY := Lib.hid (And.intro hb2 (And.intro eW eT))
      clear hb1 hl' hso hmm eW hbW hBW hb2 eT ho
      go_wp2_with fail
      refine hc.mono ?_
      rintro e w3 ⟨rfl, hb3⟩
      obtain ⟨hs, hno, hb⟩ := HX.out
      obtain ⟨hb2, eW, eT⟩ := HY.out
      rw [← eW] at hb3
      have hb4 := hb2.trans (hb3.mono hb2.size)
      cases T with
      | true =>
        have hR : R = true := by
          rw [HM.out.2, List.any_eq_true]
          exact ⟨_, List.mem_of_getElem? hs, eT.symm⟩
        have HR := Lib.hid (And.intro hR hb4)
        clear hs hno hb hb2 eW eT hb3 hb4 hR hc
        go_wp2
        go_ret
        exact ⟨by rw [HR.out.1]; rfl, HR.out.2⟩
      | false =>
        have hno2 : ∀ (i : Nat) (x : Sl × List Pl), i < k + 1 → H[i]? = some x → hit P x.2 = false := fun i x hi hx => by
          by_cases e : i = k
          · subst e
            rw [hs] at hx
            injection hx with hx
            subst hx
            exact eT.symm
          · exact hno i x (by omega) hx
        have HR := Lib.hid (And.intro hno2 hb4)
        clear hs hno hb hb2 eW eT hb3 hb4 hno2 hc
        go_wp2
        go_roundw
        case rel => exact ⟨k + 1, by simp, by omega, HR.out.1, HR.out.2⟩
        case measure => simp [intOf]; omega
    · obtain rfl : k = m := by omega
      have t0 : decide ((k : Int) < (k : Int)) = false := decide_eq_false (by omega)
      have hR : R = false := by
        rw [HM.out.2, List.any_eq_false]
        intro x hx
        obtain ⟨i, hi⟩ := List.getElem?_of_mem hx
        have := hno i x (by rw [HM.out.1]; exact (List.getElem?_eq_some_iff.1 hi).1) hi
        simp [this]
      have HR := Lib.hid (And.intro hR hb)
      clear hR hno hb
      go_wp2
      go_ret
      exact ⟨by rw [HR.out.1]; rfl, HR.out.2⟩
end Go.Proofs.Ytmhogmhdgbdpbaa
