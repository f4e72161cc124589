/- What is reached, plainly: from words, or from cells that are. Conditions: at most 1000 cells and words. -/
import Derived.Test.YtenobgelhkpjcaaBy
namespace Go.Proofs.Ytenobgelhkpjcaa
open Go.ChangeShapes Go.WideShapes Go.RowKit
section
variable {w : World} {C : List Cel} {l : List Wd} {G : List Bool} {A Ac Ag : Option Addr} {n cap nc cc cg : Nat}
set_option maxRecDepth 100000 in
set_option maxHeartbeats 2000000 in
theorem from_any (hw : Sees w 3 A n cap (flatW l)) (hc : Sees w 10 Ac nc cc (flatC C)) (hG : Sees w 1 Ag nc cg (bools G)) (hn : n ≤ 1000) (hnc : nc ≤ 1000) {i : Nat} (hi : i < nc) :
    Calls Try.prog 18 #[.slice A n cap, .slice Ac nc cc, .slice Ag nc cg, .int .i64 (i : Int)] w fun e w' => ∃ b, e = .returned (.bool b) ∧ (b = true ↔ From C l G i) ∧ Below w.heap.size w w' := by
  have hl : l.length = n := by
    have := hw.len
    unfold flatW at this
    rw [flat_len Wd.len] at this
    omega
  have hlC : C.length = nc := by
    have := hc.len
    unfold flatC at this
    rw [flat_len Cel.len] at this
    omega
  have hlG : G.length = nc := by
    have := hG.len
    unfold bools at this
    rw [flat_len bool_len] at this
    omega
  go_enter Try.func18, Try.ntmps18
  go_wp2_with fail
  go_loopw [9] (fun v wr => ∃ j : Nat, v = .int .i64 j ∧ j ≤ n ∧ Below w.heap.size w wr ∧ ∀ k x, k < j → l[k]? = some x → leads C x ≠ some i) (fun v _ => n - (intOf v).toNat)
  case atStart => exact ⟨0, rfl, Nat.zero_le _, Below.refl _ _, fun k x hk => absurd hk (Nat.not_lt_zero _)⟩
  case round =>
    obtain ⟨j, rfl, hj, hb, hno⟩ := hrel
    by_cases hlt : j < n
    · obtain ⟨x, hx⟩ : ∃ x, l[j]? = some x := ⟨_, List.getElem?_eq_getElem (by omega)⟩
      obtain ⟨g, o, rfl, hr⟩ := sees_at Wd.len (hw.below hb) hx (by omega)
      have t0 : decide ((j : Int) < (n : Int)) = true := decide_eq_true (by omega)
      have hby := by_any (hc.below hb) hnc x hi
      have HB := Lib.hid hb
      have HNO := Lib.hid hno
      clear hno hb
      go_wp2_with (refine wpList_load_mid rfl 35 (.tmp 19) rfl g (o + j * 3) rfl x.cs _ hr Try.underlying35 rfl (load35 x) ?_)
      refine hby.mono ?_
      rintro e w2 ⟨rfl, hb2⟩
      have hb := HB.out.trans (hb2.mono HB.out.size)
      by_cases hle : leads C x = some i
      · rw [decide_eq_true hle]
        have hF : From C l G i := .inl ⟨x, List.mem_of_getElem? hx, hle⟩
        clear hle hby hr hb2
        go_wp2
        go_ret
        exact ⟨true, rfl, by simp [hF], hb⟩
      · rw [decide_eq_false hle]
        have hno : ∀ k y, k < j + 1 → l[k]? = some y → leads C y ≠ some i := fun k y hk hy => by
          rcases Nat.lt_or_ge k j with h | h
          · exact HNO.out k y h hy
          · have e : k = j := by omega
            subst e
            rw [hx] at hy
            injection hy with hy
            subst hy
            exact hle
        have HNO2 := Lib.hid hno
        clear hno hle hby hr hb2
        go_wp2
        go_roundw
        case rel => exact ⟨j + 1, by simp, by omega, hb, HNO2.out⟩
        case measure => simp [intOf]; omega
    · obtain rfl : j = n := by omega
      have t0 : decide ((j : Int) < (j : Int)) = false := decide_eq_false (by omega)
      have HNO := Lib.hid (show ∀ x ∈ l, leads C x ≠ some i from fun x hx => by
        obtain ⟨k, hk⟩ := List.getElem?_of_mem hx
        have := (List.getElem?_eq_some_iff.1 hk).1
        exact hno k x (by omega) hk)
      have HB := Lib.hid hb
      clear hno
      go_wp2_with fail
      go_loopw [10] (fun v ws => ∃ k : Nat, v = .int .i64 k ∧ k ≤ nc ∧ Below w.heap.size w ws ∧ ∀ q c, q < k → G[q]? = some true → C[q]? = some c → ¬ (leads C c.x = some i ∨ leads C c.y = some i)) (fun v _ => nc - (intOf v).toNat)
      case atStart => exact ⟨0, rfl, Nat.zero_le _, HB.out, fun q c hq => absurd hq (Nat.not_lt_zero _)⟩
      case round =>
        obtain ⟨k, rfl, hk, hb3, hno⟩ := hrel
        by_cases hlt : k < nc
        · obtain ⟨c, hx⟩ : ∃ x, C[k]? = some x := ⟨_, List.getElem?_eq_getElem (by omega)⟩
          obtain ⟨b, hy⟩ : ∃ x, G[k]? = some x := ⟨_, List.getElem?_eq_getElem (by omega)⟩
          obtain ⟨g, o, rfl, hr⟩ := sees_at Cel.len (hc.below hb3) hx (by omega)
          obtain ⟨g', o', rfl, hr'⟩ := sees_at bool_len (hG.below hb3) hy (by omega)
          have t0 : decide ((k : Int) < (nc : Int)) = true := decide_eq_true (by omega)
          have q0 : wr.cell? ⟨g', o' + k, none⟩ = some (.bool b) := by have := hr' 0 _ rfl; simpa using this
          have HN3 := Lib.hid hno
          have HB3 := Lib.hid hb3
          have hnext : (¬ (b = true ∧ (leads C c.x = some i ∨ leads C c.y = some i))) → ∀ q c, q < k + 1 → G[q]? = some true → C[q]? = some c → ¬ (leads C c.x = some i ∨ leads C c.y = some i) := fun hn q c' hq h1 h2 => by
            rcases Nat.lt_or_ge q k with h | h
            · exact HN3.out q c' h h1 h2
            · have e : q = k := by omega
              subst e
              rw [hx] at h2
              injection h2 with h2
              subst h2
              rw [hy] at h1
              injection h1 with h1
              exact fun h => hn ⟨h1, h⟩
          have HNX := Lib.hid hnext
          clear hno hb3 hnext
          cases b with
          | false =>
            have HR := Lib.hid (HNX.out (fun h => by cases h.1))
            clear hr hr' hx hy HNX
            go_wp2
            go_roundw
            case rel => exact ⟨k + 1, by simp, by omega, HB3.out, HR.out⟩
            case measure => simp [intOf]; omega
          | true =>
            have hcw := hc.below HB3.out
            have a0 : wr.cell? ⟨g, o + k * 10 + 4, none⟩ = some (.int .i64 c.x.n) := hr 4 _ rfl
            have a1 : wr.cell? ⟨g, o + k * 10 + 4 + 1, none⟩ = some (.int .i64 c.x.c) := hr 5 _ rfl
            have a2 : wr.cell? ⟨g, o + k * 10 + 4 + 2, none⟩ = some (.int .i64 c.x.g) := hr 6 _ rfl
            have hFx : leads C c.x = some i → From C l G i := fun e => .inr ⟨k, c, hy, hx, .inl e⟩
            have hFy : leads C c.y = some i → From C l G i := fun e => .inr ⟨k, c, hy, hx, .inr e⟩
            have HF := Lib.hid (And.intro hFx hFy)
            clear hFx hFy hr'
            go_wp2_with fail
            refine (by_any hcw hnc c.x hi).mono ?_
            rintro e w2 ⟨rfl, hb2⟩
            have hb4 := HB3.out.trans (hb2.mono HB3.out.size)
            by_cases hle : leads C c.x = some i
            · rw [decide_eq_true hle]
              have hF := HF.out.1 hle
              clear hle hb2 hr a0 a1 a2
              go_wp2
              go_ret
              exact ⟨true, rfl, by simp [hF], hb4⟩
            · rw [decide_eq_false hle]
              have hgl : g < wr.heap.size := World.block_lt_of_cell? _ _ a0
              have y0 : w2.cell? ⟨g, o + k * 10 + 7, none⟩ = some (.int .i64 c.y.n) := (hb2.cell (p := ⟨g, o + k * 10 + 7, none⟩) hgl).trans (hr 7 _ rfl)
              have y1 : w2.cell? ⟨g, o + k * 10 + 7 + 1, none⟩ = some (.int .i64 c.y.c) := (hb2.cell (p := ⟨g, o + k * 10 + 8, none⟩) hgl).trans (hr 8 _ rfl)
              have y2 : w2.cell? ⟨g, o + k * 10 + 7 + 2, none⟩ = some (.int .i64 c.y.g) := (hb2.cell (p := ⟨g, o + k * 10 + 9, none⟩) hgl).trans (hr 9 _ rfl)
              have HL := Lib.hid hle
              clear hle a0 a1 a2 hr hgl
              go_wp2_with fail
              refine (by_any (hcw.below hb2) hnc c.y hi).mono ?_
              rintro e w3 ⟨rfl, hb3⟩
              have hb5 := hb4.trans (hb3.mono hb4.size)
              by_cases hle : leads C c.y = some i
              · rw [decide_eq_true hle]
                have hF := HF.out.2 hle
                clear hle y0 y1 y2 hb2 hb3
                go_wp2
                go_ret
                exact ⟨true, rfl, by simp [hF], hb5⟩
              · rw [decide_eq_false hle]
                have HR := Lib.hid (HNX.out (fun h => h.2.elim HL.out hle))
                clear hle y0 y1 y2 hb2 hb3 HNX hx hy
                go_wp2
                go_roundw
                case rel => exact ⟨k + 1, by simp, by omega, hb5, HR.out⟩
                case measure => simp [intOf]; omega
        · obtain rfl : k = nc := by omega
          have t0 : decide ((k : Int) < (k : Int)) = false := decide_eq_false (by omega)
          have hF : ¬ From C l G i := by
            rintro (⟨x, hx, h⟩ | ⟨q, c, h1, h2, h⟩)
            · exact HNO.out x hx h
            · have := (List.getElem?_eq_some_iff.1 h1).1
              exact hno q c (by omega) h1 h2 h
          clear hno
          go_wp2
          go_ret
          exact ⟨false, rfl, by simp [hF], hb3⟩
end
end Go.Proofs.Ytenobgelhkpjcaa
