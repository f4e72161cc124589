/- What the law's wrong answers: where octets are wrong first, and what is. Conditions: at most 30 octets. -/
import Derived.Test.YtmkdmnaonddghaaDoorGet
namespace Go.Proofs.YtmkdmnaonddghaaDoor
open Go.RowKit

def mostR : Array Value := #[.int .i64 3, .int .i64 1, .int .i64 8, .int .i64 16, .int .i64 4, .int .i64 3]
def leastR : Array Value := #[.int .i64 0, .int .i64 0, .int .i64 1, .int .i64 0, .int .i64 1, .int .i64 1]
theorem most_at (k : Nat) (h : k < 6) : mostR[k]? = some (.int .i64 (mostAt k)) := by
  rcases (by omega : k = 0 ∨ k = 1 ∨ k = 2 ∨ k = 3 ∨ k = 4 ∨ k = 5) with rfl | rfl | rfl | rfl | rfl | rfl <;> rfl
theorem least_at (k : Nat) (h : k < 6) : leastR[k]? = some (.int .i64 (leastAt k)) := by
  rcases (by omega : k = 0 ∨ k = 1 ∨ k = 2 ∨ k = 3 ∨ k = 4 ∨ k = 5) with rfl | rfl | rfl | rfl | rfl | rfl <;> rfl
theorem cut_lh (A : Option Addr) (n cap : Nat) (hc : 9 ≤ cap) (w : World) :
    (Instr.slice 29 (.slice A n cap) (some (.int .i64 6)) (some (.int .i64 9)) none).run Tryd.prog w = .ok (.slice (A.map (·.add 6)) 3 (cap - 6)) w := by
  rw [run_slice_lh w 29 A n cap under22 .i64 .i64 6 9 (by omega) (by omega) (by omega), size22]
  simp only [Result.andThen, sliced]
  have e : ¬ cap = 6 := by omega
  simp [e]
set_option maxRecDepth 100000 in
set_option maxHeartbeats 1000000 in
theorem wrong_any (xs : List Int) (ad : Option Addr) (n cap : Nat) (w : World) (h : Oct w w.heap.size ad n cap xs) (hn : n ≤ 30) :
    Calls Tryd.prog 16 #[.slice ad n cap] w fun e w' => e = .returned (.tuple #[.int .i64 (wrongL xs).1, .int .i64 (wrongL xs).2]) ∧ Below w.heap.size w w' := by
  obtain ⟨⟨z1, z2⟩, ez⟩ : ∃ z, wrongL xs = z := ⟨_, rfl⟩
  rw [ez]
  simp only
  obtain ⟨W, eW⟩ : ∃ W, W = (w.alloc (.cells #[.int .i64 3, .int .i64 1, .int .i64 8, .int .i64 16, .int .i64 4, .int .i64 3] 3)).alloc (.cells #[.int .i64 0, .int .i64 0, .int .i64 1, .int .i64 0, .int .i64 1, .int .i64 1] 3) := ⟨_, rfl⟩
  have hb : Below w.heap.size w W := by rw [eW]; exact ((Below.refl _ w).alloc (Nat.le_refl _) _).alloc (by simp) _
  have hM : Blk W w.heap.size 3 mostR := by rw [eW]; exact Blk.below (heap_alloc_new w _) ((Below.refl _ _).alloc (Nat.le_refl _) _) (by simp)
  have hLs : Blk W (w.heap.size + 1) 3 leastR := by rw [eW]; exact heap_alloc2_new w _ _
  have hO := h.below hb
  have hl := h.len
  have hroom := h.room
  have hmx := h.most
  unfold maxLen at hmx
  have hsm := h.small
  have HLN := Lib.hid hl
  have HM : Hid (∀ W' : World, Below W.heap.size W W' → ∀ k, k < 6 → W'.cell? ⟨w.heap.size, k, none⟩ = some (.int .i64 (mostAt k)) ∧ W'.cell? ⟨w.heap.size + 1, k, none⟩ = some (.int .i64 (leastAt k))) := Lib.hid fun W' hW k hk => ⟨((hM.below hW hM.lt).cell k).trans (most_at k hk), ((hLs.below hW hLs.lt).cell k).trans (least_at k hk)⟩
  have HO : Hid (∀ W' : World, Below W.heap.size W W' → Oct W' w.heap.size ad n cap xs) := Lib.hid fun W' hW => hO.below (hW.mono hb.size)
  have HS := Lib.hid hsm
  have EZ := Lib.hid ez
  clear hl hM hLs hO hsm h ez
  go_enter Tryd.func16, Tryd.ntmps16
  go_wp2_with fail
  rw [← eW]
  clear eW
  go_loopw [6] (fun i wr => ∃ k : Nat, k ≤ 6 ∧ i = .int .i64 k ∧ badK xs k = none ∧ Below W.heap.size W wr) (fun i _ => 6 - (intOf i).toNat)
  case atStart => exact ⟨0, by omega, rfl, rfl, Below.refl _ _⟩
  case round =>
    obtain ⟨k, hk, rfl, hbad, hbk⟩ := hrel
    have HBK := Lib.hid hbad
    have HQ := Lib.hid (hb.trans (hbk.mono hb.size))
    clear hbad
    by_cases hlt : k < 6
    · have t0 : decide ((k : Int) < 6) = true := decide_eq_true (by omega)
      have j0 : (0 : Int) ≤ (k : Int) := by omega
      have j1 : (k : Int) < 6 := by omega
      by_cases hkn : n ≤ k
      · have t1 : decide ((n : Int) ≤ (k : Int)) = true := decide_eq_true (by omega)
        have hz : wrongL xs = ((n : Int), 1) := wrong_some HBK.out (by unfold badAt; rw [HLN.out, if_pos hkn]) hlt
        rw [EZ.out] at hz
        obtain ⟨rfl, rfl⟩ := Prod.mk.inj hz
        clear hz
        go_wp2
        go_ret2
        exact ⟨rfl, HQ.out⟩
      · have t1 : decide ((n : Int) ≤ (k : Int)) = false := decide_eq_false (by omega)
        have j2 : (k : Int) < (n : Int) := by omega
        obtain ⟨a, rfl⟩ : ∃ a, ad = some a := by
          cases ad with
          | none => have := (HO.out _ hbk).zero.1; omega
          | some a => exact ⟨a, rfl⟩
        have hcx := ((HO.out _ hbk).cell a rfl k (by omega)).2
        obtain ⟨hcm, hcl⟩ := HM.out _ hbk k hlt
        have hA : badAt xs k = if inB (xs.getD k 0) (leastAt k) (mostAt k) then none else some ((k : Int), 3) := by unfold badAt; rw [if_neg (by rw [HLN.out]; omega)]
        have hx0 : 0 ≤ xs.getD k 0 ∧ xs.getD k 0 ≤ 255 := HS.out.at_ k
        generalize xs.getD k 0 = x at *
        generalize leastAt k = lo at *
        generalize mostAt k = hi at *
        obtain ⟨b0, b1⟩ := hx0
        by_cases hgt : hi < x
        · have u1 : decide (hi < x) = true := decide_eq_true hgt
          have hi0 : inB x lo hi = false := by simp [inB]; omega
          rw [hi0] at hA
          have hz := wrong_some HBK.out hA hlt
          rw [EZ.out] at hz
          obtain ⟨rfl, rfl⟩ := Prod.mk.inj hz
          clear hz hA hgt hi0
          go_wp2
          go_quiet (fail)
          go_wp2
          go_ret2
          exact ⟨rfl, below_drew HQ.out _⟩
        · have u1 : decide (hi < x) = false := decide_eq_false hgt
          by_cases hlo : x < lo
          · have u2 : decide (x < lo) = true := decide_eq_true hlo
            have hi0 : inB x lo hi = false := by simp [inB]; omega
            rw [hi0] at hA
            have hz := wrong_some HBK.out hA hlt
            rw [EZ.out] at hz
            obtain ⟨rfl, rfl⟩ := Prod.mk.inj hz
            clear hz hA hgt hi0 hlo
            go_wp2
            go_quiet (fail)
            go_wp2
            go_ret2
            exact ⟨rfl, below_drew HQ.out _⟩
          · have u2 : decide (x < lo) = false := decide_eq_false hlo
            have hi0 : inB x lo hi = true := (inB_iff _ _ _).2 (by omega)
            rw [hi0] at hA
            have HN := Lib.hid (badK_none HBK.out hA)
            clear hA hgt hi0 hlo
            go_wp2
            go_quiet (fail)
            go_wp2
            go_roundw
            case rel => exact ⟨k + 1, by omega, by go_num, HN.out, below_drew hbk _⟩
            case measure => simp [intOf]; omega
    · obtain rfl : k = 6 := by omega
      have hrest := wrong_rest HBK.out
      rw [EZ.out] at hrest
      unfold restL14 at hrest
      rw [HLN.out] at hrest
      clear EZ HBK
      by_cases h9 : n < 9
      · have t1 : decide ((n : Int) < 9) = true := decide_eq_true (by omega)
        rw [if_pos h9] at hrest
        obtain ⟨rfl, rfl⟩ := Prod.mk.inj hrest
        go_wp2
        go_ret2
        exact ⟨rfl, HQ.out⟩
      · have t1 : decide ((n : Int) < 9) = false := decide_eq_false (by omega)
        rw [if_neg h9] at hrest
        have hOk := HO.out _ hbk
        obtain ⟨a, rfl⟩ : ∃ a, ad = some a := by
          cases ad with
          | none => have := hOk.zero.1; omega
          | some a => exact ⟨a, rfl⟩
        have hwin := hOk.window (l := 6) (k := 3) (c := cap - 6) (by omega) (by omega) (by omega) (by unfold maxLen; omega)
        have hT := take_ref _ _ 3 (cap - 6) wr _ hwin (by omega)
        rw [show wrap64 (val ((xs.drop 6).take 3)) = vAt xs 6 3 from rfl] at hT
        have hcut := cut_lh (some a) n cap (by omega)
        have h9c : 9 < n → wr.cell? (a.add 9) = some (.int .u8 (xs.getD 9 0)) := fun hh => (hOk.cell a rfl 9 hh).2
        have HR := Lib.hid hrest
        have H9 := Lib.hid h9c
        clear hrest h9c hOk hwin hbk hb
        generalize vAt xs 6 3 = v at *
        generalize xs.getD 9 0 = x9 at *
        by_cases hv : 1048576 < v
        · have u1 : decide (1048576 < v) = true := decide_eq_true hv
          have hrest := HR.out
          rw [if_pos hv] at hrest
          obtain ⟨rfl, rfl⟩ := Prod.mk.inj hrest
          clear HR hrest hv
          go_wp2_with fail
          refine hT.mono ?_
          rintro e w1 ⟨rfl, rfl⟩
          go_wp2
          go_ret2
          exact ⟨rfl, HQ.out⟩
        · have u1 : decide (1048576 < v) = false := decide_eq_false hv
          have hrest := HR.out
          rw [if_neg hv] at hrest
          clear HR hv
          by_cases h10 : n < 10
          · have u2 : decide ((n : Int) < 10) = true := decide_eq_true (by omega)
            rw [if_pos (.inl h10)] at hrest
            obtain ⟨rfl, rfl⟩ := Prod.mk.inj hrest
            clear hrest
            go_wp2_with fail
            refine hT.mono ?_
            rintro e w1 ⟨rfl, rfl⟩
            go_wp2
            go_ret2
            exact ⟨rfl, HQ.out⟩
          · have u2 : decide ((n : Int) < 10) = false := decide_eq_false (by omega)
            have hc9 := H9.out (by omega)
            change wr.cell? ⟨a.block, a.off + 9, none⟩ = _ at hc9
            have k9 : (9 : Int) < (n : Int) := by omega
            by_cases hx : 1 < x9
            · have u3 : decide (1 < x9) = true := decide_eq_true hx
              rw [if_pos (.inr hx)] at hrest
              obtain ⟨rfl, rfl⟩ := Prod.mk.inj hrest
              clear hrest
              go_wp2_with fail
              refine hT.mono ?_
              rintro e w1 ⟨rfl, rfl⟩
              go_wp2
              go_ret2
              exact ⟨rfl, HQ.out⟩
            · have u3 : decide (1 < x9) = false := decide_eq_false hx
              rw [if_neg (show ¬ (n < 10 ∨ 1 < x9) by omega)] at hrest
              by_cases h11 : 10 < n
              · have u4 : decide ((10 : Int) < (n : Int)) = true := decide_eq_true (by omega)
                rw [if_pos h11] at hrest
                obtain ⟨rfl, rfl⟩ := Prod.mk.inj hrest
                clear hrest
                go_wp2_with fail
                refine hT.mono ?_
                rintro e w1 ⟨rfl, rfl⟩
                go_wp2
                go_ret2
                exact ⟨rfl, HQ.out⟩
              · have u4 : decide ((10 : Int) < (n : Int)) = false := decide_eq_false (by omega)
                rw [if_neg h11] at hrest
                obtain ⟨rfl, rfl⟩ := Prod.mk.inj hrest
                clear hrest
                go_wp2_with fail
                refine hT.mono ?_
                rintro e w1 ⟨rfl, rfl⟩
                go_wp2
                go_ret2
                exact ⟨rfl, HQ.out⟩
end Go.Proofs.YtmkdmnaonddghaaDoor
