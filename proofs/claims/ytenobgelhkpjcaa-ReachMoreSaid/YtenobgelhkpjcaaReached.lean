/- What is reached, by the program. Conditions: at most 8 cells, at most 1000 words. -/
import Derived.Test.YtenobgelhkpjcaaTake
import Derived.Deep.LoopGhost
namespace Go.Proofs.Ytenobgelhkpjcaa
open Go.ChangeShapes Go.WideShapes Go.RowKit

theorem made_flat (n : Nat) (hn : n ≤ 8) : (madeCells (Value.bool false).cells (n * 1)).toList = bools (List.replicate n false) := by
  rcases (by omega : n = 0 ∨ n = 1 ∨ n = 2 ∨ n = 3 ∨ n = 4 ∨ n = 5 ∨ n = 6 ∨ n = 7 ∨ n = 8) with rfl | rfl | rfl | rfl | rfl | rfl | rfl | rfl | rfl <;> kernel_rfl
theorem cut36 (z : Nat) (w : World) : (Instr.sliceAt 36 (.pointer (some ⟨z, 0, none⟩)) none none none).run Try.prog w = .ok (.slice (some ⟨z, 0, none⟩) 2 2) w := by kernel_rfl
theorem one36 (c : Cel) : (c.x.cs ++ c.y.cs).toArray.all (·.oneCell') = true := by simp [Wd.cs, Value.oneCell']
/-- A list of bools that tells what is reached, new. -/
def Tells (C : List Cel) (l : List Wd) (w : World) (e : Ending) (w' : World) : Prop :=
  ∃ A cap R, e = .returned (.slice A C.length cap) ∧ IsReach C l R ∧ Sees w' 1 A C.length cap (bools R) ∧ Below w.heap.size w w' ∧ ∀ g, lies A g → w.heap.size ≤ g
section
variable {w : World} {C : List Cel} {l : List Wd} {A Ac : Option Addr} {n cap nc cc : Nat}
/-- A search that is under way. -/
def Way (w : World) (p : Nat) (Ac : Option Addr) (cc : Nat) (Ar : Option Addr) (cr : Nat) (C : List Cel) (l : List Wd) (k : Nat) (wr : World) : Prop :=
  ∃ An m cn s, Srch wr ⟨p, Ac, C.length, cc, Ar, cr, An, m, cn⟩ C s ∧ Seek C l s ∧ s.meas = k ∧ Below w.heap.size w wr ∧ w.heap.size ≤ p ∧ (∀ g, lies Ar g → w.heap.size ≤ g) ∧ ∀ g, lies An g → w.heap.size ≤ g
set_option maxRecDepth 100000 in
set_option maxHeartbeats 2000000 in
theorem reached_any (hw : Sees w 3 A n cap (flatW l)) (hc : Sees w 10 Ac nc cc (flatC C)) (hn : n ≤ 1000) (hnc : nc ≤ 8) : Calls Try.prog 10 #[.slice A n cap, .slice Ac nc cc] w (Tells C l w) := by
  obtain ⟨i0, hi, hz0, hz1, hz2⟩ := info_parts info4
  have hlC : C.length = nc := by
    have := hc.len
    unfold flatC at this
    rw [flat_len Cel.len] at this
    omega
  subst hlC
  obtain ⟨N, eN⟩ : ∃ N, N = C.length := ⟨_, rfl⟩
  rw [← eN] at hc hnc ⊢
  have EN := Lib.hid eN
  have hfl := Lib.hid (made_flat N hnc)
  have Z2 := Lib.hid hz2
  have HW := Lib.hid hw
  have HC := Lib.hid hc
  clear hz2 eN hw hc
  go_enter Try.func10, Try.ntmps10
  go_wp2_with (first
    | (at_make; refine wpList_make_full _ rfl _ _ 28 rfl w.heap.size 4 i0 (.bool false) 1 Try.underlying28 hi hz0 hz1 .i64 .i64 _ _ N rfl rfl rfl rfl (by rw [Z2.out]; omega) (by unfold maxLen; omega) (Nat.le_refl _) ?_; intro w1 hown1 hg1))
  have e1 : w.heap.size ≤ w1.heap.size := hg1.size
  have hb1 : Below w.heap.size w w1 := (Below.refl _ _).grown hg1 (Nat.le_refl _) (by simp)
  rw [hfl.out] at hown1
  obtain ⟨w2, ew2⟩ : ∃ W, W = w1.alloc (.cells #[.slice Ac N cc, .slice (some ⟨w.heap.size, 0, none⟩) N N, .slice none 0 0] 44) := ⟨_, rfl⟩
  have hb2 : Below w.heap.size w w2 := by rw [ew2]; exact hb1.alloc e1 _
  have hcw := HC.out
  have HS : Srch w2 ⟨w1.heap.size, Ac, N, cc, some ⟨w.heap.size, 0, none⟩, N, none, 0, 0⟩ C (sta0 N) := by
    rw [ew2]
    refine ⟨heap_alloc_new w1 _, hcw.below (ew2 ▸ hb2), own_low (hown1.alloc _), World.ownsRow_nil _ _ _ _, ?_⟩
    rintro g hg (e | e | e)
    · have := hcw.lt g hg
      have e : g = w1.heap.size := e
      omega
    · have := hcw.lt g hg
      have e2 : w.heap.size = g := by simpa [lies] using e
      omega
    · cases e
  rw [← ew2]
  clear ew2
  generalize w1.heap.size = p at HS e1 ⊢
  clear hown1 hg1 hb1
  have hsum : (sta0 N).R.count false + (sta0 N).Q.length ≤ 1000 := by simp [sta0]; omega
  have hoff : ∀ g, holds A n g → ¬ (⟨p, Ac, N, cc, some ⟨w.heap.size, 0, none⟩, N, none, 0, 0⟩ : Lim).S g := by
    rintro g hg (e | e | e)
    · have := HW.out.lt g hg
      have e : g = p := e
      omega
    · have := HW.out.lt g hg
      have e2 : w.heap.size = g := by simpa [lies] using e
      omega
    · cases e
  refine (follow_any HS (HW.out.below hb2) hoff hn (by dsimp only; omega) hsum).mono ?_
  rintro e w3 ⟨rfl, An, m, cn, hS3, hK3, hN3⟩
  dsimp only at hS3 hN3
  have HWay : Way w p Ac cc (some ⟨w.heap.size, 0, none⟩) N C l ((sta0 N).follow C l).meas w3 := by
    refine ⟨An, m, cn, _, ?_, ?_, rfl, hb2.trans (hK3.under _ hb2.size ?_), e1, fun g hg => ?_, fun g hg => ?_⟩
    · rw [← EN.out]; exact hS3
    · rw [EN.out]; exact seek0 C l
    · rintro g (e | e | e)
      · have e : g = p := e
        omega
      · have e2 : w.heap.size = g := by simpa [lies] using e
        omega
      · cases e
    · have e2 : w.heap.size = g := by simpa [lies] using hg
      omega
    · rcases hN3 g hg with e | e
      · cases e
      · exact Nat.le_trans hb2.size e
  obtain ⟨K0, eK⟩ : ∃ K, K = ((sta0 N).follow C l).meas := ⟨_, rfl⟩
  rw [← eK] at HWay
  clear eK HS hS3 hK3 hN3 hoff hsum hb2 e1
  obtain ⟨Ar, eAr⟩ : ∃ Ar : Option Addr, Ar = some ⟨w.heap.size, 0, none⟩ := ⟨_, rfl⟩
  rw [← eAr] at HWay
  clear eAr
  go_wp2_with fail
  go_loopg [] K0 (fun k wr => Way w p Ac cc Ar N C l k wr)
  case atStart => exact HWay
  case round =>
    obtain ⟨An', m', cn', s, hS, hK, hM, hB, hp, hR, hQ⟩ := hrel
    have hwt := waits_any hS
    rcases List.eq_nil_or_concat s.Q with hq | ⟨Q, q, hq⟩
    · rw [hq] at hwt
      have a1 : wr.cell? ⟨p, 1, none⟩ = some (.slice Ar C.length N) := hS.box.cell 1
      rw [← EN.out] at a1
      clear HWay
      go_wp2_with fail
      refine hwt.mono ?_
      rintro e w' ⟨rfl, rfl⟩
      go_wp2
      go_ret
      refine ⟨Ar, N, s.R, by rw [← EN.out]; rfl, hK.done hq, own_sees hS.oR, hB, hR⟩
    · rw [List.concat_eq_append] at hq
      have hqm : q ∈ s.Q := by rw [hq]; simp
      have hqn : q < C.length := by
        have := (List.getElem?_eq_some_iff.1 (hK.good.queue q hqm)).1
        rw [hK.good.len] at this
        exact this
      obtain ⟨c, hc⟩ : ∃ c, C[q]? = some c := ⟨_, List.getElem?_eq_getElem hqn⟩
      obtain ⟨hn1, hn2⟩ := hK.next hq hc
      have hsm := hK.good.sum
      have hlQ := hS.lenQ
      have hlt : decide (0 < s.Q.length) = true := decide_eq_true (by rw [hq]; simp)
      have hN8 : C.length ≤ 8 := by rw [← EN.out]; exact hnc
      rw [hlt] at hwt
      obtain ⟨R0, Q0⟩ := s
      dsimp only at hq hn1 hn2 hsm hlQ
      subst hq
      have htk := take_any hS hc (by dsimp only; omega) (by dsimp only; omega)
      have hsl := cut36
      have hf4 := field4 c
      clear HWay hlt
      go_wp2_with fail
      refine hwt.mono ?_
      rintro e w' ⟨rfl, rfl⟩
      go_wp2_with fail
      refine htk.mono ?_
      rintro e w4 ⟨rfl, hS4, hK4⟩
      have hBk : Blk (w4.alloc (.cells (noW.cs ++ noW.cs).toArray 36)) w4.heap.size 36 (noW.cs ++ noW.cs).toArray := heap_alloc_new w4 _
      obtain ⟨w5, ew5⟩ : ∃ W, W = (w4.alloc (.cells (noW.cs ++ noW.cs).toArray 36)).setRow w4.heap.size (c.x.cs ++ c.y.cs).toArray := ⟨_, rfl⟩
      have hb5 : Below w4.heap.size w4 w5 := by rw [ew5]; exact below_setRow ((Below.refl _ w4).alloc (Nat.le_refl _) _) (Nat.le_refl _) _
      have hB5 : Blk w5 w4.heap.size 36 (c.x.cs ++ c.y.cs).toArray := by rw [ew5]; exact setRow_heap _ _ _ _ _ _ hBk
      have hz4 := hS4.lt
      have hc4 := hS4.cells.lt
      have hS5 := hS4.below hb5
      have hw5 : Sees w5 3 (some ⟨w4.heap.size, 0, none⟩) 2 2 (flatW [c.x, c.y]) := by
        refine ⟨rfl, Nat.le_refl _, by decide, fun e => (by cases e), fun ad e _ => ?_⟩
        injection e with e
        subst e
        refine ⟨_, 0, rfl, hB5.lt, ?_⟩
        have := range_blk hB5
        rw [show flatW [c.x, c.y] = c.x.cs ++ c.y.cs by simp [flatW]]
        exact this
      have hoff : ∀ g, holds (some ⟨w4.heap.size, 0, none⟩) 2 g → ¬ (⟨p, Ac, C.length, cc, Ar, N, An', Q.length, cn'⟩ : Lim).S g := fun g hg e => by
        have e2 : w4.heap.size = g := by simpa [lies] using hg.2
        have := hz4 g e
        omega
      have hfo := follow_any hS5 hw5 hoff (by omega) (by dsimp only; omega) (by dsimp only; rw [List.length_append, List.length_singleton] at hsm; omega)
      have HA := Lib.hid (And.intro hB (And.intro hK4 (And.intro hb5 (And.intro hn1 hn2))))
      have HQ := Lib.hid (And.intro hp (And.intro hR hQ))
      dsimp only at hfo
      clear hS hK hB hwt htk hS4 hK4 hS5 hw5 hoff hn1 hn2 hb5 hz4 hc4 hp hR hQ hsm hlQ hqm hqn hc hB5
      go_wp2_with (first
        | (refine wpList_store_row rfl 36 (.tmp 6) (.tmp 16) rfl w4.heap.size (c.x.cs ++ c.y.cs).toArray rfl rfl 36 (noW.cs ++ noW.cs).toArray hBk size36 rfl (one36 c) ?_
           show wpList _ _ _ _ _ ((w4.alloc (.cells (noW.cs ++ noW.cs).toArray 36)).setRow w4.heap.size (c.x.cs ++ c.y.cs).toArray)
           rw [← ew5]
           clear ew5 hBk))
      refine hfo.mono ?_
      rintro e w6 ⟨rfl, An6, m6, cn6, hS6, hK6, hN6⟩
      dsimp only at hS6 hN6
      obtain ⟨hB, hK4, hb5, hn1, hn2⟩ := HA.out
      obtain ⟨hp, hR, hQ⟩ := HQ.out
      have hL : ∀ g, (⟨p, Ac, C.length, cc, Ar, N, An', Q.length, cn'⟩ : Lim).S g → w.heap.size ≤ g := by
        rintro g (e | e | e)
        · have e : g = p := e
          omega
        · exact hR g e
        · exact hQ g e
      have hBw4 : Below w.heap.size w w4 := hB.trans (hK4.under _ hB.size hL)
      have hBw5 := hBw4.trans (hb5.mono hBw4.size)
      go_wp2_with fail
      go_roundg ((⟨R0, Q⟩ : Sta).follow C [c.x, c.y]).meas
      case measure => rw [← hM]; exact hn2
      case rel =>
        refine ⟨An6, m6, cn6, _, hS6, hn1, rfl, hBw5.trans (hK6.under _ hBw5.size hL), hp, hR, fun g hg => ?_⟩
        rcases hN6 g hg with e | e
        · exact hQ g e
        · exact Nat.le_trans hBw5.size e
end
end Go.Proofs.Ytenobgelhkpjcaa
