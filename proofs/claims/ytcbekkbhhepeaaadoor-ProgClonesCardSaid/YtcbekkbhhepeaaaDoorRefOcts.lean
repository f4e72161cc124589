/- The contract of the plain Put of a program. Conditions: at most 2000 octets. -/
import Derived.Test.YtcbekkbhhepeaaaDoorPutAll
namespace Go.Proofs.YtcbekkbhhepeaaaDoor
open Go.RowKit

theorem dig0 (x : Int) : dig x 0 = x % 256 := by simp [dig]
theorem oct_one (w : World) (x : Int) : Oct (w.alloc (.cells #[.int .u8 (x % 256)] 5)) (w.alloc (.cells #[.int .u8 (x % 256)] 5)).heap.size (some ⟨w.heap.size, 0, none⟩) 1 1 [dig x 0] := by
  refine ⟨rfl, Nat.le_refl _, by unfold maxLen; omega, fun h => (by cases h), fun y hy => ?_, fun ad ha i hi => ?_⟩
  · obtain rfl := List.mem_singleton.1 hy
    exact dig_in _ _
  · injection ha with ha
    subst ha
    obtain rfl : i = 0 := by omega
    have hb : Blk (w.alloc (.cells #[.int .u8 (x % 256)] 5)) w.heap.size 5 #[.int .u8 (x % 256)] := heap_alloc_new w _
    refine ⟨by simp, ?_⟩
    rw [plain_add, hb.cell, dig0]
    rfl
theorem octH_lit (r c s n : Int) : nums (octH r c s n) = (#[.int .u8 83, .int .u8 (r % 256), .int .u8 (c % 256), .int .u8 (s % 256), .int .u8 (n % 256)] : Array Value).toList := by
  simp [nums, octH, dig0]

set_option maxRecDepth 100000 in
set_option maxHeartbeats 2000000 in
theorem ref_put {w : World} {S : Nat → Prop} {A : Option Addr} {n cap : Nat} {xss : List (List Ins)} (h : Mat w S A n cap xss) (hS : ∀ g, S g → g < w.heap.size) (r c s : Int) (hsz : sizeM xss ≤ 1900) :
    Calls Tryd.prog 13 #[.agg #[.int .i64 r, .int .i64 c, .int .i64 s, .slice A n cap]] w (Gives (octP r c s xss) w) := by
  have hm := len_i64 h.room h.most
  have hlen := Lib.hid h.len
  have HB : Hid (∀ k, (octH r c s n ++ octM (xss.take k)).length ≤ 1905) := Lib.hid (fun k => by
    rw [List.length_append, octM_len]
    have h1 := sizeM_take xss k
    show 5 + _ ≤ _
    omega)
  obtain ⟨W0, eW0⟩ : ∃ W0, W0 = w.alloc (.cells #[.int .i64 r, .int .i64 c, .int .i64 s, .slice A n cap] 24) := ⟨_, rfl⟩
  have b0 : Below w.heap.size w W0 := by rw [eW0]; exact (Below.refl _ w).alloc (Nat.le_refl _) _
  have p0 : Blk W0 w.heap.size 24 #[.int .i64 r, .int .i64 c, .int .i64 s, .slice A n cap] := by rw [eW0]; exact heap_alloc_new w _
  have z0 := p0.cell 0
  have z1 := p0.cell 1
  have z2 := p0.cell 2
  have z3 := p0.cell 3
  replace h := h.below b0 hS
  replace hS : ∀ g, S g → g < W0.heap.size := fun g hg => Nat.lt_of_lt_of_le (hS g hg) b0.size
  obtain ⟨W1, eW1⟩ : ∃ W1, W1 = W0.alloc (.cells #[.int .u8 83, .int .u8 (r % 256), .int .u8 (c % 256), .int .u8 (s % 256), .int .u8 (n % 256)] 5) := ⟨_, rfl⟩
  have b1 : Below W0.heap.size W0 W1 := by rw [eW1]; exact (Below.refl _ _).alloc (Nat.le_refl _) _
  have s0 : W0.heap.size = w.heap.size + 1 := by rw [eW0]; simp
  have own1 : W1.ownsRow W0.heap.size 5 1 (.slice (some ⟨w.heap.size + 1, 0, none⟩) 5 5) 5 (nums (octH r c s n)) := by
    rw [eW1, octH_lit, ← s0]
    exact World.ownsRow_lit W0 _ 5 (Nat.le_refl _) (by unfold maxLen; omega) rfl
  have HQ : Hid (Below W0.heap.size W0 W1 ∧ W1.ownsRow W0.heap.size 5 1 (.slice (some ⟨w.heap.size + 1, 0, none⟩) 5 5) 5 (nums (octH r c s n ++ octM (xss.take 0)))) := Lib.hid ⟨b1, by rw [List.take_zero, show octM [] = [] from rfl, List.append_nil]; exact own1⟩
  have q3 : W1.cell? ⟨w.heap.size, 3, none⟩ = some (.slice A n cap) := (b1.cell p0.lt).trans (p0.cell 3)
  clear b1 own1 s0
  go_enter Tryd.func13, Tryd.ntmps13
  go_wp2_with fail
  rw [← eW0]
  clear eW0
  go_wp2_with fail
  rw [← eW1]
  clear eW1 z0 z1 z2 z3
  go_wp2_with fail
  go_loopw [3, 4] (fun v i wr => ∃ k : Nat, i = .int .i64 k ∧ k ≤ n ∧ ∃ A' N cap', v = .slice A' N cap' ∧ Below W0.heap.size W0 wr ∧ wr.ownsRow W0.heap.size 5 1 v N (nums (octH r c s n ++ octM (xss.take k)))) (fun _ i _ => n - (intOf i).toNat)
  case atStart => exact ⟨0, rfl, Nat.zero_le _, _, 5, 5, rfl, HQ.out.1, HQ.out.2⟩
  case round =>
    obtain ⟨k, rfl, hk, A3, n3, cap3, rfl, hb3, hown3⟩ := hrel
    clear HQ q3
    generalize wr = w3 at *
    have z3 : w3.cell? ⟨w.heap.size, 3, none⟩ = some (.slice A n cap) := (hb3.cell p0.lt).trans (p0.cell 3)
    by_cases hlt : k < n
    · have h3 := h.below hb3 hS
      obtain ⟨g, off, A1, n1, c1, xs, rfl, hg, hx, h0, hl⟩ := h3.at_ k hlt
      have t0 : decide ((k : Int) < (n : Int)) = true := decide_eq_true (by omega)
      have i0 : (0 : Int) ≤ (k : Int) := by omega
      have i1 : (k : Int) < (n : Int) := by omega
      have hm1 := len_i64 hl.room hl.most
      obtain ⟨Y, hY⟩ : ∃ Y, octH r c s n ++ octM (xss.take k) = Y := ⟨_, rfl⟩
      have hYl := HB.out k
      have hY1 := HB.out (k + 1)
      rw [← octs_step hY.symm hx] at hY1
      rw [hY] at hown3 hYl
      have hYs : Small Y := by rw [← hY]; exact (octH_small _ _ _ _).app (octM_small _)
      have HY := Lib.hid hY
      have HX := Lib.hid hx
      have HL1 := Lib.hid hl.len
      have hYn : Y.length + (1 + 12 * n1) ≤ 1905 := by
        rw [List.length_append, octT, List.length_cons, octT_len, hl.len] at hY1
        omega
      have hn3 : Y.length = n3 := by have := hown3.1; rw [nums_len] at this; omega
      clear hY hx h3 hY1
      have e1 : (n1 : Int) % 256 = n1 := by omega
      have a4 : Below w3.heap.size w3 (w3.alloc (.cells #[.int .u8 (n1 : Int)] 5)) := (Below.refl _ _).alloc (Nat.le_refl _) _
      have ho4 := oct_one w3 n1
      rw [e1] at ho4
      have own4 := own_below hown3 a4
      have q4 := hb3.trans (a4.mono hb3.size)
      have hb3s := hb3.size
      have q4s := q4.size
      clear hown3 a4 e1
      go_wp2_with (first
        | (at_builtin; (refine wpList_append_octets rfl (.tmp 27) (.tmp 35) rfl W0.heap.size (.slice A3 n3 cap3) n3 Y rfl own4 _ (some ⟨w3.heap.size, 0, none⟩) 1 1 [dig n1 0] rfl ho4 (by omega) q4s ?_; intro v5 w5 hown5 hg5)))
      have hb5 : Below W0.heap.size W0 w5 := q4.grown hg5 q4.size (fun g hv => (own4.lt g hv).1)
      obtain ⟨A5, cap5, rfl, ho5⟩ := Oct.own hown5 (hYs.app (fun y hy => by obtain rfl := List.mem_singleton.1 hy; exact dig_in _ _))
      have HQ : Hid (Below W0.heap.size W0 w5 ∧ w5.ownsRow W0.heap.size 5 1 (.slice A5 (n3 + 1) cap5) (n3 + 1) (nums (Y ++ dig n1 0 :: (xs.take 0).flatMap octI))) := Lib.hid ⟨hb5, hown5⟩
      have q3 : w5.cell? ⟨w.heap.size, 3, none⟩ = some (.slice (some ⟨g, off, none⟩) n cap) := (hb5.cell p0.lt).trans (p0.cell 3)
      have q0 : w5.cell? ⟨g, off + k, none⟩ = some (.slice A1 n1 c1) := (hb5.cell (hS g hg)).trans ((hb3.cell (hS g hg)).symm.trans h0)
      clear own4 ho4 q4 q4s ho5 hown5 hg5 z3
      go_wp2_with fail
      go_loopw [3, 5] (fun v i wr => ∃ j : Nat, i = .int .i64 j ∧ j ≤ n1 ∧ ∃ A' N cap', v = .slice A' N cap' ∧ Below W0.heap.size W0 wr ∧ wr.ownsRow W0.heap.size 5 1 v N (nums (Y ++ dig n1 0 :: (xs.take j).flatMap octI))) (fun _ i _ => n1 - (intOf i).toNat)
      case atStart => exact ⟨0, rfl, Nat.zero_le _, A5, n3 + 1, cap5, rfl, HQ.out.1, HQ.out.2⟩
      case round =>
        obtain ⟨j, rfl, hj, A6, n6, cap6, rfl, hb6, hown6⟩ := hrel
        clear HQ q3 q0
        generalize wr = w6 at *
        have z3 : w6.cell? ⟨w.heap.size, 3, none⟩ = some (.slice (some ⟨g, off, none⟩) n cap) := (hb6.cell p0.lt).trans (p0.cell 3)
        have zk : w6.cell? ⟨g, off + k, none⟩ = some (.slice A1 n1 c1) := (hb6.cell (hS g hg)).trans ((hb3.cell (hS g hg)).symm.trans h0)
        have hl6 : Lst w6 S A1 n1 c1 xs := hl.keep fun p hp => (hb6.cell (hS _ hp)).trans (hb3.cell (hS _ hp)).symm
        by_cases hjt : j < n1
        · obtain ⟨g2, off2, x, rfl, hg2, hx2, hc⟩ := hl6.at_ j hjt
          have t1 : decide ((j : Int) < (n1 : Int)) = true := decide_eq_true (by omega)
          have j0 : (0 : Int) ≤ (j : Int) := by omega
          have j1 : (j : Int) < (n1 : Int) := by omega
          obtain ⟨Z, hZ⟩ : ∃ Z, Y ++ dig n1 0 :: (xs.take j).flatMap octI = Z := ⟨_, rfl⟩
          have hE : Z ++ octI x = Y ++ dig n1 0 :: (xs.take (j + 1)).flatMap octI := by
            rw [← hZ, take_snoc hx2, List.flatMap_append]
            simp
          have hZl : Z.length ≤ 1905 := by
            rw [← hZ, List.length_append, List.length_cons, octT_len, List.length_take]
            omega
          rw [hZ] at hown6
          have HE := Lib.hid hE
          have hn6 : Z.length = n6 := by have := hown6.1; rw [nums_len] at this; omega
          obtain ⟨d0, d1, d2, d3, d4⟩ := id hc
          have hP := ref_i x.o x.a x.b x.c x.n w6
          have s6 := hb6.size
          clear hZ hE hx2 hc
          go_wp2_with fail
          refine hP.mono ?_
          rintro e w8 ⟨A8, n8, cap8, rfl, ho8, hb8, _⟩
          have own8 := own_below hown6 hb8
          have q8 := hb6.trans (hb8.mono s6)
          obtain rfl : n8 = 12 := ho8.len.symm
          clear hown6 hP d0 d1 d2 d3 d4 z3 zk hl6
          go_wp2_with (first
            | (at_builtin; refine wpList_append_octets rfl (.tmp 47) (.tmp 56) rfl W0.heap.size (.slice A6 n6 cap6) n6 Z rfl own8 w8.heap.size A8 12 cap8 (five x.o x.a x.b x.c x.n) rfl ho8 (by omega) q8.size ?_; intro v9 w9 hown9 hg9))
          have hb9 : Below W0.heap.size W0 w9 := q8.grown hg9 q8.size (fun g hv => (own8.lt g hv).1)
          have hZs : Small (Z ++ octI x) := by
            rw [HE.out]
            exact hYs.app (fun y hy => by
              rcases List.mem_cons.1 hy with rfl | hy
              · exact dig_in _ _
              · exact flat_small octI_small _ y hy)
          obtain ⟨A9, cap9, rfl, ho9⟩ := Oct.own hown9 hZs
          have HQ := Lib.hid (And.intro hb9 hown9)
          clear own8 ho8 hb8 hown9 hg9 hb9 ho9 hZs q8
          go_wp2
          go_roundw
          case rel => exact ⟨j + 1, by go_num, by omega, A9, n6 + 12, cap9, rfl, HQ.out.1, by rw [← HE.out]; exact HQ.out.2⟩
          case measure => simp [intOf]; omega
        · have t1 : decide ((j : Int) < (n1 : Int)) = false := decide_eq_false (by omega)
          obtain rfl : j = n1 := by omega
          have hxs : xs.take j = xs := List.take_of_length_le (by rw [HL1.out]; exact Nat.le_refl _)
          have hE : Y ++ dig j 0 :: (xs.take j).flatMap octI = octH r c s n ++ octM (xss.take (k + 1)) := by
            rw [hxs, ← octs_step HY.out.symm HX.out]
            unfold octT
            rw [HL1.out]
          rw [hE] at hown6
          have HQ := Lib.hid (And.intro hb6 hown6)
          clear hown6 hxs hE hl6
          go_wp2
          go_roundw
          case rel => exact ⟨k + 1, by go_num, by omega, A6, n6, cap6, rfl, HQ.out.1, HQ.out.2⟩
          case measure => simp [intOf]; omega
    · have t0 : decide ((k : Int) < (n : Int)) = false := decide_eq_false (by omega)
      obtain rfl : k = n := by omega
      have e : xss.take k = xss := List.take_of_length_le (by rw [hlen.out]; exact Nat.le_refl _)
      rw [e] at hown3
      have hE : octH r c s k ++ octM xss = octP r c s xss := by unfold octP; rw [hlen.out]
      rw [hE] at hown3
      obtain ⟨A', cap', he, ho⟩ := Oct.own hown3 (octP_small r c s xss)
      injection he with e1 e2 e3
      subst e1 e3
      have HQ := Lib.hid (And.intro ho (own_mono hown3 b0.size))
      clear hown3 e hE ho
      go_wp2
      go_ret
      exact ⟨A3, n3, cap3, rfl, HQ.out.1, b0.trans (hb3.mono b0.size), HQ.out.2⟩
end Go.Proofs.YtcbekkbhhepeaaaDoor
