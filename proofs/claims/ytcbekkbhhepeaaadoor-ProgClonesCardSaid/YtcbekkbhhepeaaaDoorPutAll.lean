/- The contract of prog's Put. Conditions: the variable 'rows' lies as it is laid. -/
import Derived.Test.YtcbekkbhhepeaaaDoorNums
namespace Go.Proofs.YtcbekkbhhepeaaaDoor
open Go.RowKit

theorem chkP_parts {r c s : Int} {xss : List (List Ins)} (h : chkP r c s xss = 0) : okHead r c s = true ∧ 1 ≤ xss.length ∧ xss.length ≤ 4 ∧ (∀ xs ∈ xss, xs.length ≤ 16) ∧ chkM r s xss = 0 := by
  unfold chkP at h
  split at h
  · omega
  rename_i h1
  split at h
  · omega
  rename_i h2
  split at h
  · omega
  rename_i h3
  refine ⟨by simpa using h1, by omega, by omega, fun xs hx => ?_, h⟩
  have h4 : long xs = false := by
    cases hl : long xs with
    | false => rfl
    | true => exact absurd (List.any_eq_true.2 ⟨xs, hx, hl⟩) h3
  have := of_decide_eq_false h4
  omega
def Puts (ys : List Int) (w : World) (e : Ending) (w' : World) : Prop := ∃ A n cap, e = .returned (.tuple #[.slice A n cap, .int .i64 0]) ∧ Oct w' w'.heap.size A n cap ys ∧ Below w.heap.size w w'

set_option maxRecDepth 100000 in
theorem put_bad {w : World} {S : Nat → Prop} {A : Option Addr} {n cap : Nat} {xss : List (List Ins)} (h : Mat w S A n cap xss) (hS : ∀ g, S g → g < w.heap.size) (hL : Laid w) (r c s : Int) (hv : chkP r c s xss ≠ 0) :
    Calls Tryd.prog 10 #[.agg #[.int .i64 r, .int .i64 c, .int .i64 s, .slice A n cap]] w fun e w' => e = .returned (.tuple #[.slice none 0 0, .int .i64 (chkP r c s xss)]) ∧ Below w.heap.size w w' := by
  obtain ⟨W0, eW0⟩ : ∃ W0, W0 = w.alloc (.cells #[.int .i64 r, .int .i64 c, .int .i64 s, .slice A n cap] 24) := ⟨_, rfl⟩
  have b0 : Below w.heap.size w W0 := by rw [eW0]; exact (Below.refl _ w).alloc (Nat.le_refl _) _
  have p0 : Blk W0 w.heap.size 24 #[.int .i64 r, .int .i64 c, .int .i64 s, .slice A n cap] := by rw [eW0]; exact heap_alloc_new w _
  have z0 := p0.cell 0
  have z1 := p0.cell 1
  have z2 := p0.cell 2
  have z3 := p0.cell 3
  have hC := prog_check (h.below b0 hS) (fun g hg => Nat.lt_of_lt_of_le (hS g hg) b0.size) (hL.on b0) r c s
  generalize chkP r c s xss = v at hv hC
  clear p0 h
  go_enter Tryd.func10, Tryd.ntmps10
  go_wp2_with fail
  rw [← eW0]
  clear eW0
  go_wp2_with fail
  refine hC.mono ?_
  rintro e w1 ⟨rfl, hb1⟩
  go_wp2
  go_ret2
  exact ⟨rfl, b0.trans (hb1.mono b0.size)⟩

theorem lit_cells (w : World) (ns : List Int) : ∀ (i : Nat) (x : Int), ns[i]? = some x → (w.alloc (.cells (ns.map (Value.int .i64)).toArray 3)).cell? ⟨w.heap.size, i, none⟩ = some (.int .i64 x) := by
  intro i x hx
  have hb : Blk (w.alloc (.cells (ns.map (Value.int .i64)).toArray 3)) w.heap.size 3 (ns.map (Value.int .i64)).toArray := heap_alloc_new w _
  rw [hb.cell]
  simp [hx]
theorem octs_step {Y Z : List Int} {k : Nat} {xss : List (List Ins)} {xs : List Ins} (h : Y = Z ++ octM (xss.take k)) (hx : xss[k]? = some xs) : Y ++ octT xs = Z ++ octM (xss.take (k + 1)) := by
  rw [h, take_snoc hx, octM, octM, List.flatMap_append]
  simp

theorem own_below {w w' : World} {base n sz : Nat} {e : TypeId} {v : Value} {xs : List Value} (h : w.ownsRow base e sz v n xs) (hb : Below w.heap.size w w') : w'.ownsRow base e sz v n xs := by
  refine ⟨h.1, ?_⟩
  rcases h.2 with h2 | ⟨g, cap, cur, e1, e2, h3, h4⟩
  · exact .inl h2
  · exact .inr ⟨g, cap, cur, e1, e2, (hb.block g (Array.getElem?_eq_some_iff.1 h3).1).trans h3, h4⟩

set_option maxRecDepth 100000 in
set_option maxHeartbeats 2000000 in
theorem put_good {w : World} {S : Nat → Prop} {A : Option Addr} {n cap : Nat} {xss : List (List Ins)} (h : Mat w S A n cap xss) (hS : ∀ g, S g → g < w.heap.size) (hL : Laid w) (r c s : Int) (hv : chkP r c s xss = 0) :
    Calls Tryd.prog 10 #[.agg #[.int .i64 r, .int .i64 c, .int .i64 s, .slice A n cap]] w (Puts (octP r c s xss) w) := by
  have hm := len_i64 h.room h.most
  have hlen := Lib.hid h.len
  obtain ⟨_, hn1, hn4, h16, _⟩ := chkP_parts hv
  rw [h.len] at hn1 hn4
  have HB : Hid (∀ k, (octH r c s n ++ octM (xss.take k)).length ≤ 777) := Lib.hid (fun k => by
    rw [List.length_append, octM_len]
    have h1 := sizeM_take xss k
    have h2 := sizeM_le 16 xss h16
    rw [h.len] at h2
    have : (1 + 12 * 16) * n ≤ 193 * 4 := Nat.mul_le_mul (by omega) hn4
    show 5 + _ ≤ _
    omega)
  have H16 := Lib.hid h16
  clear h16
  obtain ⟨W0, eW0⟩ : ∃ W0, W0 = w.alloc (.cells #[.int .i64 r, .int .i64 c, .int .i64 s, .slice A n cap] 24) := ⟨_, rfl⟩
  have b0 : Below w.heap.size w W0 := by rw [eW0]; exact (Below.refl _ w).alloc (Nat.le_refl _) _
  have p0 : Blk W0 w.heap.size 24 #[.int .i64 r, .int .i64 c, .int .i64 s, .slice A n cap] := by rw [eW0]; exact heap_alloc_new w _
  have z0 := p0.cell 0
  have z1 := p0.cell 1
  have z2 := p0.cell 2
  have z3 := p0.cell 3
  have hC := prog_check (h.below b0 hS) (fun g hg => Nat.lt_of_lt_of_le (hS g hg) b0.size) (hL.on b0) r c s
  rw [hv] at hC
  clear hv
  go_enter Tryd.func10, Tryd.ntmps10
  go_wp2_with fail
  rw [← eW0]
  clear eW0
  go_wp2_with fail
  refine hC.mono ?_
  rintro e w1 ⟨rfl, hb1⟩
  have p1 := p0.below hb1 p0.lt
  have b1 := b0.trans (hb1.mono b0.size)
  clear hC p0 z0 z1 z2 z3 hb1 b0
  have z0 := p1.cell 0
  have z1 := p1.cell 1
  have z2 := p1.cell 2
  have z3 := p1.cell 3
  have hlit := lit_cells w1 [83, r, c, s, (n : Int)]
  have hN := numbers_any [] [83, r, c, s, (n : Int)] none 0 0 w1.heap.size 5 _ (Oct.nil _ _) rfl (by omega) (by omega) hlit (by simp)
  clear hlit
  have b2 : Below w.heap.size w (w1.alloc (.cells ([83, r, c, s, (n : Int)].map (Value.int .i64)).toArray 3)) := b1.alloc b1.size _
  go_wp2_with fail
  refine hN.mono ?_
  rintro e w2 ⟨A2, n2, cap2, rfl, ho2, hb2, hown2⟩
  have b3 := b2.trans (hb2.mono b2.size)
  have own3 := own_mono hown2 b2.size
  have HQ : Hid (Oct w2 w2.heap.size A2 n2 cap2 (octH r c s n ++ octM (xss.take 0)) ∧ Below w.heap.size w w2 ∧ w2.ownsRow w.heap.size 5 1 (.slice A2 n2 cap2) n2 (nums (octH r c s n ++ octM (xss.take 0)))) := Lib.hid ⟨by rw [List.take_zero, show octM [] = [] from rfl, List.append_nil]; exact ho2, b3, by rw [List.take_zero, show octM [] = [] from rfl, List.append_nil]; exact own3⟩
  have a1 : Below w1.heap.size w1 (w1.alloc (.cells ([83, r, c, s, (n : Int)].map (Value.int .i64)).toArray 3)) := (Below.refl _ _).alloc (Nat.le_refl _) _
  have p2 := (p1.below a1 p1.lt).below hb2 (Nat.lt_of_lt_of_le p1.lt a1.size)
  clear hN ho2 hb2 hown2 b3 own3 b2 z0 z1 z2 z3 b1 p1 a1
  have z3 : w2.cell? ⟨w.heap.size, 3, none⟩ = some (.slice A n cap) := p2.cell 3
  clear p2
  go_wp2_with fail
  go_loopw [5, 29] (fun v i wr => ∃ k : Nat, i = .int .i64 k ∧ k ≤ n ∧ ∃ A' N cap', v = .slice A' N cap' ∧ Oct wr wr.heap.size A' N cap' (octH r c s n ++ octM (xss.take k)) ∧ Below w.heap.size w wr ∧ wr.ownsRow w.heap.size 5 1 v N (nums (octH r c s n ++ octM (xss.take k)))) (fun _ i _ => n - (intOf i).toNat)
  case atStart => exact ⟨0, rfl, Nat.zero_le _, A2, n2, cap2, rfl, HQ.out.1, HQ.out.2.1, HQ.out.2.2⟩
  case round =>
    obtain ⟨k, rfl, hk, A3, n3, cap3, rfl, ho3, hb3, hown3⟩ := hrel
    clear HQ z3
    generalize wr = w3 at *
    by_cases hlt : k < n
    · have h3 := h.below hb3 hS
      obtain ⟨g, off, A1, n1, c1, xs, rfl, hg, hx, h0, hl⟩ := h3.at_ k hlt
      have t0 : decide ((k : Int) < (n : Int)) = true := decide_eq_true (by omega)
      have i0 : (0 : Int) ≤ (k : Int) := by omega
      have i1 : (k : Int) < (n : Int) := by omega
      have hS3 : ∀ g, S g → g < w3.heap.size := fun g hg => Nat.lt_of_lt_of_le (hS g hg) hb3.size
      have hl16 := H16.out xs (List.mem_of_getElem? hx)
      rw [hl.len] at hl16
      have hm1 := len_i64 hl.room hl.most
      obtain ⟨Y, hY⟩ : ∃ Y, octH r c s n ++ octM (xss.take k) = Y := ⟨_, rfl⟩
      have hYl := HB.out k
      rw [hY] at ho3 hown3 hYl
      have HY := Lib.hid hY
      have HX := Lib.hid hx
      have HL1 := Lib.hid hl.len
      have hn3 := ho3.len
      have HS := Lib.hid ho3.small
      clear hY hx h3
      have a3 : Below w3.heap.size w3 (w3.alloc (.cells ([(n1 : Int)].map (Value.int .i64)).toArray 3)) := (Below.refl _ _).alloc (Nat.le_refl _) _
      have hN := numbers_any Y [(n1 : Int)] A3 n3 cap3 w3.heap.size 1 _ ((ho3.below a3).more a3.size) rfl (by omega) (by omega) (lit_cells w3 [(n1 : Int)]) (by simp)
      have b4 := hb3.trans (a3.mono hb3.size)
      clear ho3
      go_wp2_with fail
      refine hN.mono ?_
      rintro e w4 ⟨A4, n4, cap4, rfl, ho4, hb4, hown4⟩
      have b5 := b4.trans (hb4.mono b4.size)
      have own5 := own_mono hown4 a3.size
      have q5 := a3.trans (hb4.mono a3.size)
      clear hN hown3 hown4 hb4 b4 h0 a3
      have HQ : Hid (Oct w4 w4.heap.size A4 n4 cap4 (Y ++ dig n1 0 :: (xs.take 0).flatMap octI) ∧ Below w3.heap.size w3 w4 ∧ w4.ownsRow w3.heap.size 5 1 (.slice A4 n4 cap4) n4 (nums (Y ++ dig n1 0 :: (xs.take 0).flatMap octI))) := Lib.hid ⟨ho4, q5, own5⟩
      clear ho4 q5 own5
      go_wp2_with fail
      go_loopw [5, 40] (fun v i wr => ∃ j : Nat, i = .int .i64 j ∧ j ≤ n1 ∧ ∃ A' N cap', v = .slice A' N cap' ∧ Oct wr wr.heap.size A' N cap' (Y ++ dig n1 0 :: (xs.take j).flatMap octI) ∧ Below w3.heap.size w3 wr ∧ wr.ownsRow w3.heap.size 5 1 v N (nums (Y ++ dig n1 0 :: (xs.take j).flatMap octI))) (fun _ i _ => n1 - (intOf i).toNat)
      case atStart => exact ⟨0, rfl, Nat.zero_le _, A4, n4, cap4, rfl, HQ.out.1, HQ.out.2.1, HQ.out.2.2⟩
      case round =>
        obtain ⟨j, rfl, hj, A6, n6, cap6, rfl, ho6, hb6, hown6⟩ := hrel
        clear HQ
        generalize wr = w6 at *
        by_cases hjt : j < n1
        · obtain ⟨g2, off2, x, rfl, hg2, hx2, hc⟩ := (hl.below hb6 hS3).at_ j hjt
          have t1 : decide ((j : Int) < (n1 : Int)) = true := decide_eq_true (by omega)
          have j0 : (0 : Int) ≤ (j : Int) := by omega
          have j1 : (j : Int) < (n1 : Int) := by omega
          obtain ⟨Z, hZ⟩ : ∃ Z, Y ++ dig n1 0 :: (xs.take j).flatMap octI = Z := ⟨_, rfl⟩
          have hE : Z ++ octI x = Y ++ dig n1 0 :: (xs.take (j + 1)).flatMap octI := by
            rw [← hZ, take_snoc hx2, List.flatMap_append]
            simp
          have hZl : Z.length ≤ 1200 := by
            rw [← hZ, List.length_append, List.length_cons, octT_len, List.length_take]
            omega
          rw [hZ] at ho6 hown6
          have HE := Lib.hid hE
          have hn6 := ho6.len
          obtain ⟨d0, d1, d2, d3, d4⟩ := id hc
          obtain ⟨f0, f1, f2, f3, f4⟩ := At5.new w6 x.o x.a x.b x.c x.n
          have a6 : Below w6.heap.size w6 (w6.alloc (.cells #[.int .i64 x.o, .int .i64 x.a, .int .i64 x.b, .int .i64 x.c, .int .i64 x.n] 45)) := (Below.refl _ _).alloc (Nat.le_refl _) _
          have hP := put_i x.o x.a x.b x.c x.n (w6.alloc (.cells #[.int .i64 x.o, .int .i64 x.a, .int .i64 x.b, .int .i64 x.c, .int .i64 x.n] 45))
          have own6 := own_below hown6 a6
          have q6 := hb6.trans (a6.mono hb6.size)
          clear hown6 ho6 hZ hE hx2 hc
          go_wp2_with fail
          refine hP.mono ?_
          rintro e w8 ⟨A8, n8, cap8, rfl, ho8, hb8, _⟩
          have own8 := own_below own6 hb8
          have q8 := q6.trans (hb8.mono q6.size)
          obtain rfl : n8 = 12 := ho8.len.symm
          clear own6 hP d0 d1 d2 d3 d4 f0 f1 f2 f3 f4 q6 a6
          go_wp2_with (first
            | (at_builtin; refine wpList_append_octets rfl (.tmp 44) (.tmp 46) rfl w3.heap.size (.slice A6 n6 cap6) n6 Z rfl own8 w8.heap.size A8 12 cap8 (five x.o x.a x.b x.c x.n) rfl ho8 (by omega) q8.size ?_; intro v9 w9 hown9 hg9))
          have hb9 : Below w3.heap.size w3 w9 := q8.grown hg9 q8.size (fun g hv => (own8.lt g hv).1)
          have hZs : Small (Z ++ octI x) := by
            rw [HE.out]
            exact HS.out.app (fun y hy => by
              rcases List.mem_cons.1 hy with rfl | hy
              · exact dig_in _ _
              · exact flat_small octI_small _ y hy)
          obtain ⟨A9, cap9, rfl, ho9⟩ := Oct.own hown9 hZs
          have HQ := Lib.hid (And.intro ho9 (And.intro hb9 hown9))
          clear own8 ho8 hb8 hown9 hg9 hb9 ho9 hZs q8
          go_wp2
          go_roundw
          case rel => exact ⟨j + 1, by go_num, by omega, A9, n6 + 12, cap9, rfl, by rw [← HE.out]; exact HQ.out.1, HQ.out.2.1, by rw [← HE.out]; exact HQ.out.2.2⟩
          case measure => simp [intOf]; omega
        · have t1 : decide ((j : Int) < (n1 : Int)) = false := decide_eq_false (by omega)
          obtain rfl : j = n1 := by omega
          have hxs : xs.take j = xs := List.take_of_length_le (by rw [HL1.out]; exact Nat.le_refl _)
          have hE : Y ++ dig j 0 :: (xs.take j).flatMap octI = octH r c s n ++ octM (xss.take (k + 1)) := by
            rw [hxs, ← octs_step HY.out.symm HX.out]
            unfold octT
            rw [HL1.out]
          rw [hE] at ho6 hown6
          have HQ := Lib.hid (And.intro ho6 (And.intro (hb3.trans (hb6.mono hb3.size)) (own_mono hown6 hb3.size)))
          clear ho6 hown6 hb6 hxs hE
          go_wp2
          go_roundw
          case rel => exact ⟨k + 1, by go_num, by omega, A6, n6, cap6, rfl, HQ.out.1, HQ.out.2.1, HQ.out.2.2⟩
          case measure => simp [intOf]; omega
    · have t0 : decide ((k : Int) < (n : Int)) = false := decide_eq_false (by omega)
      obtain rfl : k = n := by omega
      have e : xss.take k = xss := List.take_of_length_le (by rw [hlen.out]; exact Nat.le_refl _)
      rw [e] at ho3
      clear hown3 e
      have HQ : Hid (Oct w3 w3.heap.size A3 n3 cap3 (octP r c s xss)) := Lib.hid (by unfold octP; rw [hlen.out]; exact ho3)
      clear ho3
      go_wp2
      go_ret2
      exact ⟨A3, n3, cap3, rfl, HQ.out, hb3⟩
end Go.Proofs.YtcbekkbhhepeaaaDoor
