/- What goes of a thread's bag, and the thread behind it, by the plain answer. Conditions: at most a thousand elements; numbers of 64 bits. -/
import Derived.Test.YtllcgidachbnlaaGoes
namespace Go.Proofs.Ytllcgidachbnlaa
open Go.RowKit Go.ChangeShapes Go.WideShapes Go.Great

theorem goneL_len (c : Cf) (x : Th) (z : List Int) (l : List Bg) : (goneL c x z l).length ≤ l.length := by
  unfold goneL
  split
  · exact freeL_len l z
  · split
    · exact goL_len l x.n
    · split
      · rw [List.length_take]
        omega
      · exact Nat.zero_le _
theorem restL_len (c : Cf) (x : Th) (z : List Int) (l : List Bg) : (restL c x z l).length ≤ l.length := by
  unfold restL
  split
  · exact keptL_len l z
  · split
    · exact stayL_len l x.n
    · split
      · rw [List.length_drop]
        omega
      · exact Nat.le_refl _
set_option maxRecDepth 100000 in
set_option maxHeartbeats 4000000 in
theorem rrelease_any {w : World} {x : Th} {z s : List Int} {l : List Bg} (c : Cf) (h : Reads w x z l s) (u1 : x.se.n ≤ 1000) (u2 : x.bg.n ≤ 1000) (u3 : x.sn.n ≤ 1000) (hW : ∀ b ∈ l, Wide b.n) (hn : Wide x.n) :
    Calls Try.prog 15 #[.agg c.cs.toArray, .agg x.cs.toArray] w fun e w' => ∃ B1 d1 B2 d2 B3 d3, e = .returned (.tuple #[.slice B1 (goneL c x z l).length d1, .agg (relT c x ⟨B2, (restL c x z l).length, d2⟩ ⟨B3, (snapL c s).length, d3⟩).cs.toArray]) ∧
      w'.ownsRow w.heap.size 48 3 (.slice B1 (goneL c x z l).length d1) (goneL c x z l).length (flatB (goneL c x z l)) ∧ Own w.heap.size w' (relT c x ⟨B2, (restL c x z l).length, d2⟩ ⟨B3, (snapL c s).length, d3⟩) [] (restL c x z l) (snapL c s) ∧ Below w.heap.size w w' := by
  obtain ⟨p1, f1⟩ : ∃ p, w.heap.size = p := ⟨_, rfl⟩
  obtain ⟨W1, ea1⟩ : ∃ W, w.alloc (.cells c.cs.toArray 26) = W := ⟨_, rfl⟩
  have ka1 : Below w.heap.size w W1 := by rw [← ea1]; exact (Below.refl _ w).alloc (Nat.le_refl _) _
  have b1 : Blk W1 p1 26 c.cs.toArray := by rw [← ea1]; exact blk_new w _ 26 _ f1
  have kk : Below w.heap.size w W1 := ka1
  have hp1 : w.heap.size ≤ p1 := Nat.le_of_eq f1
  clear ka1
  obtain ⟨p2, f2⟩ : ∃ p, W1.heap.size = p := ⟨_, rfl⟩
  obtain ⟨W2, ea2⟩ : ∃ W, W1.alloc (.cells x.cs.toArray 35) = W := ⟨_, rfl⟩
  have ka2 : Below W1.heap.size W1 W2 := by rw [← ea2]; exact (Below.refl _ W1).alloc (Nat.le_refl _) _
  have b2 : Blk W2 p2 35 x.cs.toArray := by rw [← ea2]; exact blk_new W1 _ 35 _ f2
  have q1_2 : p1 < p2 := by rw [← f2]; exact b1.lt
  replace b1 := b1.on ka2
  have kk0 := kk
  replace kk := kk.trans (ka2.mono kk.size)
  have hp2 : w.heap.size ≤ p2 := by rw [← f2]; exact kk0.size
  clear ka2 kk0
  obtain ⟨p3, f3⟩ : ∃ p, W2.heap.size = p := ⟨_, rfl⟩
  obtain ⟨W3, ea3⟩ : ∃ W, W2.alloc (.cells #[.int .i64 0, .int .i64 0, .int .i64 0, .int .i64 0, .int .i64 0, .int .i64 0, .int .i64 0, .int .i64 0, .int .i64 0, .int .i64 0, .int .i64 0, .int .i64 0, .int .i64 0, .int .i64 0, .int .i64 0, .int .i64 0, .int .i64 0, .int .i64 0, .slice none 0 0, .slice none 0 0, .slice none 0 0, .int .i64 0] 35) = W := ⟨_, rfl⟩
  have ka3 : Below W2.heap.size W2 W3 := by rw [← ea3]; exact (Below.refl _ W2).alloc (Nat.le_refl _) _
  have b3 : Blk W3 p3 35 #[.int .i64 0, .int .i64 0, .int .i64 0, .int .i64 0, .int .i64 0, .int .i64 0, .int .i64 0, .int .i64 0, .int .i64 0, .int .i64 0, .int .i64 0, .int .i64 0, .int .i64 0, .int .i64 0, .int .i64 0, .int .i64 0, .int .i64 0, .int .i64 0, .slice none 0 0, .slice none 0 0, .slice none 0 0, .int .i64 0] := by rw [← ea3]; exact blk_new W2 _ 35 _ f3
  have q1_3 : p1 < p3 := by rw [← f3]; exact b1.lt
  replace b1 := b1.on ka3
  have q2_3 : p2 < p3 := by rw [← f3]; exact b2.lt
  replace b2 := b2.on ka3
  have kk0 := kk
  replace kk := kk.trans (ka3.mono kk.size)
  have hp3 : w.heap.size ≤ p3 := by rw [← f3]; exact kk0.size
  clear ka3 kk0
  have hlen : l.length = x.bg.n := h.bg.len
  have hbm := Sees.most h.bg
  have hbr := Sees.room h.bg
  unfold maxLen at hbm
  have hn63 : (x.bg.n : Int) ≤ 9223372036854775807 := by omega
  have hn0 : (0 : Int) ≤ (x.bg.n : Int) := by omega
  clear hbm hbr
  have c3_2_19 : W3.cell? ⟨p2, 19, none⟩ = some (.slice x.bg.A x.bg.n x.bg.cap) := b2.cell 19
  go_enter Try.func15, Try.ntmps15
  go_wp2_with fail
  clear c3_2_19
  go_loopw [6, 7, 8] (fun f q i wr => ∃ k : Nat, k ≤ x.bg.n ∧ i = .int .i64 (k : Int) ∧ ∃ A1 c1 A2 c2, f = .slice A1 (goneL c x z (l.take k)).length c1 ∧ q = .slice A2 (restL c x z (l.take k)).length c2 ∧ Pair W3.heap.size W3 wr A1 (goneL c x z (l.take k)).length c1 A2 (restL c x z (l.take k)).length c2 (goneL c x z (l.take k)) (restL c x z (l.take k))) (fun _ _ i _ => x.bg.n - (intOf i).toNat)
  case atStart =>
    obtain ⟨e1, e2⟩ := both_nil c x z
    exact ⟨0, Nat.zero_le _, rfl, none, 0, none, 0, by simp [e1], by simp [e2], by simpa [e1, e2] using pair_nil _ _⟩
  case round =>
    obtain ⟨k, hk, rfl, A1, c1, A2, c2, rfl, rfl, hP⟩ := hrel
    have hbz := kk.trans (hP.below.mono kk.size)
    have b1r := b1.on hP.below
    have b2r := b2.on hP.below
    by_cases hlt : k < x.bg.n
    · obtain ⟨b, hb⟩ : ∃ b, l[k]? = some b := ⟨_, List.getElem?_eq_getElem (by omega)⟩
      have d1 := goes_any c (h.on hbz) hn hb (hW b (List.mem_of_getElem? hb)) (by omega)
      have hnx := both_next (c := c) z hb hlen
      have hsf : (goneL c x z (l.take k)).length ≤ 1000 := Nat.le_trans (goneL_len _ _ _ _) (by rw [List.length_take]; omega)
      have hsk : (restL c x z (l.take k)).length ≤ 1000 := Nat.le_trans (restL_len _ _ _ _) (by rw [List.length_take]; omega)
      obtain ⟨v, ev⟩ : ∃ v, goesB c x z k b = v := ⟨_, rfl⟩
      rw [ev] at d1 hnx
      clear ev
      generalize goneL c x z (l.take k) = F at *
      generalize restL c x z (l.take k) = K at *
      have hkI : (k : Int) < (x.bg.n : Int) := by omega
      have hk0 : (0 : Int) ≤ (k : Int) := by omega
      have c19 : wr.cell? ⟨p2, 19, none⟩ = some (.slice x.bg.A x.bg.n x.bg.cap) := b2r.cell 19
      have HP := Lib.hid hP
      have hBs := hP.below.size
      clear hP
      go_wp2_with (first | ((with_reducible refine at_load 26 (.tmp 2) ?_); refine wpList_load_row rfl 26 (.tmp 2) rfl p1 rfl 26 c.cs.toArray (0, 0) _ b1r Try.underlying26 rfl size26 ?_) | ((with_reducible refine at_load 35 (.tmp 3) ?_); refine wpList_load_row rfl 35 (.tmp 3) rfl p2 rfl 35 x.cs.toArray (0, 0) _ b2r Try.underlying35 rfl (sizeT _) ?_))
      refine d1.mono ?_
      rintro e w2 ⟨rfl, k2⟩
      have hP2 := HP.out.on hBs k2
      have b2w := b2r.on k2
      have hB2 : W3.heap.size ≤ w2.heap.size := hP2.below.size
      obtain ⟨g, o, eA, hr⟩ := (h.on (hbz.trans (k2.mono hbz.size))).bg.at_ hb
      have c19 : w2.cell? ⟨p2, 19, none⟩ = some (.slice (some ⟨g, o, none⟩) x.bg.n x.bg.cap) := by rw [← eA]; exact b2w.cell 19
      have hr2 : w2.rangeAt g (o + k * 3) [.int .i64 b.c, .int .i64 b.g, .int .i64 b.n] := hr
      clear hr eA d1 HP k2 hBs hbz
      have hb4 : Below w2.heap.size w2 (w2.alloc (.cells #[.int .i64 b.c, .int .i64 b.g, .int .i64 b.n] 48)) := (Below.refl _ w2).alloc (Nat.le_refl _) _
      have hP4 := hP2.on hB2 hb4
      have hx4 : Blk (w2.alloc (.cells #[.int .i64 b.c, .int .i64 b.g, .int .i64 b.n] 48)) w2.heap.size 48 #[.int .i64 b.c, .int .i64 b.g, .int .i64 b.n] := heap_alloc_new w2 _
      have hB4 : W3.heap.size ≤ (w2.alloc (.cells #[.int .i64 b.c, .int .i64 b.g, .int .i64 b.n] 48)).heap.size := hP4.below.size
      clear hb4 hP2
      cases v with
      | true =>
        obtain ⟨eF, eK⟩ := hnx.1 rfl
        have HN := Lib.hid (And.intro eF eK)
        clear hnx eF eK
        go_wp2_with (first
          | ((with_reducible refine at_load 48 (.tmp 25) ?_); refine wpList_load_mid rfl 48 (.tmp 25) rfl g (o + k * 3) rfl [.int .i64 b.c, .int .i64 b.g, .int .i64 b.n] _ hr2 Try.underlying48 rfl size48 ?_)
          | (at_builtin; refine wpList_one rfl _ _ rfl rfl hP4.f (by omega) hB4 w2.heap.size b rfl hx4 ?_; intro A3 c3 w3 ho3 hg3 hl3; have hP5 := (hP4.symm.add ho3 hg3 hl3 hB4).symm; clear ho3 hg3 hl3 hP4 hx4))
        obtain ⟨eF, eK⟩ := HN.out
        go_roundw
        case rel => exact ⟨k + 1, by omega, by go_num, A3, c3, A2, c2, by rw [eF, List.length_append]; rfl, by rw [eK], by rw [eF, eK, List.length_append]; exact hP5⟩
        case measure => simp [intOf]; omega
      | false =>
        obtain ⟨eF, eK⟩ := hnx.2 rfl
        have HN := Lib.hid (And.intro eF eK)
        clear hnx eF eK
        go_wp2_with (first
          | ((with_reducible refine at_load 48 (.tmp 33) ?_); refine wpList_load_mid rfl 48 (.tmp 33) rfl g (o + k * 3) rfl [.int .i64 b.c, .int .i64 b.g, .int .i64 b.n] _ hr2 Try.underlying48 rfl size48 ?_)
          | (at_builtin; refine wpList_one rfl _ _ rfl rfl hP4.k (by omega) hB4 w2.heap.size b rfl hx4 ?_; intro A3 c3 w3 ho3 hg3 hl3; have hP5 := hP4.add ho3 hg3 hl3 hB4; clear ho3 hg3 hl3 hP4 hx4))
        obtain ⟨eF, eK⟩ := HN.out
        go_roundw
        case rel => exact ⟨k + 1, by omega, by go_num, A1, c1, A3, c3, by rw [eF], by rw [eK, List.length_append]; rfl, by rw [eF, eK, List.length_append]; exact hP5⟩
        case measure => simp [intOf]; omega
    · have hjn : k = x.bg.n := by omega
      have et : l.take k = l := List.take_of_length_le (by omega)
      rw [et] at hP ⊢
      replace hjn : ¬ (k : Int) < (x.bg.n : Int) := by omega
      replace b3 := b3.on hP.below
      have g1 := own_mono hP.f kk.size
      have g2 := own_mono hP.k kk.size
      replace b1 := b1r
      replace b2 := b2r
      replace kk := hbz
      clear b1r b2r hbz hP et
      have c20_2_19 : wr.cell? ⟨p2, 19, none⟩ = some (.slice x.bg.A x.bg.n x.bg.cap) := b2.cell 19
      have d1 := copy_any (h.on kk) u1 u2 u3
      go_wp2_with (((with_reducible refine at_load 35 (.tmp 3) ?_); refine wpList_load_row rfl 35 (.tmp 3) rfl p2 rfl 35 x.cs.toArray (0, 0) _ b2 Try.underlying35 rfl (sizeT _) ?_))
      refine (d1).mono ?_
      rintro e W21 ⟨D1, m1, D2, m2, D3, m3, rfl, ⟨o1, o2, o3⟩, k9⟩
      clear c20_2_19
      replace o1 := own_mono o1 kk.size
      replace o2 := own_mono o2 kk.size
      replace o3 := own_mono o3 kk.size
      replace b1 := b1.on k9
      replace b2 := b2.on k9
      replace b3 := b3.on k9
      replace g1 := ownB_below g1 k9
      replace g2 := ownB_below g2 k9
      replace kk := kk.trans (k9.mono kk.size)
      clear k9
      clear d1
      obtain ⟨p4, f4⟩ : ∃ p, W21.heap.size = p := ⟨_, rfl⟩
      obtain ⟨W22, ea22⟩ : ∃ W, W21.alloc (.cells #[.int .i64 0, .int .i64 0, .int .i64 0, .int .i64 0, .int .i64 0, .int .i64 0, .int .i64 0, .int .i64 0, .int .i64 0, .int .i64 0, .int .i64 0, .int .i64 0, .int .i64 0, .int .i64 0, .int .i64 0, .int .i64 0, .int .i64 0, .int .i64 0, .slice none 0 0, .slice none 0 0, .slice none 0 0, .int .i64 0] 35) = W := ⟨_, rfl⟩
      have ka22 : Below W21.heap.size W21 W22 := by rw [← ea22]; exact (Below.refl _ W21).alloc (Nat.le_refl _) _
      have b4 : Blk W22 p4 35 #[.int .i64 0, .int .i64 0, .int .i64 0, .int .i64 0, .int .i64 0, .int .i64 0, .int .i64 0, .int .i64 0, .int .i64 0, .int .i64 0, .int .i64 0, .int .i64 0, .int .i64 0, .int .i64 0, .int .i64 0, .int .i64 0, .int .i64 0, .int .i64 0, .slice none 0 0, .slice none 0 0, .slice none 0 0, .int .i64 0] := by rw [← ea22]; exact blk_new W21 _ 35 _ f4
      have q1_4 : p1 < p4 := by rw [← f4]; exact b1.lt
      replace b1 := b1.on ka22
      have q2_4 : p2 < p4 := by rw [← f4]; exact b2.lt
      replace b2 := b2.on ka22
      have q3_4 : p3 < p4 := by rw [← f4]; exact b3.lt
      replace b3 := b3.on ka22
      replace g1 := ownB_below g1 ka22
      replace g2 := ownB_below g2 ka22
      replace o1 := ownB_below o1 ka22
      replace o2 := ownB_below o2 ka22
      replace o3 := ownB_below o3 ka22
      have kk0 := kk
      replace kk := kk.trans (ka22.mono kk.size)
      have hp4 : w.heap.size ≤ p4 := by rw [← f4]; exact kk0.size
      clear ka22 kk0
      obtain ⟨W23, es23⟩ : ∃ W, W22.setRow p4 (x.put ⟨D1, x.se.n, m1⟩ ⟨D2, x.bg.n, m2⟩ ⟨D3, x.sn.n, m3⟩).cs.toArray = W := ⟨_, rfl⟩
      have bo4 := b4
      replace g1 := row_own g1 b4 (by decide) es23
      replace g2 := row_own g2 b4 (by decide) es23
      replace o1 := row_own o1 b4 (by decide) es23
      replace o2 := row_own o2 b4 (by decide) es23
      replace o3 := row_own o3 b4 (by decide) es23
      replace b1 := row_far b1 es23 (by omega)
      replace b2 := row_far b2 es23 (by omega)
      replace b3 := row_far b3 es23 (by omega)
      replace b4 : Blk W23 p4 35 (x.put ⟨D1, x.se.n, m1⟩ ⟨D2, x.bg.n, m2⟩ ⟨D3, x.sn.n, m3⟩).cs.toArray := row_named b4 es23
      replace kk := kk.trans (row_below es23 hp4 kk.size)
      have c23_4_19 : W23.cell? ⟨p4, 19, none⟩ = some (.slice D2 x.bg.n m2) := b4.cell 19
      have fr23_4_19 := b4.free 19
      obtain ⟨W24, es24⟩ : ∃ W, W23.setCell ⟨p4, 19, none⟩ (.slice A2 (restL c x z l).length c2) = W := ⟨_, rfl⟩
      replace g1 := set_own g1 b4 (by decide) es24
      replace g2 := set_own g2 b4 (by decide) es24
      replace o1 := set_own o1 b4 (by decide) es24
      replace o2 := set_own o2 b4 (by decide) es24
      replace o3 := set_own o3 b4 (by decide) es24
      replace b1 := set_far b1 es24 (by omega)
      replace b2 := set_far b2 es24 (by omega)
      replace b3 := set_far b3 es24 (by omega)
      replace b4 : Blk W24 p4 35 (x.put ⟨D1, x.se.n, m1⟩ ⟨A2, (restL c x z l).length, c2⟩ ⟨D3, x.sn.n, m3⟩).cs.toArray := set_named b4 es24 rfl
      replace kk := kk.trans (set_below es24 hp4 kk.size)
      obtain ⟨W25, es25⟩ : ∃ W, W24.setCells p4 15 (miK 0).cs.toArray.toList = W := ⟨_, rfl⟩
      have bm4 := b4
      replace g1 := mid_own g1 b4 (by decide) es25
      replace g2 := mid_own g2 b4 (by decide) es25
      replace o1 := mid_own o1 b4 (by decide) es25
      replace o2 := mid_own o2 b4 (by decide) es25
      replace o3 := mid_own o3 b4 (by decide) es25
      replace b1 := mid_far b1 es25 (by omega)
      replace b2 := mid_far b2 es25 (by omega)
      replace b3 := mid_far b3 es25 (by omega)
      replace b4 : Blk W25 p4 35 ((x.put ⟨D1, x.se.n, m1⟩ ⟨A2, (restL c x z l).length, c2⟩ ⟨D3, x.sn.n, m3⟩).wm (miK 0)).cs.toArray := mid_named b4 es25 rfl
      replace kk := kk.trans (mid_below es25 hp4 kk.size)
      have c25_1_0 : W25.cell? ⟨p1, 0, none⟩ = some (.int .i64 c.c) := b1.cell 0
      by_cases h3 : c.c = 3
      · have t1 : (c.c == 3) = true := beq_iff_eq.2 h3
        have c25_4_20 : W25.cell? ⟨p4, 20, none⟩ = some (.slice D3 x.sn.n m3) := b4.cell 20
        have fr25_4_20 := b4.free 20
        obtain ⟨W26, es26⟩ : ∃ W, W25.setCell ⟨p4, 20, none⟩ (.slice none 0 0) = W := ⟨_, rfl⟩
        replace g1 := set_own g1 b4 (by decide) es26
        replace g2 := set_own g2 b4 (by decide) es26
        replace o1 := set_own o1 b4 (by decide) es26
        replace o2 := set_own o2 b4 (by decide) es26
        replace o3 := set_own o3 b4 (by decide) es26
        replace b1 := set_far b1 es26 (by omega)
        replace b2 := set_far b2 es26 (by omega)
        replace b3 := set_far b3 es26 (by omega)
        replace b4 : Blk W26 p4 35 ({ x with k := 0, i := 0, n := 0, se := noS, bg := ⟨A2, (restL c x z l).length, c2⟩, sn := noS, old := x.old } : Th).cs.toArray := set_named b4 es26 rfl
        replace kk := kk.trans (set_below es26 hp4 kk.size)
        have c26_4_21 : W26.cell? ⟨p4, 21, none⟩ = some (.int .i64 x.old) := b4.cell 21
        have fr26_4_21 := b4.free 21
        obtain ⟨W27, es27⟩ : ∃ W, W26.setCell ⟨p4, 21, none⟩ (.int .i64 0) = W := ⟨_, rfl⟩
        replace g1 := set_own g1 b4 (by decide) es27
        replace g2 := set_own g2 b4 (by decide) es27
        replace o1 := set_own o1 b4 (by decide) es27
        replace o2 := set_own o2 b4 (by decide) es27
        replace o3 := set_own o3 b4 (by decide) es27
        replace b1 := set_far b1 es27 (by omega)
        replace b2 := set_far b2 es27 (by omega)
        replace b3 := set_far b3 es27 (by omega)
        replace b4 : Blk W27 p4 35 ({ x with k := 0, i := 0, n := 0, se := noS, bg := ⟨A2, (restL c x z l).length, c2⟩, sn := noS, old := 0 } : Th).cs.toArray := set_named b4 es27 rfl
        replace kk := kk.trans (set_below es27 hp4 kk.size)
        go_wp2_with (first | ((with_reducible refine at_store 35 (.tmp 9) (.tmp 38) ?_); refine wpList_store_row rfl 35 (.tmp 9) (.tmp 38) rfl p4 (x.put ⟨D1, x.se.n, m1⟩ ⟨D2, x.bg.n, m2⟩ ⟨D3, x.sn.n, m3⟩).cs.toArray rfl rfl 35 #[.int .i64 0, .int .i64 0, .int .i64 0, .int .i64 0, .int .i64 0, .int .i64 0, .int .i64 0, .int .i64 0, .int .i64 0, .int .i64 0, .int .i64 0, .int .i64 0, .int .i64 0, .int .i64 0, .int .i64 0, .int .i64 0, .int .i64 0, .int .i64 0, .slice none 0 0, .slice none 0 0, .slice none 0 0, .int .i64 0] bo4 (sizeT _) rfl (Th.onea _) ?_; rw [es23]) | ((with_reducible refine at_store 32 (.tmp 42) (.tmp 41) ?_); refine wpList_store_mid rfl 32 (.tmp 42) (.tmp 41) rfl p4 15 (miK 0).cs.toArray rfl rfl (there_blk bm4 15 _ (Nat.le_of_ble_eq_true rfl)) size32 (Mi.onea _) ?_; rw [es25]))
        clear c25_4_20 fr25_4_20 c26_4_21 fr26_4_21
        obtain ⟨wd, ed⟩ : ∃ W, W27.drew = W := ⟨_, rfl⟩
        have hd : Below W27.heap.size W27 wd := by rw [← ed]; exact (Below.refl _ _).drew
        replace b1 := b1.on hd
        replace b2 := b2.on hd
        replace b3 := b3.on hd
        replace b4 := b4.on hd
        replace g1 := ownB_below g1 hd
        replace g2 := ownB_below g2 hd
        replace o1 := ownB_below o1 hd
        replace o2 := ownB_below o2 hd
        replace o3 := ownB_below o3 hd
        replace kk := kk.trans (hd.mono kk.size)
        clear hd
        have kS : Kept (fun g => g = p3) wd wd := Kept.refl _ _
        refine wp_region_noPanic ?_
        refine wp_region_held_drew (S := (fun W => Kept (fun g => g = p3) wd W)) (by kernel_rfl) (by rw [ed]; exact kS) (fun hHeld => ?_)
        rw [ed] at hHeld ⊢
        refine wpAnyH_take (i := 0) (oi := ⟨some 48, _, _, _, _, _⟩) (v := ?_) rfl (by kernel_rfl) (by kernel_rfl) (by kernel_rfl) (fun _ _ _ h => h) (Or.inl ⟨by rfl, ?_⟩) (by assumption) ?_
        rotate_left 1
        · (intro W hSw; go_simp <;> with_reducible rfl)
        try simp only [Act.put, List.setIfInBounds_toArray, List.set_cons_zero, List.set_cons_succ]
        refine wpAnyH_take (i := 1) (oi := ⟨some 49, _, _, _, _, _⟩) (v := .agg (List.toArray (({ x with k := 0, i := 0, n := 0, se := noS, bg := ⟨A2, (restL c x z l).length, c2⟩, sn := noS, old := 0 } : Th).cs))) rfl (by kernel_rfl) (by kernel_rfl) (by kernel_rfl) (fun _ _ _ h => h) (yieldsIf_load_mid (by rfl) 35 (.tmp 9) rfl p4 (0) rfl (({ x with k := 0, i := 0, n := 0, se := noS, bg := ⟨A2, (restL c x z l).length, c2⟩, sn := noS, old := 0 } : Th).cs) _ (fun W hW => range_part (b4.kept hW (by omega)) 0 ({ x with k := 0, i := 0, n := 0, se := noS, bg := ⟨A2, (restL c x z l).length, c2⟩, sn := noS, old := 0 } : Th).cs rfl) Try.underlying35 rfl (load35 _)) (by assumption) ?_
        try simp only [Act.put, List.setIfInBounds_toArray, List.set_cons_zero, List.set_cons_succ]
        refine wpAnyH_take (i := 2) (oi := ⟨some 4, _, _, _, _, _⟩) (v := ?_) rfl (by kernel_rfl) (by kernel_rfl) (by kernel_rfl) (fun _ _ _ h => h) (Or.inl ⟨by rfl, ?_⟩) (by assumption) ?_
        rotate_left 1
        · (intro W hSw; go_simp <;> with_reducible rfl)
        try simp only [Act.put, List.setIfInBounds_toArray, List.set_cons_zero, List.set_cons_succ]
        refine wpAnyH_ready (rs := [3]) (by kernel_rfl) (by simp) ?_
        refine AllReadyH.cons (o := ⟨none, _, _, _, _, _⟩) rfl (fun K hK => ?_) AllReadyH.nil
        rw [if_pos (by rfl)]
        refine wp_store_row 35 (.tmp 5) (.tmp 49) rfl p3 ({ x with k := 0, i := 0, n := 0, se := noS, bg := ⟨A2, (restL c x z l).length, c2⟩, sn := noS, old := 0 } : Th).cs.toArray rfl rfl 35 #[.int .i64 0, .int .i64 0, .int .i64 0, .int .i64 0, .int .i64 0, .int .i64 0, .int .i64 0, .int .i64 0, .int .i64 0, .int .i64 0, .int .i64 0, .int .i64 0, .int .i64 0, .int .i64 0, .int .i64 0, .int .i64 0, .int .i64 0, .int .i64 0, .slice none 0 0, .slice none 0 0, .slice none 0 0, .int .i64 0] b3 (sizeT _) rfl (Th.onea _) ?_
        refine hK.out _ _ (kept_row _ _ _) (fun h1 => ?_)
        clear hHeld hK K
        try simp only [Act.put]
        refine wpAnyH_done (by kernel_rfl) ?_ _
        refine NoPanic.normal ?_
        obtain ⟨wz, ez⟩ : ∃ W, wd.setRow p3 ({ x with k := 0, i := 0, n := 0, se := noS, bg := ⟨A2, (restL c x z l).length, c2⟩, sn := noS, old := 0 } : Th).cs.toArray = W := ⟨_, rfl⟩
        rw [ez]
        replace g1 := row_own g1 b3 (by decide) ez
        replace g2 := row_own g2 b3 (by decide) ez
        replace o1 := row_own o1 b3 (by decide) ez
        replace o2 := row_own o2 b3 (by decide) ez
        replace o3 := row_own o3 b3 (by decide) ez
        have kk := kk.trans (row_below ez hp3 kk.size)
        have b3 : Blk wz p3 35 ({ x with k := 0, i := 0, n := 0, se := noS, bg := ⟨A2, (restL c x z l).length, c2⟩, sn := noS, old := 0 } : Th).cs.toArray := row_named b3 ez
        have hls := h.sn.len
        go_wp2
        refine bodyPost_ret (resTT rfl _ _ p3 ({ x with k := 0, i := 0, n := 0, se := noS, bg := ⟨A2, (restL c x z l).length, c2⟩, sn := noS, old := 0 } : Th) (.slice A1 (goneL c x z l).length c1) rfl rfl b3) rfl ?_
        unfold relT snapL
        simp only [if_pos h3]
        exact ⟨A1, c1, A2, c2, none, 0, rfl, g1, ⟨World.ownsRow_nil _ _ _ _, g2, World.ownsRow_nil _ _ _ _⟩, kk⟩
      · have t1 : (c.c == 3) = false := by simpa using h3
        go_wp2_with (first | ((with_reducible refine at_store 35 (.tmp 9) (.tmp 38) ?_); refine wpList_store_row rfl 35 (.tmp 9) (.tmp 38) rfl p4 (x.put ⟨D1, x.se.n, m1⟩ ⟨D2, x.bg.n, m2⟩ ⟨D3, x.sn.n, m3⟩).cs.toArray rfl rfl 35 #[.int .i64 0, .int .i64 0, .int .i64 0, .int .i64 0, .int .i64 0, .int .i64 0, .int .i64 0, .int .i64 0, .int .i64 0, .int .i64 0, .int .i64 0, .int .i64 0, .int .i64 0, .int .i64 0, .int .i64 0, .int .i64 0, .int .i64 0, .int .i64 0, .slice none 0 0, .slice none 0 0, .slice none 0 0, .int .i64 0] bo4 (sizeT _) rfl (Th.onea _) ?_; rw [es23]) | ((with_reducible refine at_store 32 (.tmp 42) (.tmp 41) ?_); refine wpList_store_mid rfl 32 (.tmp 42) (.tmp 41) rfl p4 15 (miK 0).cs.toArray rfl rfl (there_blk bm4 15 _ (Nat.le_of_ble_eq_true rfl)) size32 (Mi.onea _) ?_; rw [es25]))
        obtain ⟨wd, ed⟩ : ∃ W, W25.drew = W := ⟨_, rfl⟩
        have hd : Below W25.heap.size W25 wd := by rw [← ed]; exact (Below.refl _ _).drew
        replace b1 := b1.on hd
        replace b2 := b2.on hd
        replace b3 := b3.on hd
        replace b4 := b4.on hd
        replace g1 := ownB_below g1 hd
        replace g2 := ownB_below g2 hd
        replace o1 := ownB_below o1 hd
        replace o2 := ownB_below o2 hd
        replace o3 := ownB_below o3 hd
        replace kk := kk.trans (hd.mono kk.size)
        clear hd
        have kS : Kept (fun g => g = p3) wd wd := Kept.refl _ _
        refine wp_region_noPanic ?_
        refine wp_region_held_drew (S := (fun W => Kept (fun g => g = p3) wd W)) (by kernel_rfl) (by rw [ed]; exact kS) (fun hHeld => ?_)
        rw [ed] at hHeld ⊢
        refine wpAnyH_take (i := 0) (oi := ⟨some 48, _, _, _, _, _⟩) (v := ?_) rfl (by kernel_rfl) (by kernel_rfl) (by kernel_rfl) (fun _ _ _ h => h) (Or.inl ⟨by rfl, ?_⟩) (by assumption) ?_
        rotate_left 1
        · (intro W hSw; go_simp <;> with_reducible rfl)
        try simp only [Act.put, List.setIfInBounds_toArray, List.set_cons_zero, List.set_cons_succ]
        refine wpAnyH_take (i := 1) (oi := ⟨some 49, _, _, _, _, _⟩) (v := .agg (List.toArray (({ x with k := 0, i := 0, n := 0, se := noS, bg := ⟨A2, (restL c x z l).length, c2⟩, sn := ⟨D3, x.sn.n, m3⟩, old := x.old } : Th).cs))) rfl (by kernel_rfl) (by kernel_rfl) (by kernel_rfl) (fun _ _ _ h => h) (yieldsIf_load_mid (by rfl) 35 (.tmp 9) rfl p4 (0) rfl (({ x with k := 0, i := 0, n := 0, se := noS, bg := ⟨A2, (restL c x z l).length, c2⟩, sn := ⟨D3, x.sn.n, m3⟩, old := x.old } : Th).cs) _ (fun W hW => range_part (b4.kept hW (by omega)) 0 ({ x with k := 0, i := 0, n := 0, se := noS, bg := ⟨A2, (restL c x z l).length, c2⟩, sn := ⟨D3, x.sn.n, m3⟩, old := x.old } : Th).cs rfl) Try.underlying35 rfl (load35 _)) (by assumption) ?_
        try simp only [Act.put, List.setIfInBounds_toArray, List.set_cons_zero, List.set_cons_succ]
        refine wpAnyH_take (i := 2) (oi := ⟨some 4, _, _, _, _, _⟩) (v := ?_) rfl (by kernel_rfl) (by kernel_rfl) (by kernel_rfl) (fun _ _ _ h => h) (Or.inl ⟨by rfl, ?_⟩) (by assumption) ?_
        rotate_left 1
        · (intro W hSw; go_simp <;> with_reducible rfl)
        try simp only [Act.put, List.setIfInBounds_toArray, List.set_cons_zero, List.set_cons_succ]
        refine wpAnyH_ready (rs := [3]) (by kernel_rfl) (by simp) ?_
        refine AllReadyH.cons (o := ⟨none, _, _, _, _, _⟩) rfl (fun K hK => ?_) AllReadyH.nil
        rw [if_pos (by rfl)]
        refine wp_store_row 35 (.tmp 5) (.tmp 49) rfl p3 ({ x with k := 0, i := 0, n := 0, se := noS, bg := ⟨A2, (restL c x z l).length, c2⟩, sn := ⟨D3, x.sn.n, m3⟩, old := x.old } : Th).cs.toArray rfl rfl 35 #[.int .i64 0, .int .i64 0, .int .i64 0, .int .i64 0, .int .i64 0, .int .i64 0, .int .i64 0, .int .i64 0, .int .i64 0, .int .i64 0, .int .i64 0, .int .i64 0, .int .i64 0, .int .i64 0, .int .i64 0, .int .i64 0, .int .i64 0, .int .i64 0, .slice none 0 0, .slice none 0 0, .slice none 0 0, .int .i64 0] b3 (sizeT _) rfl (Th.onea _) ?_
        refine hK.out _ _ (kept_row _ _ _) (fun h1 => ?_)
        clear hHeld hK K
        try simp only [Act.put]
        refine wpAnyH_done (by kernel_rfl) ?_ _
        refine NoPanic.normal ?_
        obtain ⟨wz, ez⟩ : ∃ W, wd.setRow p3 ({ x with k := 0, i := 0, n := 0, se := noS, bg := ⟨A2, (restL c x z l).length, c2⟩, sn := ⟨D3, x.sn.n, m3⟩, old := x.old } : Th).cs.toArray = W := ⟨_, rfl⟩
        rw [ez]
        replace g1 := row_own g1 b3 (by decide) ez
        replace g2 := row_own g2 b3 (by decide) ez
        replace o1 := row_own o1 b3 (by decide) ez
        replace o2 := row_own o2 b3 (by decide) ez
        replace o3 := row_own o3 b3 (by decide) ez
        have kk := kk.trans (row_below ez hp3 kk.size)
        have b3 : Blk wz p3 35 ({ x with k := 0, i := 0, n := 0, se := noS, bg := ⟨A2, (restL c x z l).length, c2⟩, sn := ⟨D3, x.sn.n, m3⟩, old := x.old } : Th).cs.toArray := row_named b3 ez
        have hls := h.sn.len
        go_wp2
        refine bodyPost_ret (resTT rfl _ _ p3 ({ x with k := 0, i := 0, n := 0, se := noS, bg := ⟨A2, (restL c x z l).length, c2⟩, sn := ⟨D3, x.sn.n, m3⟩, old := x.old } : Th) (.slice A1 (goneL c x z l).length c1) rfl rfl b3) rfl ?_
        unfold relT snapL
        simp only [if_neg h3]
        rw [hls]
        exact ⟨A1, c1, A2, c2, D3, m3, rfl, g1, ⟨World.ownsRow_nil _ _ _ _, g2, o3⟩, kk⟩
end Go.Proofs.Ytllcgidachbnlaa
