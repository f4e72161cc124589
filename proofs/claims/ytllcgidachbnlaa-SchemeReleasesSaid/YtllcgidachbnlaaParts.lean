/- A thread's bag parted, by the scheme. Conditions: at most a thousand elements; numbers of 64 bits. -/
import Derived.Test.YtllcgidachbnlaaQuieted
import Derived.Test.YtllcgidachbnlaaHSplit
import Derived.Test.YtllcgidachbnlaaESplit
import Derived.Test.YtllcgidachbnlaaQSplit
namespace Go.Proofs.Ytllcgidachbnlaa
open Go.RowKit Go.ChangeShapes Go.WideShapes Go.Great

/-- How many are old. -/
def oldN (x : Th) : Nat := (cl x.old x.bg.n).toNat
theorem oldN_cl (x : Th) : cl x.old x.bg.n = (oldN x : Int) ∧ oldN x ≤ x.bg.n := by
  obtain ⟨h0, h1⟩ := cl_of x.old x.bg.n (by omega)
  unfold oldN
  omega
/-- What goes, and what stays. -/
def goneL (c : Cf) (x : Th) (z : List Int) (l : List Bg) : List Bg := if c.c = 1 then freeL l z else if c.c = 2 then goL l x.n else if c.c = 3 then l.take (oldN x) else []
def restL (c : Cf) (x : Th) (z : List Int) (l : List Bg) : List Bg := if c.c = 1 then keptL l z else if c.c = 2 then stayL l x.n else if c.c = 3 then l.drop (oldN x) else l
set_option maxRecDepth 100000 in
set_option maxHeartbeats 4000000 in
theorem parts_any {w : World} {x : Th} {z s : List Int} {l : List Bg} {B : Nat} (c : Cf) (h : Own B w x z l s) (hB : B ≤ w.heap.size) (u1 : x.se.n ≤ 1000) (u2 : x.bg.n ≤ 1000) (hW : ∀ b ∈ l, Wide b.n) (hn : Wide x.n) :
    Calls Try.prog 29 #[.agg c.cs.toArray, .agg x.cs.toArray] w fun e w' => ∃ A1 c1 A2 c2, e = .returned (.tuple #[.slice A1 (goneL c x z l).length c1, .slice A2 (restL c x z l).length c2]) ∧ w'.ownsRow B 48 3 (.slice A1 (goneL c x z l).length c1) (goneL c x z l).length (flatB (goneL c x z l)) ∧
      w'.ownsRow B 48 3 (.slice A2 (restL c x z l).length c2) (restL c x z l).length (flatB (restL c x z l)) ∧ Below w.heap.size w w' := by
  obtain ⟨p1, f1⟩ : ∃ p, w.heap.size = p := ⟨_, rfl⟩
  obtain ⟨W1, ea1⟩ : ∃ W, w.alloc (.cells c.cs.toArray 26) = W := ⟨_, rfl⟩
  have ka1 : Below w.heap.size w W1 := by rw [← ea1]; exact (Below.refl _ w).alloc (Nat.le_refl _) _
  have b1 : Blk W1 p1 26 c.cs.toArray := by rw [← ea1]; exact blk_new w _ 26 _ f1
  have kk : Below w.heap.size w W1 := ka1
  have hp1 : w.heap.size ≤ p1 := Nat.le_of_eq f1
  clear ka1
  obtain ⟨p2, f2⟩ : ∃ p, W1.heap.size = p := ⟨_, rfl⟩
  obtain ⟨W2, ea2⟩ : ∃ W, W1.alloc (.cells x.cs.toArray 35) = W := ⟨_, rfl⟩
  have ka2 : Below W1.heap.size W1 W2 := by rw [← ea2]; exact (Below.refl _ W1).alloc (Nat.le_refl _) _
  have b2 : Blk W2 p2 35 x.cs.toArray := by rw [← ea2]; exact blk_new W1 _ 35 _ f2
  have q1_2 : p1 < p2 := by rw [← f2]; exact b1.lt
  replace b1 := b1.on ka2
  have kk0 := kk
  replace kk := kk.trans (ka2.mono kk.size)
  have hp2 : w.heap.size ≤ p2 := by rw [← f2]; exact kk0.size
  clear ka2 kk0
  unfold goneL restL
  by_cases h1 : c.c = 1
  · rw [if_pos h1]
    simp only [if_pos h1]
    have t1 : (c.c == 1) = true := beq_iff_eq.2 h1
    have c2_1_0 : W2.cell? ⟨p1, 0, none⟩ = some (.int .i64 c.c) := b1.cell 0
    have c2_2_17 : W2.cell? ⟨p2, 17, none⟩ = some (.int .i64 x.n) := b2.cell 17
    have c2_2_18 : W2.cell? ⟨p2, 18, none⟩ = some (.slice x.se.A x.se.n x.se.cap) := b2.cell 18
    have c2_2_19 : W2.cell? ⟨p2, 19, none⟩ = some (.slice x.bg.A x.bg.n x.bg.cap) := b2.cell 19
    have c2_2_21 : W2.cell? ⟨p2, 21, none⟩ = some (.int .i64 x.old) := b2.cell 21
    have d1 := hsplit_any (SeesB.on (own_seesB h.bg) kk) (SeesI.on (own_seesI h.se) kk) u2 u1
    generalize freeL l z = F at *
    generalize keptL l z = K at *
    have hBs := Nat.le_trans hB kk.size
    go_enter Try.func29, Try.ntmps29
    go_wp2_with fail
    refine (d1).mono ?_
    rintro e W3 ⟨A1, c1, A2, c2, rfl, hF, hK, k1⟩
    clear c2_1_0 c2_2_17 c2_2_18 c2_2_19 c2_2_21
    replace b1 := b1.on k1
    replace b2 := b2.on k1
    replace kk := kk.trans (k1.mono kk.size)
    clear k1
    replace hK := own_mono hK hBs
    replace hF := own_mono hF hBs
    go_wp2
    go_ret2
    exact ⟨A1, c1, A2, c2, rfl, hF, hK, by first | exact kk | (rw [f1] at kk; exact kk) | (subst f1; exact kk)⟩
  · by_cases h2 : c.c = 2
    · rw [if_neg h1, if_pos h2]
      simp only [if_neg h1, if_pos h2]
      have t1 : (c.c == 1) = false := by simpa using h1
      have t2 : (c.c == 2) = true := beq_iff_eq.2 h2
      have c2_1_0 : W2.cell? ⟨p1, 0, none⟩ = some (.int .i64 c.c) := b1.cell 0
      have c2_2_17 : W2.cell? ⟨p2, 17, none⟩ = some (.int .i64 x.n) := b2.cell 17
      have c2_2_18 : W2.cell? ⟨p2, 18, none⟩ = some (.slice x.se.A x.se.n x.se.cap) := b2.cell 18
      have c2_2_19 : W2.cell? ⟨p2, 19, none⟩ = some (.slice x.bg.A x.bg.n x.bg.cap) := b2.cell 19
      have c2_2_21 : W2.cell? ⟨p2, 21, none⟩ = some (.int .i64 x.old) := b2.cell 21
      have d1 := esplit_any (SeesB.on (own_seesB h.bg) kk) u2 hW hn
      generalize goL l x.n = F at *
      generalize stayL l x.n = K at *
      have hBs := Nat.le_trans hB kk.size
      go_enter Try.func29, Try.ntmps29
      go_wp2_with fail
      refine (d1).mono ?_
      rintro e W3 ⟨A1, c1, A2, c2, rfl, hF, hK, k1⟩
      clear c2_1_0 c2_2_17 c2_2_18 c2_2_19 c2_2_21
      replace b1 := b1.on k1
      replace b2 := b2.on k1
      replace kk := kk.trans (k1.mono kk.size)
      clear k1
      replace hK := own_mono hK hBs
      replace hF := own_mono hF hBs
      go_wp2
      go_ret2
      exact ⟨A1, c1, A2, c2, rfl, hF, hK, by first | exact kk | (rw [f1] at kk; exact kk) | (subst f1; exact kk)⟩
    · by_cases h3 : c.c = 3
      · rw [if_neg h1, if_neg h2, if_pos h3]
        simp only [if_neg h1, if_neg h2, if_pos h3]
        have t1 : (c.c == 1) = false := by simpa using h1
        have t2 : (c.c == 2) = false := by simpa using h2
        have t3 : (c.c == 3) = true := beq_iff_eq.2 h3
        have c2_1_0 : W2.cell? ⟨p1, 0, none⟩ = some (.int .i64 c.c) := b1.cell 0
        have c2_2_17 : W2.cell? ⟨p2, 17, none⟩ = some (.int .i64 x.n) := b2.cell 17
        have c2_2_18 : W2.cell? ⟨p2, 18, none⟩ = some (.slice x.se.A x.se.n x.se.cap) := b2.cell 18
        have c2_2_19 : W2.cell? ⟨p2, 19, none⟩ = some (.slice x.bg.A x.bg.n x.bg.cap) := b2.cell 19
        have c2_2_21 : W2.cell? ⟨p2, 21, none⟩ = some (.int .i64 x.old) := b2.cell 21
        obtain ⟨ek, hk⟩ := oldN_cl x
        have hl := (own_seesB h.bg).len
        have d1 := qsplit_any (SeesB.on (own_seesB h.bg) kk) (by omega) ek hk
        have eF : (l.take (oldN x)).length = oldN x := by rw [List.length_take]; omega
        have eK : (l.drop (oldN x)).length = x.bg.n - oldN x := by rw [List.length_drop]; omega
        simp only [eF, eK]
        clear eF eK ek
        generalize l.take (oldN x) = F at *
        generalize l.drop (oldN x) = K at *
        have hBs := Nat.le_trans hB kk.size
        go_enter Try.func29, Try.ntmps29
        go_wp2_with fail
        refine (d1).mono ?_
        rintro e W3 ⟨A1, c1, A2, c2, rfl, hF, hK, k1⟩
        clear c2_1_0 c2_2_17 c2_2_18 c2_2_19 c2_2_21
        replace b1 := b1.on k1
        replace b2 := b2.on k1
        replace kk := kk.trans (k1.mono kk.size)
        clear k1
        replace hK := own_mono hK hBs
        replace hF := own_mono hF hBs
        go_wp2
        go_ret2
        exact ⟨A1, c1, A2, c2, rfl, hF, hK, by first | exact kk | (rw [f1] at kk; exact kk) | (subst f1; exact kk)⟩
      · rw [if_neg h1, if_neg h2, if_neg h3]
        simp only [if_neg h1, if_neg h2, if_neg h3]
        have t1 : (c.c == 1) = false := by simpa using h1
        have t2 : (c.c == 2) = false := by simpa using h2
        have t3 : (c.c == 3) = false := by simpa using h3
        have c2_1_0 : W2.cell? ⟨p1, 0, none⟩ = some (.int .i64 c.c) := b1.cell 0
        have c2_2_17 : W2.cell? ⟨p2, 17, none⟩ = some (.int .i64 x.n) := b2.cell 17
        have c2_2_18 : W2.cell? ⟨p2, 18, none⟩ = some (.slice x.se.A x.se.n x.se.cap) := b2.cell 18
        have c2_2_19 : W2.cell? ⟨p2, 19, none⟩ = some (.slice x.bg.A x.bg.n x.bg.cap) := b2.cell 19
        have c2_2_21 : W2.cell? ⟨p2, 21, none⟩ = some (.int .i64 x.old) := b2.cell 21
        have hBg := ownB_below h.bg kk
        have hlen : l.length = x.bg.n := (own_seesB h.bg).len
        rw [hlen]
        have HB := Lib.hid (And.intro hBg kk)
        clear hBg kk hlen
        go_enter Try.func29, Try.ntmps29
        go_wp2
        go_quiet (fail)
        go_wp2
        go_ret2
        obtain ⟨hBg, kk⟩ := HB.out
        subst f1
        have hq : Below W2.heap.size W2 (W2.drewN nq) := below_dn (Below.refl _ _) _
        exact ⟨none, 0, x.bg.A, x.bg.cap, rfl, World.ownsRow_nil _ _ _ _, ownB_below hBg hq, kk.trans (hq.mono kk.size)⟩
end Go.Proofs.Ytllcgidachbnlaa
