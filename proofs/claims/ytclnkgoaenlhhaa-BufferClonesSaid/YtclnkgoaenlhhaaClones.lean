/- A clone and its origin go on apart: the walk. Conditions: none. -/
import Derived.Test.YtclnkgoaenlhhaaClone
import Derived.Laws.AppendOwnNone
namespace Go.Proofs.Ytclnkgoaenlhhaa
open Go.RowKit Go.Conc Go.ChangeShapes Go.WideShapes

theorem aside_kept {w w' : World} {c : Nat} {A : Option Addr} (h : Aside w w' c A) : Kept (fun k => k = c ∨ some k = blk A) w w' :=
  ⟨h.os, h.tape, h.output, h.size, fun k hk hn => h.block k hk (fun e => hn (.inl e)) (fun e => hn (.inr e))⟩

/-- Two buffers, each with its list, all apart. -/
structure Both (w wr : World) (room p c : Nat) (v : Value) (xs : List Ent) (p' c' : Nat) (v' : Value) (ys : List Ent) : Prop where
  one : Tells w wr p c room v xs
  two : Tells w wr p' c' room v' ys
  chans : c ≠ c'
  lists : ∀ g, v.ownBlock = some g → v'.ownBlock ≠ some g
theorem Both.symm {w wr : World} {room p c p' c' : Nat} {v v' : Value} {xs ys : List Ent} (h : Both w wr room p c v xs p' c' v' ys) : Both w wr room p' c' v' ys p c v xs :=
  ⟨h.two, h.one, h.chans.symm, fun g hg hg' => h.lists g hg' hg⟩

/-- A call on the one leaves the other. -/
theorem Both.ran {w wr w3 : World} {room p c p' c' : Nat} {A A3 : Option Addr} {cp cp3 : Nat} {v' : Value} {xs ys zs : List Ent} (h : Both w wr room p c (.slice A xs.length cp) xs p' c' v' ys)
    (hr : Ran wr w3 w.heap.size p c room A A3 cp3 zs) : Both w w3 room p c (.slice A3 zs.length cp3) zs p' c' v' ys := by
  obtain ⟨A0, cp0, e0, hown0⟩ := h.one.own
  cases e0
  obtain ⟨A2, cp2, rfl, hown⟩ := h.two.own
  have hl : ∀ g, blk A2 = some g → some g ≠ blk A := by
    intro g hg e
    exact h.lists g (by rw [blk_own]; exact e.symm) (by rw [blk_own]; exact hg)
  have hbel := h.one.below.trans (hr.aside.below h.one.below.size h.one.far (fun g hg => (hown0.lt hg).1))
  have hpc : p' ≠ c := by
    intro e
    obtain ⟨s, r, hc⟩ := h.one.buf.holds.block
    have hb := h.two.buf.box
    unfold Blk at hb
    rw [← e, hb] at hc
    cases hc
  have hk := aside_kept hr.aside
  refine ⟨⟨hr.buf, ⟨A3, cp3, rfl, hr.own⟩, hbel, h.one.far⟩,
    ⟨h.two.buf.keeps hk (fun e => e.elim hpc (hown0.box h.two.buf.box (by decide))) (fun e => e.elim h.chans.symm (fun e => hown0.chan h.two.buf.holds c' e.symm rfl)),
      ⟨A2, cp2, rfl, hown.keeps hk (fun g hg e => e.elim (fun e => hown.chan h.one.buf.holds g hg (by rw [e])) (hl g hg))⟩, hbel, h.two.far⟩, h.chans, fun g hg hg' => ?_⟩
  rw [blk_own] at hg hg'
  have := (hown.lt hg').2
  exact hl g hg' (hr.fresh g hg this).symm

theorem Both.told {w wr : World} {room p c p' c' : Nat} {A : Option Addr} {cp : Nat} {v' : Value} {xs ys : List Ent} (h : Both w wr room p c (.slice A xs.length cp) xs p' c' v' ys) :
    Calls Try.prog 10 #[.pointer (some ⟨p, 0, none⟩), .slice A xs.length cp, .int .i64 (room : Int), .agg #[.int .i64 0, .int .i64 0, .int .i64 0], .int .i64 0] wr fun e w' => e = .returned (.bool true) ∧ Both w w' room p c (.slice A xs.length cp) xs p' c' v' ys := by
  obtain ⟨A0, cp0, e0, hown0⟩ := h.one.own
  cases e0
  refine (told_any p c room A cp w.heap.size xs ⟨0, 0, 0⟩ 0 wr h.one.buf hown0).mono ?_
  rintro e w3 ⟨rfl, h3, hg3⟩
  refine ⟨rfl, h.ran (A3 := A) (cp3 := cp) (zs := xs) ⟨h3, hown0.kept hg3 (hown0.chan h.one.buf.holds), aside_grown hg3 (.inl rfl), fun g hg _ => hg⟩⟩

theorem wpList_append_list {w : World} {ops : Array Oper} {rest : List Oper} {o : Oper} {a : Act} {Q : Exit → Act → World → Prop} (hgd : o.guard = none) (s x : Operand)
    (ho : o.op = .call { callee := .builtin .append, args := #[s, x], argTypes := #[27, 27] })
    {n cap : Nat} {A : Option Addr} {xs : List Ent} (hs : a.eval s = .slice none 0 0) (hx : a.eval x = .slice A n cap) (h : SeesE w A n cap xs) (hn : n ≤ 1000000)
    (hK : ∀ A' cap' w', Own w' w.heap.size A' n cap' xs → w.grownBy w' none → wpList Try.prog ops Q rest (a.put o.dst (.slice A' n cap')) w') : wpList Try.prog ops Q (o :: rest) a w := by
  obtain ⟨i0, hi0, hz0, hz1, hz2⟩ := info_parts info35
  refine wpList_app hgd s x 27 ho w.heap.size 35 i0 (.agg noE.cs.toArray) 8 64 Try.underlying27 hi0 hz0 hz1 hz2 rfl (by decide) none 0 0 [] hs (World.ownsRow_nil _ _ _ _) A n cap (flatE xs) hx h (flat_one Ent.one xs) (by unfold maxLen; omega) (by omega) (Nat.le_refl _) ?_
  intro A' c' w' ho' hg _
  rw [Nat.zero_add, List.nil_append] at ho'
  rw [Nat.zero_add]
  obtain ⟨A2, cap2, e2, hown⟩ := own_of ho'
  cases e2
  exact hK A' c' w' hown hg

/-- Behind the clone, and the copy of the list. -/
theorem both_start {w wr w4 w5 : World} {room p c p2 c2 : Nat} {A A5 : Option Addr} {cp cp5 : Nat} {xs : List Ent} (h : Tells w wr p c room (.slice A xs.length cp) xs) (hown : Own wr w.heap.size A xs.length cp xs)
    (h4 : Buf w4 p c room xs) (k4 : Buf w4 p2 c2 room xs) (hc2 : wr.heap.size ≤ c2) (hg4 : wr.grownBy w4 (some c)) (ho5 : Own w5 w4.heap.size A5 xs.length cp5 xs) (hg5 : w4.grownBy w5 none) :
    Both w w5 room p c (.slice A xs.length cp) xs p2 c2 (.slice A5 xs.length cp5) xs := by
  have hB := h.below.size
  have hown4 := hown.kept hg4 (hown.chan h.buf.holds)
  have hbel : Below w.heap.size w w5 := (h.below.grown hg4 hB (fun j hj => by injection hj with hj; rw [← hj]; exact h.far)).grown hg5 (Nat.le_trans hB hg4.size) (fun j hj => by cases hj)
  refine ⟨⟨h4.kept hg5 (by simp) (by simp), ⟨A, cp, rfl, hown4.kept hg5 (by simp)⟩, hbel, h.far⟩, ⟨k4.kept hg5 (by simp) (by simp), ⟨A5, cp5, rfl, ho5.lower (Nat.le_trans hB hg4.size)⟩, hbel, Nat.le_trans hB hc2⟩, ?_, fun g hg hg' => ?_⟩
  · have := h.buf.holds.lt
    omega
  · rw [blk_own] at hg hg'
    have h1 := (hown4.lt hg).2
    have h2 := (ho5.lt hg').1
    omega
theorem Tells.len {w wr : World} {p c room : Nat} {v : Value} {xs : List Ent} (h : Tells w wr p c room v xs) : xs.length ≤ 4 := h.buf.len

set_option maxRecDepth 100000 in
set_option maxHeartbeats 8000000 in
theorem clones_walk (r : Int) (O : Option Addr) (n cap : Nat) (l : List Opn) (O1 : Option Addr) (n1 cap1 : Nat) (l1 : List Opn) (O2 : Option Addr) (n2 cap2 : Nat) (l2 : List Opn) (w : World)
    (ho : SeesO w O n cap l) (ho1 : SeesO w O1 n1 cap1 l1) (ho2 : SeesO w O2 n2 cap2 l2) :
    Calls Try.prog 4 #[.int .i64 r, .slice O n cap, .slice O1 n1 cap1, .slice O2 n2 cap2] w fun e w' => e = .returned (.bool true) ∧ Below w.heap.size w w' := by
  have hn63 : (n : Int) ≤ 9223372036854775807 := by have := Sees.room ho; have := Sees.most ho; unfold maxLen at this; omega
  have hm63 : (n1 : Int) ≤ 9223372036854775807 := by have := Sees.room ho1; have := Sees.most ho1; unfold maxLen at this; omega
  have hq63 : (n2 : Int) ≤ 9223372036854775807 := by have := Sees.room ho2; have := Sees.most ho2; unfold maxLen at this; omega
  go_enter Try.func4, Try.ntmps4
  go_wp2_with (first
    | (go_at_call 6; refine (alive_any _).mono ?_; rintro e w1 ⟨rfl, hb1⟩)
    | (go_at_call 7; refine (new_any r _).mono ?_; rintro e w2 ⟨p, c, rfl, hp2, hpp, hcc, hb2⟩)
    | (go_at_call 8; refine (near_any r _).mono ?_; rintro e w' ⟨rfl, rfl⟩))
  have HT : Tells w w2 p c (near r) (.slice none 0 0) [] := ⟨hp2, ⟨none, 0, rfl, Own.nil _ _⟩, hb1.trans (hb2.mono hb1.size), Nat.le_trans hb1.size hcc⟩
  clear hp2 hpp hcc hb2 hb1
  generalize near r = room at *
  go_loopw [10, 11] (fun v i wr => ∃ (k : Nat) (xs : List Ent), i = .int .i64 k ∧ k ≤ n ∧ k ≤ 20 ∧ Tells w wr p c room v xs) (fun _ i _ => 20 - (intOf i).toNat)
  case atStart => exact ⟨0, [], rfl, Nat.zero_le _, Nat.zero_le _, HT⟩
  case round =>
    obtain ⟨k, xs, rfl, hkn, hk30, HTr⟩ := hrel
    clear HT
    obtain ⟨A, cp, rfl, hown⟩ := HTr.own
    have hB := HTr.below.size
    by_cases hk : k < n ∧ k < 20
    · obtain ⟨hk1, hk2⟩ := hk
      have hk3 : (k : Int) < 20 := by omega
      obtain ⟨b, off, rfl, hr⟩ := SeesO.at_ ho hk1
      have hbw : b < w.heap.size := Sees.lt ho b ⟨by omega, rfl⟩
      generalize l.getD k default = op at hr
      obtain ⟨kd, m⟩ := op
      have hrc : wr.rangeAt b (off + k * 9) (Opn.cs ⟨kd, m⟩) := fun j v hv => (HTr.below.cell (p := ⟨b, off + k * 9 + j, none⟩) hbw).trans (hr j v hv)
      have f0 : wr.cell? ⟨b, off + k * 9, none⟩ = some (.int .i64 kd) := hrc 0 _ rfl
      have f1 : wr.cell? ⟨b, off + k * 9 + 1, none⟩ = some (.int .i64 m.x.k) := hrc 1 _ rfl
      have f2 : wr.cell? ⟨b, off + k * 9 + 2, none⟩ = some (.int .i64 m.x.i) := hrc 2 _ rfl
      have f3 : wr.cell? ⟨b, off + k * 9 + 3, none⟩ = some (.int .i64 m.x.j) := hrc 3 _ rfl
      have f4 : wr.cell? ⟨b, off + k * 9 + 4, none⟩ = some (.int .i64 m.v.n) := hrc 4 _ rfl
      have f5 : wr.cell? ⟨b, off + k * 9 + 5, none⟩ = some (.int .i64 m.v.c) := hrc 5 _ rfl
      have f6 : wr.cell? ⟨b, off + k * 9 + 6, none⟩ = some (.int .i64 m.v.g) := hrc 6 _ rfl
      have f7 : wr.cell? ⟨b, off + k * 9 + 7, none⟩ = some (.int .i64 m.g) := hrc 7 _ rfl
      have f8 : wr.cell? ⟨b, off + k * 9 + 8, none⟩ = some (.int .i64 m.p) := hrc 8 _ rfl
      have hkI : (k : Int) < (n : Int) := by omega
      have hk0 : (0 : Int) ≤ (k : Int) := by omega
      clear hr hrc
      have hr := run_any p c room A cp w.heap.size xs kd m wr HTr.buf hown hB
      go_wp2_with fail
      refine hr.mono ?_
      rintro e w3 ⟨A3, cp3, rfl, H3⟩
      generalize stepN room xs kd m = ys at H3 ⊢
      have HT4 : Tells w w3 p c room (.slice A3 ys.length cp3) ys :=
        ⟨H3.buf, ⟨A3, cp3, rfl, H3.own⟩, HTr.below.trans (H3.aside.below hB HTr.far (fun g hg => (hown.lt hg).1)), HTr.far⟩
      clear f0 f1 f2 f3 f4 f5 f6 f7 f8 hkI hk0
      clear H3 HTr hown hr
      go_wp2
      go_roundw
      case rel => exact ⟨k + 1, ys, by go_num, by omega, by omega, HT4⟩
      case measure => simp [intOf]; omega
    · have hend : (¬ k < n ∧ True) ∨ (k < n ∧ ¬ k < 20) := by
        by_cases h : k < n
        · exact .inr ⟨h, fun h' => hk ⟨h, h'⟩⟩
        · exact .inl ⟨h, trivial⟩
      clear hk
      have hlen := HTr.len
      rcases hend with ⟨h1, _⟩ | ⟨h1, h2⟩
      all_goals
        first
          | (have hke : k = n := by omega
             subst hke)
          | (have hke : k = 20 := by omega
             subst hke)
        go_wp2_with fail
        refine (clone_any p c room xs wr HTr.buf).mono ?_
        rintro e w4 ⟨p2, c2, rfl, h4, k4, _, hc2, hg4⟩
        have hown4 := hown.kept hg4 (hown.chan HTr.buf.holds)
        go_wp2_with (first
          | (at_builtin; refine wpList_append_list rfl (.tmp 45) (.tmp 46) rfl rfl rfl hown4.sees (by omega) ?_; intro A5 cp5 w5 ho5 hg5; have HB := both_start HTr hown h4 k4 hc2 hg4 ho5 hg5))
        clear hown4 h4 k4 hc2 hg4 ho5 hg5 HTr hown hB
        go_loopw [10, 14] (fun v i wr => ∃ (k : Nat) (zs : List Ent), i = .int .i64 k ∧ k ≤ n1 ∧ k ≤ 20 ∧ Both w wr room p c v zs p2 c2 (.slice A5 xs.length cp5) xs) (fun _ i _ => 20 - (intOf i).toNat)
        case atStart => exact ⟨0, xs, rfl, Nat.zero_le _, Nat.zero_le _, HB⟩
        case round =>
          obtain ⟨q, zs, rfl, hqn, hq30, HBr⟩ := hrel
          clear HB
          obtain ⟨A7, cp7, rfl, hown⟩ := HBr.one.own
          have hB := HBr.one.below.size
          by_cases hq : q < n1 ∧ q < 20
          · obtain ⟨hq1, hq2⟩ := hq
            have hq3 : (q : Int) < 20 := by omega
            obtain ⟨b1, off1, rfl, hr⟩ := SeesO.at_ ho1 hq1
            have hbw : b1 < w.heap.size := Sees.lt ho1 b1 ⟨by omega, rfl⟩
            generalize l1.getD q default = op at hr
            obtain ⟨kd, m⟩ := op
            have hrc : wr.rangeAt b1 (off1 + q * 9) (Opn.cs ⟨kd, m⟩) := fun j v hv => (HBr.one.below.cell (p := ⟨b1, off1 + q * 9 + j, none⟩) hbw).trans (hr j v hv)
            have f0 : wr.cell? ⟨b1, off1 + q * 9, none⟩ = some (.int .i64 kd) := hrc 0 _ rfl
            have f1 : wr.cell? ⟨b1, off1 + q * 9 + 1, none⟩ = some (.int .i64 m.x.k) := hrc 1 _ rfl
            have f2 : wr.cell? ⟨b1, off1 + q * 9 + 2, none⟩ = some (.int .i64 m.x.i) := hrc 2 _ rfl
            have f3 : wr.cell? ⟨b1, off1 + q * 9 + 3, none⟩ = some (.int .i64 m.x.j) := hrc 3 _ rfl
            have f4 : wr.cell? ⟨b1, off1 + q * 9 + 4, none⟩ = some (.int .i64 m.v.n) := hrc 4 _ rfl
            have f5 : wr.cell? ⟨b1, off1 + q * 9 + 5, none⟩ = some (.int .i64 m.v.c) := hrc 5 _ rfl
            have f6 : wr.cell? ⟨b1, off1 + q * 9 + 6, none⟩ = some (.int .i64 m.v.g) := hrc 6 _ rfl
            have f7 : wr.cell? ⟨b1, off1 + q * 9 + 7, none⟩ = some (.int .i64 m.g) := hrc 7 _ rfl
            have f8 : wr.cell? ⟨b1, off1 + q * 9 + 8, none⟩ = some (.int .i64 m.p) := hrc 8 _ rfl
            have hkI : (q : Int) < (n1 : Int) := by omega
            have hk0 : (0 : Int) ≤ (q : Int) := by omega
            clear hr hrc
            have hr := run_any p c room A7 cp7 w.heap.size zs kd m _ HBr.one.buf hown hB
            go_wp2_with fail
            refine hr.mono ?_
            rintro e w6 ⟨A6, cp6, rfl, H6⟩
            generalize stepN room zs kd m = ys at H6 ⊢
            have HB6 := HBr.ran H6
            clear f0 f1 f2 f3 f4 f5 f6 f7 f8 hkI hk0
            clear H6 HBr hown hr
            go_wp2
            go_roundw
            case rel => exact ⟨q + 1, ys, by go_num, by omega, by omega, HB6⟩
            case measure => simp [intOf]; omega
          · have hqe : (¬ q < n1 ∧ True) ∨ (q < n1 ∧ ¬ q < 20) := by
              by_cases h : q < n1
              · exact .inr ⟨h, fun h' => hq ⟨h, h'⟩⟩
              · exact .inl ⟨h, trivial⟩
            clear hq
            rcases hqe with ⟨h3, _⟩ | ⟨h3, h4⟩
            all_goals
              first
                | (have hqe : q = n1 := by omega
                   subst hqe)
                | (have hqe : q = 20 := by omega
                   subst hqe)
              have HC := HBr.symm
              clear HBr hown hB
              go_wp2
              go_loopw [13, 15] (fun v i wr => ∃ (k : Nat) (ys : List Ent), i = .int .i64 k ∧ k ≤ n2 ∧ k ≤ 20 ∧ Both w wr room p2 c2 v ys p c (.slice A7 zs.length cp7) zs) (fun _ i _ => 20 - (intOf i).toNat)
              case atStart => exact ⟨0, xs, rfl, Nat.zero_le _, Nat.zero_le _, HC⟩
              case round =>
                obtain ⟨s, ys, rfl, hsn, hs30, HCr⟩ := hrel
                clear HC
                obtain ⟨A8, cp8, rfl, hown⟩ := HCr.one.own
                have hB := HCr.one.below.size
                by_cases hs : s < n2 ∧ s < 20
                · obtain ⟨hs1, hs2⟩ := hs
                  have hs3 : (s : Int) < 20 := by omega
                  obtain ⟨b2, off2, rfl, hr⟩ := SeesO.at_ ho2 hs1
                  have hbw : b2 < w.heap.size := Sees.lt ho2 b2 ⟨by omega, rfl⟩
                  generalize l2.getD s default = op at hr
                  obtain ⟨kd, m⟩ := op
                  have hrc : wr.rangeAt b2 (off2 + s * 9) (Opn.cs ⟨kd, m⟩) := fun j v hv => (HCr.one.below.cell (p := ⟨b2, off2 + s * 9 + j, none⟩) hbw).trans (hr j v hv)
                  have f0 : wr.cell? ⟨b2, off2 + s * 9, none⟩ = some (.int .i64 kd) := hrc 0 _ rfl
                  have f1 : wr.cell? ⟨b2, off2 + s * 9 + 1, none⟩ = some (.int .i64 m.x.k) := hrc 1 _ rfl
                  have f2 : wr.cell? ⟨b2, off2 + s * 9 + 2, none⟩ = some (.int .i64 m.x.i) := hrc 2 _ rfl
                  have f3 : wr.cell? ⟨b2, off2 + s * 9 + 3, none⟩ = some (.int .i64 m.x.j) := hrc 3 _ rfl
                  have f4 : wr.cell? ⟨b2, off2 + s * 9 + 4, none⟩ = some (.int .i64 m.v.n) := hrc 4 _ rfl
                  have f5 : wr.cell? ⟨b2, off2 + s * 9 + 5, none⟩ = some (.int .i64 m.v.c) := hrc 5 _ rfl
                  have f6 : wr.cell? ⟨b2, off2 + s * 9 + 6, none⟩ = some (.int .i64 m.v.g) := hrc 6 _ rfl
                  have f7 : wr.cell? ⟨b2, off2 + s * 9 + 7, none⟩ = some (.int .i64 m.g) := hrc 7 _ rfl
                  have f8 : wr.cell? ⟨b2, off2 + s * 9 + 8, none⟩ = some (.int .i64 m.p) := hrc 8 _ rfl
                  have hkI : (s : Int) < (n2 : Int) := by omega
                  have hk0 : (0 : Int) ≤ (s : Int) := by omega
                  clear hr hrc
                  have hr := run_any p2 c2 room A8 cp8 w.heap.size ys kd m _ HCr.one.buf hown hB
                  go_wp2_with fail
                  refine hr.mono ?_
                  rintro e w8 ⟨A9, cp9, rfl, H8⟩
                  generalize stepN room ys kd m = ys' at H8 ⊢
                  have HC8 := HCr.ran H8
                  clear f0 f1 f2 f3 f4 f5 f6 f7 f8 hkI hk0
                  clear H8 HCr hown hr
                  go_wp2
                  go_roundw
                  case rel => exact ⟨s + 1, ys', by go_num, by omega, by omega, HC8⟩
                  case measure => simp [intOf]; omega
                · have hse : (¬ s < n2 ∧ True) ∨ (s < n2 ∧ ¬ s < 20) := by
                    by_cases h : s < n2
                    · exact .inr ⟨h, fun h' => hs ⟨h, h'⟩⟩
                    · exact .inl ⟨h, trivial⟩
                  clear hs
                  rcases hse with ⟨h5, _⟩ | ⟨h5, h6⟩
                  all_goals
                    first
                      | (have hqe : s = n2 := by omega
                         subst hqe)
                      | (have hqe : s = 20 := by omega
                         subst hqe)
                    have HD := HCr.symm
                    clear HCr hown hB
                    go_wp2_with fail
                    refine HD.told.mono ?_
                    rintro e w9 ⟨rfl, H9⟩
                    go_wp2_with fail
                    refine H9.symm.told.mono ?_
                    rintro e w10 ⟨rfl, H10⟩
                    go_wp2
                    go_ret
                    exact ⟨rfl, H10.one.below⟩
end Go.Proofs.Ytclnkgoaenlhhaa
