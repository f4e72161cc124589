/- The reference's New. Conditions: none. -/
import Derived.Test.YtdilmapcjmdabaaRbase
import Derived.Test.YtdilmapcjmdabaaMake
namespace Go.Proofs.Ytdilmapcjmdabaa
open Go.ChangeShapes Go.WideShapes Go.RowKit
theorem row_next (i : Nat) : (sta0 (i + 1)).R = (sta0 i).R ++ [(i : Int) + 1] := by simp [sta0, List.range_succ]
theorem cells_next (i : Nat) : flatC (sta0 (i + 1)).C = flatC (sta0 i).C ++ noC.cs := by simp [sta0, flatC, List.replicate_succ']
/-- Lists that grow in a variable. -/
structure Growing (w : World) (z i : Nat) (Ac : Option Addr) (cc : Nat) (Ar : Option Addr) (cr : Nat) (wr : World) : Prop where
  res : Blk wr z 31 #[.slice none 0 0, .slice none 0 0]
  var : Blk wr (z + 1) 31 #[.slice Ac i cc, .slice Ar i cr]
  cells : wr.ownsRow z 45 10 (.slice Ac i cc) i (flatC (sta0 i).C)
  row : wr.ownsRow z 3 1 (.slice Ar i cr) i (ints (sta0 i).R)
  below : Below z w wr
theorem own_grown {W W' : World} {B n c k : Nat} {t : TypeId} {A : Option Addr} {vs : List Value} {row : Option Nat} (h : W.ownsRow B t k (.slice A n c) n vs) (hg : W.grownBy W' row) (hne : ∀ g, lies A g → some g ≠ row) : W'.ownsRow B t k (.slice A n c) n vs :=
  h.kept hg (by
    cases A with
    | none => exact .inl rfl
    | some ad => exact .inr (hne ad.block rfl))
/-- One more, in memory. -/
theorem grow_one {w w1 w3 wr : World} {z i : Nat} {Ac Ar : Option Addr} {cc cr g1 c1 g3 c3 : Nat} {os : Array Value} (h : Growing w z i Ac cc Ar cr wr)
    (hg1 : (wr.alloc (.cells os 45)).grownBy w1 (Value.slice Ac i cc).ownBlock) (ho1 : w1.ownsRow z 45 10 (.slice (some ⟨g1, 0, none⟩) (i + 1) c1) (i + 1) (flatC (sta0 i).C ++ noC.cs))
    (hg3 : ((w1.setCell ⟨z + 1, 0, none⟩ (.slice (some ⟨g1, 0, none⟩) (i + 1) c1)).alloc (.cells #[.int .i64 ((i : Int) + 1)] 3)).grownBy w3 (Value.slice Ar i cr).ownBlock)
    (ho3 : w3.ownsRow z 3 1 (.slice (some ⟨g3, 0, none⟩) (i + 1) c3) (i + 1) (ints (sta0 i).R ++ [.int .i64 ((i : Int) + 1)])) :
    Growing w z (i + 1) (some ⟨g1, 0, none⟩) c1 (some ⟨g3, 0, none⟩) c3 (w3.setCell ⟨z + 1, 1, none⟩ (.slice (some ⟨g3, 0, none⟩) (i + 1) c3)) := by
  have hA : ∀ {W : World} {os : Array Value} {t : TypeId}, Below W.heap.size W (W.alloc (.cells os t)) := (Below.refl _ _).alloc (Nat.le_refl _) _
  have oc := own_low h.cells
  have or0 := own_low h.row
  -- behind the first append
  have r1 := h.res.on (hA (os := os) (t := 45))
  have v1 := h.var.on (hA (os := os) (t := 45))
  have oc1 := own_below oc (hA (os := os) (t := 45))
  have or1 := own_below or0 (hA (os := os) (t := 45))
  have off : ∀ {W : World} {A : Option Addr} {n c k g : Nat} {t t' : TypeId} {vs : List Value} {cs : Array Value}, W.ownsRow 0 t k (.slice A n c) n vs → Blk W g t' cs → t ≠ t' → some g ≠ (Value.slice A n c).ownBlock := fun ho hb ht e => own_off ho hb ht ((own_lies _ _ _ _).1 e.symm)
  have r2 := blk_grown r1 hg1 (off oc1 r1 (by decide))
  have v2 := blk_grown v1 hg1 (off oc1 v1 (by decide))
  have or2 := own_kept or1 (kept_grown hg1) (fun g hg e => by
    obtain ⟨cs, hb⟩ := own_blk or1 hg
    exact off oc1 hb (by decide) e.symm)
  -- behind the store
  have k3 := kept_cell w1 ⟨z + 1, 0, none⟩ (.slice (some ⟨g1, 0, none⟩) (i + 1) c1)
  have r3 := blk_far r2 (by omega : z ≠ z + 1) 0 (.slice (some ⟨g1, 0, none⟩) (i + 1) c1)
  have v3 : Blk (w1.setCell ⟨z + 1, 0, none⟩ (.slice (some ⟨g1, 0, none⟩) (i + 1) c1)) (z + 1) 31 #[.slice (some ⟨g1, 0, none⟩) (i + 1) c1, .slice Ar i cr] := blk_set v2 0 _
  have oc3 := own_kept (own_low ho1) k3 (fun g hg e => by subst e; exact own_off (own_low ho1) v2 (by decide) hg)
  have or3 := own_kept or2 k3 (fun g hg e => by subst e; exact own_off or2 v2 (by decide) hg)
  -- behind the second append
  have r4 := r3.on (hA (os := #[.int .i64 ((i : Int) + 1)]) (t := 3))
  have v4 := v3.on (hA (os := #[.int .i64 ((i : Int) + 1)]) (t := 3))
  have oc4 := own_below oc3 (hA (os := #[.int .i64 ((i : Int) + 1)]) (t := 3))
  have or4 := own_below or3 (hA (os := #[.int .i64 ((i : Int) + 1)]) (t := 3))
  have r5 := blk_grown r4 hg3 (off or4 r4 (by decide))
  have v5 := blk_grown v4 hg3 (off or4 v4 (by decide))
  have oc5 := own_kept oc4 (kept_grown hg3) (fun g hg e => by
    obtain ⟨cs, hb⟩ := own_blk oc4 hg
    exact off or4 hb (by decide) e.symm)
  -- behind the second store
  have k6 := kept_cell w3 ⟨z + 1, 1, none⟩ (.slice (some ⟨g3, 0, none⟩) (i + 1) c3)
  have oc6 := own_kept oc5 k6 (fun g hg e => by subst e; exact own_off oc5 v5 (by decide) hg)
  have or6 := own_kept (own_low ho3) k6 (fun g hg e => by subst e; exact own_off (own_low ho3) v5 (by decide) hg)
  have up : ∀ {W : World} {A : Option Addr} {n c k : Nat} {t : TypeId} {vs : List Value}, W.ownsRow 0 t k (.slice A n c) n vs → (∀ g, lies A g → z ≤ g) → W.ownsRow z t k (.slice A n c) n vs := fun ho hl => by
    refine ⟨ho.1, ?_⟩
    rcases ho.2 with h0 | ⟨g, c, cur, e, _, rest⟩
    · exact .inl h0
    · injection e with e1 e2 e3
      exact .inr ⟨g, c, cur, by rw [e1, e3], hl g (by rw [e1]; rfl), rest⟩
  have hz := h.var.lt
  have b1 : Below z w w1 := (h.below.alloc (by omega) _).trans ((kept_grown hg1).under z (by simp; omega) (fun k e => own_new h.cells k ((own_lies _ _ _ _).1 e)))
  have b2 := b1.setCell (p := ⟨z + 1, 0, none⟩) (Nat.le_succ z) (.slice (some ⟨g1, 0, none⟩) (i + 1) c1)
  have hz1 := v3.lt
  have b3 : Below z w w3 := (b2.alloc (by omega) _).trans ((kept_grown hg3).under z (by simp [World.setCell] at hz1 ⊢; omega) (fun k e => own_new h.row k ((own_lies _ _ _ _).1 e)))
  exact ⟨blk_far r5 (by omega) _ _, blk_set v5 1 _, by rw [cells_next]; exact up oc6 (own_new ho1), by rw [row_next, show ints ((sta0 i).R ++ [(i : Int) + 1]) = ints (sta0 i).R ++ [.int .i64 ((i : Int) + 1)] by simp [ints]]; exact up or6 (own_new ho3), b3.setCell (p := ⟨z + 1, 1, none⟩) (Nat.le_succ z) _⟩
set_option maxRecDepth 100000 in
set_option maxHeartbeats 1000000 in
theorem rnew_any (x : Int) (w : World) : Calls Try.prog 10 #[.int .i64 x] w fun e w' => ∃ r', e = .returned (.agg r'.cs) ∧ NewR (sta0 (cellsN x)) w r' w' := by
  obtain ⟨i0, hi, hz0, hz1, hz2⟩ := info_parts info45
  obtain ⟨i3, hi3, ha0, ha1, ha2⟩ := info_parts info3
  have hN := cellsN_le x
  have hNx : ∀ i : Nat, i < cellsN x ↔ (i : Int) + 1 ≤ x ∧ (i : Int) + 1 ≤ 6 := fun i => by
    unfold cellsN
    split
    · omega
    · split <;> omega
  have HNX := Lib.hid hNx
  obtain ⟨N, eN⟩ : ∃ N, N = cellsN x := ⟨_, rfl⟩
  rw [← eN] at HNX hN ⊢
  clear hNx eN
  have G0 : Growing w w.heap.size 0 none 0 none 0 ((w.alloc (.cells #[.slice none 0 0, .slice none 0 0] 31)).alloc (.cells #[.slice none 0 0, .slice none 0 0] 31)) :=
    ⟨(blk_new w _ 31 _ rfl).on ((Below.refl _ _).alloc (Nat.le_refl _) _), blk_new _ _ 31 _ (by simp), World.ownsRow_nil _ _ _ _, World.ownsRow_nil _ _ _ _, ((Below.refl _ w).alloc (Nat.le_refl _) _).alloc (by simp) _⟩
  obtain ⟨z, ez⟩ : ∃ z, z = w.heap.size := ⟨_, rfl⟩
  go_enter Try.func10, Try.ntmps10
  go_wp2_with fail
  rw [← ez] at G0 ⊢
  have EZ := Lib.hid ez
  clear ez
  go_loopw [4] (fun i wr => ∃ (j : Nat) (Ac : Option Addr) (cc : Nat) (Ar : Option Addr) (cr : Nat), i = .int .i64 ((j : Int) + 1) ∧ j ≤ N ∧ Growing w z j Ac cc Ar cr wr) (fun i _ => 8 - (intOf i).toNat)
  case atStart => exact ⟨0, none, 0, none, 0, rfl, Nat.zero_le _, G0⟩
  case round =>
    obtain ⟨j, Ac, cc, Ar, cr, rfl, hj, G⟩ := hrel
    clear G0
    by_cases hlt : j < N
    · have t0 : decide ((j : Int) + 1 ≤ x) = true := decide_eq_true ((HNX.out j).1 hlt).1
      have t1 : decide ((j : Int) + 1 ≤ 6) = true := decide_eq_true ((HNX.out j).1 hlt).2
      have hj6 : (j : Int) + 1 ≤ 6 := ((HNX.out j).1 hlt).2
      have q0 : wr.cell? ⟨z + 1, 0, none⟩ = some (.slice Ac j cc) := G.var.cell 0
      have oc := G.cells
      have hzl := G.var.lt
      obtain ⟨m, em⟩ : ∃ m, m = j + 1 := ⟨_, rfl⟩
      have HG := Lib.hid G
      have EMM := Lib.hid em
      clear G em
      have hA := oc.alloc (.cells noC.cs.toArray 45)
      have hzl2 : z ≤ wr.heap.size := by omega
      go_wp2_with (at_builtin; first
        | (refine wpList_append_lies _ rfl _ _ 28 rfl z 45 i0 (.agg noC.cs.toArray) 10 80 Try.underlying28 hi hz0 hz1 hz2 rfl (by decide) (.slice Ac j cc) j (flatC (sta0 j).C) rfl hA ⟨wr.heap.size, 0, none⟩ 1 1 noC.cs rfl rfl (World.news_of_block (cs := noC.cs.toArray) (t := 45) (fr := (0, 0)) (heap_alloc_new wr _)) noC.one (by decide) (by unfold maxLen; omega) (by omega) (by simp; omega) (wr.heap.size + 1) (by simp) ?_
           intro g1 c1 w1 ho1 hg1 hat1 hlt1
           have G := HG.out
           have r1 : Blk (wr.alloc (.cells noC.cs.toArray 45)) (z + 1) 31 #[.slice Ac j cc, .slice Ar j cr] := G.var.on ((Below.refl _ _).alloc (Nat.le_refl _) _)
           have v1 := blk_grown r1 hg1 (fun e => own_off (own_low hA) r1 (by decide) ((own_lies _ _ _ _).1 e.symm))
           have p0 : w1.cell? ⟨z + 1, 0, none⟩ = some (.slice Ac j cc) := v1.cell 0
           have p1 : w1.cell? ⟨z + 1, 1, none⟩ = some (.slice Ar j cr) := v1.cell 1
           have p2 := v1.free 0
           have or1 := own_grown (G.row.alloc (.cells noC.cs.toArray 45)) hg1 (fun g hg e => (own_blk (own_low (G.row.alloc (.cells noC.cs.toArray 45))) hg).elim (fun cs hb => own_off (own_low hA) hb (by decide) ((own_lies _ _ _ _).1 e.symm)))
           rw [← EMM.out] at ho1 ⊢
           have or2 := own_grown or1 ((kept_cell w1 ⟨z + 1, 0, none⟩ (.slice (some ⟨g1, 0, none⟩) m c1)).grown (some (z + 1)) (fun k e => congrArg some e)) (fun g hg e => own_off (own_low or1) v1 (by decide) (Option.some.inj e ▸ hg))
           have v2 : Blk (w1.setCell ⟨z + 1, 0, none⟩ (.slice (some ⟨g1, 0, none⟩) m c1)) (z + 1) 31 #[.slice (some ⟨g1, 0, none⟩) m c1, .slice Ar j cr] := blk_set v1 0 _
           have hzl3 := v2.lt
           have or3 := or2.alloc (.cells #[.int .i64 ((j : Int) + 1)] 3)
           have hnb : Blk ((w1.setCell ⟨z + 1, 0, none⟩ (.slice (some ⟨g1, 0, none⟩) m c1)).alloc (.cells #[.int .i64 ((j : Int) + 1)] 3)) w1.heap.size 3 #[.int .i64 ((j : Int) + 1)] := blk_new _ _ 3 _ (by simp [World.setCell])
           have hzl4 : z ≤ ((w1.setCell ⟨z + 1, 0, none⟩ (.slice (some ⟨g1, 0, none⟩) m c1)).alloc (.cells #[.int .i64 ((j : Int) + 1)] 3)).heap.size := by have := hnb.lt; have := v1.lt; omega
           have HV := Lib.hid (And.intro ho1 (And.intro hg1 (And.intro v2 or3)))
           clear G r1 v1 or1 or2 v2 hat1 hlt1 ho1 hg1)
        | (obtain ⟨ho1, hg1, v2, or3⟩ := HV.out
           refine wpList_append_lies _ rfl _ _ 29 rfl z 3 i3 (.int .i64 0) 1 8 Try.underlying29 hi3 ha0 ha1 ha2 rfl (by decide) (.slice Ar j cr) j (ints (sta0 j).R) rfl or3 ⟨w1.heap.size, 0, none⟩ 1 1 [.int .i64 ((j : Int) + 1)] rfl rfl (World.news_of_block (cs := #[.int .i64 ((j : Int) + 1)]) (t := 3) (fr := (0, 0)) hnb) (by simp [Value.oneCell']) (by decide) (by unfold maxLen; omega) (by omega) hzl4 _ rfl ?_
           intro g3 c3 w3 ho3 hg3 hat3 hlt3
           have r3 : Blk ((w1.setCell ⟨z + 1, 0, none⟩ (.slice (some ⟨g1, 0, none⟩) m c1)).alloc (.cells #[.int .i64 ((j : Int) + 1)] 3)) (z + 1) 31 #[.slice (some ⟨g1, 0, none⟩) m c1, .slice Ar j cr] := v2.on ((Below.refl _ _).alloc (Nat.le_refl _) _)
           have v3 := blk_grown r3 hg3 (fun e => own_off (own_low or3) r3 (by decide) ((own_lies _ _ _ _).1 e.symm))
           have s0 : w3.cell? ⟨z + 1, 0, none⟩ = some (.slice (some ⟨g1, 0, none⟩) m c1) := v3.cell 0
           have s1 : w3.cell? ⟨z + 1, 1, none⟩ = some (.slice Ar j cr) := v3.cell 1
           have s2 := v3.free 1
           rw [← EMM.out] at ho3 ⊢))
      go_roundw
      case rel =>
        have hm := EMM.out
        subst hm
        exact ⟨j + 1, _, c1, _, c3, by congr 1, by omega, grow_one HG.out (HV.out.2.1) (HV.out.1) hg3 ho3⟩
      case measure => simp [intOf]; omega
    · obtain rfl : j = N := by omega
      have hno := HNX.out j
      have v0 : wr.cell? ⟨z + 1, 0, none⟩ = some (.slice Ac j cc) := G.var.cell 0
      have v1 : wr.cell? ⟨z + 1, 1, none⟩ = some (.slice Ar j cr) := G.var.cell 1
      have y0 : wr.cell? ⟨z, 0, none⟩ = some (.slice none 0 0) := G.res.cell 0
      have y1 : wr.cell? ⟨z, 1, none⟩ = some (.slice none 0 0) := G.res.cell 1
      have y2 := G.res.free 0
      have y3 := G.res.free 1
      have HG := Lib.hid G
      have hq : Blk ((wr.setCell ⟨z, 0, none⟩ (.slice Ac j cc)).setCell ⟨z, 1, none⟩ (.slice Ar j cr)) z 31 #[.slice Ac j cc, .slice Ar j cr] := blk_set (blk_set G.res 0 (.slice Ac j cc)) 1 (.slice Ar j cr)
      have hk : Kept (fun g => g = z) wr ((wr.setCell ⟨z, 0, none⟩ (.slice Ac j cc)).setCell ⟨z, 1, none⟩ (.slice Ar j cr)) := (kept_cell wr ⟨z, 0, none⟩ (.slice Ac j cc)).next (kept_cell _ ⟨z, 1, none⟩ (.slice Ar j cr)) (fun g e => .inl e)
      have hbE : Below z w ((wr.setCell ⟨z, 0, none⟩ (.slice Ac j cc)).setCell ⟨z, 1, none⟩ (.slice Ar j cr)) := (G.below.setCell (p := ⟨z, 0, none⟩) (Nat.le_refl _) _).setCell (p := ⟨z, 1, none⟩) (Nat.le_refl _) _
      have oc := own_kept (own_low G.cells) hk (fun g hg e => by have e : g = z := e; subst e; exact own_off (own_low G.cells) G.res (by decide) hg)
      have or1 := own_kept (own_low G.row) hk (fun g hg e => by have e : g = z := e; subst e; exact own_off (own_low G.row) G.res (by decide) hg)
      have HE := Lib.hid (And.intro hq (And.intro hbE (And.intro oc or1)))
      clear G hq hk hbE oc or1
      have hend : ∃ r', (Ending.returned (Value.agg #[.slice Ac j cc, .slice Ar j cr])) = Ending.returned (.agg (Rim.cs r')) ∧ NewR (sta0 j) w r' ((wr.setCell ⟨z, 0, none⟩ (.slice Ac j cc)).setCell ⟨z, 1, none⟩ (.slice Ar j cr)) := by
        obtain ⟨hq, hbE, oc, or1⟩ := HE.out
        have G := HG.out
        have ez := EZ.out
        refine ⟨⟨Ac, cc, j, Ar, cr, j⟩, rfl, ⟨oc, own_sees or1, fun g e e2 => ?_⟩, by rw [← ez]; exact hbE, ?_⟩
        · obtain ⟨cs, hb⟩ := own_blk or1 e2
          exact own_off oc hb (by decide) e
        · rintro g (e | e)
          · rw [← ez]
            exact own_new G.cells g e
          · rw [← ez]
            exact own_new G.row g e
      have HD := Lib.hid hend
      clear hend
      by_cases h1 : (j : Int) + 1 ≤ x
      · have t0 : decide ((j : Int) + 1 ≤ x) = true := decide_eq_true h1
        have t1 : decide ((j : Int) + 1 ≤ 6) = false := decide_eq_false (fun h => absurd (hno.2 ⟨h1, h⟩) (Nat.lt_irrefl _))
        clear hno h1
        go_wp2
        refine bodyPost_ret (results_cell_row (cs := #[.slice Ac j cc, .slice Ar j cr]) rfl _ _ z 31 (0, 0) _ rfl HE.out.1 Try.underlying31 rfl size31) rfl ?_
        exact HD.out
      · have t0 : decide ((j : Int) + 1 ≤ x) = false := decide_eq_false h1
        clear hno h1
        go_wp2
        refine bodyPost_ret (results_cell_row (cs := #[.slice Ac j cc, .slice Ar j cr]) rfl _ _ z 31 (0, 0) _ rfl HE.out.1 Try.underlying31 rfl size31) rfl ?_
        exact HD.out
end Go.Proofs.Ytdilmapcjmdabaa
