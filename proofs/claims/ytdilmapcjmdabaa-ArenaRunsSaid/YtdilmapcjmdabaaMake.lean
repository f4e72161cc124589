/- An arena is made. Conditions: none. -/
import Derived.Test.YtdilmapcjmdabaaTake
import Derived.Test.YtdilmapcjmdabaaCopies
namespace Go.Proofs.Ytdilmapcjmdabaa
open Go.ChangeShapes Go.WideShapes Go.RowKit

theorem made_flat (n : Nat) (hn : n ≤ 6) : (madeCells (Value.agg noC.cs.toArray).cells (n * 10)).toList = flatC (List.replicate n noC) := by
  rcases (by omega : n = 0 ∨ n = 1 ∨ n = 2 ∨ n = 3 ∨ n = 4 ∨ n = 5 ∨ n = 6) with rfl | rfl | rfl | rfl | rfl | rfl | rfl <;> kernel_rfl
/-- The row as far as it is made. -/
def rowFrom (n k : Nat) : List Int := (List.range (n - k)).map fun (i : Nat) => ((k + i : Nat) : Int) + 1
theorem rowFrom_all (n : Nat) : rowFrom n 0 = (sta0 n).R := by simp [rowFrom, sta0]
theorem rowFrom_end (n : Nat) : rowFrom n n = [] := by simp [rowFrom]
theorem rowFrom_next (n k : Nat) (h : k < n) : ((k : Int) + 1) :: rowFrom n (k + 1) = rowFrom n k := by
  unfold rowFrom
  rw [show n - k = (n - (k + 1)) + 1 by omega, List.range_succ_eq_map, List.map_cons, List.map_map]
  congr 1
  apply List.map_congr_left
  intro i _
  simp only [Function.comp]
  omega
/-- A new stock. -/
def NewS (n k : Nat) (ps B : Nat) (w wr : World) : Prop :=
  ∃ Ac cc Ar cr m, Stk wr ps Ac cc n Ar cr m (List.replicate n noC) (rowFrom n k) ∧ Below B w wr ∧ ∀ g, stkS ps Ac Ar g → B ≤ g
set_option maxRecDepth 100000 in
theorem stock_any (n : Nat) (hn : n ≤ 6) (w : World) : Calls Try.prog 28 #[.int .i64 (n : Int)] w fun e w' => ∃ ps, e = .returned (.pointer (some ⟨ps, 0, none⟩)) ∧ NewS n 0 ps w.heap.size w w' := by
  obtain ⟨i0, hi, hz0, hz1, hz2⟩ := info_parts info45
  obtain ⟨i3, hi3, ha0, ha1, ha2⟩ := info_parts info3
  have hfl := Lib.hid (made_flat n hn)
  have Z2 := Lib.hid hz2
  clear hz2
  go_enter Try.func28, Try.ntmps28
  go_wp2_with (first
    | (at_make; refine wpList_make_full _ rfl _ _ 28 rfl w.heap.size 45 i0 (.agg noC.cs.toArray) 10 Try.underlying28 hi hz0 hz1 .i64 .i64 _ _ n rfl rfl rfl rfl (by rw [Z2.out]; omega) (by unfold maxLen; omega) (Nat.le_refl _) ?_; intro w1 hown1 hg1))
  have e1 : w.heap.size ≤ w1.heap.size := hg1.size
  have hb1 : Below w.heap.size w w1 := (Below.refl _ _).grown hg1 (Nat.le_refl _) (by simp)
  have HS : NewS n n w1.heap.size w.heap.size w (w1.alloc (.cells #[.slice (some ⟨w.heap.size, 0, none⟩) n n, .slice none 0 0] 80)) := by
    rw [hfl.out] at hown1
    refine ⟨some ⟨w.heap.size, 0, none⟩, n, none, 0, 0, ⟨heap_alloc_new w1 _, own_low (hown1.alloc _), ?_⟩, hb1.alloc e1 _, ?_⟩
    · rw [rowFrom_end]
      exact World.ownsRow_nil _ _ _ _
    · rintro g (rfl | e | e)
      · exact e1
      · have e2 : w.heap.size = g := by simpa [lies] using e
        omega
      · cases e
  generalize w1.heap.size = ps at HS ⊢
  clear hown1 hg1 e1 hb1
  go_loopw [4] (fun i wr => ∃ k : Nat, i = .int .i64 k ∧ k ≤ n ∧ NewS n k ps w.heap.size w wr) (fun i _ => (intOf i).toNat)
  case atStart => exact ⟨n, rfl, Nat.le_refl _, HS⟩
  case round =>
    obtain ⟨k, rfl, hk, Ac, cc, Ar, cr, m, hS, hb, hm⟩ := hrel
    clear HS
    by_cases h1 : 1 ≤ k
    · have t0 : decide ((1 : Int) ≤ (k : Int)) = true := decide_eq_true (by omega)
      have c1 : wr.cell? ⟨ps, 1, none⟩ = some (.slice Ar m cr) := hS.box.cell 1
      have hlen := hS.lenR
      have hor := own_cap hS.or
      have hm6 : m ≤ 6 := by
        rw [← hlen]
        simp [rowFrom]
        omega
      have or5 : (wr.alloc (.cells #[.int .i64 (k : Int)] 3)).ownsRow 0 3 1 (.slice Ar m cr) m (ints (rowFrom n k).reverse) := hS.or.alloc _
      have HK := Lib.hid (push_box (k := (k : Int)) hS)
      clear hlen
      go_wp2_with (refine wpList_append_lies _ rfl _ _ 29 rfl 0 3 i3 (.int .i64 0) 1 8 Try.underlying29 hi3 ha0 ha1 ha2 rfl (by decide) (.slice Ar m cr) m (ints (rowFrom n k).reverse) rfl or5 ⟨wr.heap.size, 0, none⟩ 1 1 [.int .i64 (k : Int)] rfl rfl (World.news_of_block (cs := #[.int .i64 (k : Int)]) (t := 3) (fr := (0, 0)) (heap_alloc_new wr _)) (by simp [Value.oneCell']) (by decide) (by unfold maxLen; omega) (by omega) (Nat.zero_le _) (wr.heap.size + 1) (by simp) ?_; intro gg cp w5 hown hgrow hat hlt; have hbx := HK.out w5 hgrow; have d0 := hbx.cell 1; have d1 := hbx.free 1)
      go_roundw
      case rel =>
        obtain ⟨H1, H2, H3⟩ := set_push hS (k : Int) hgrow hown hat
        refine ⟨k - 1, by congr 1; omega, by omega, Ac, cc, some ⟨gg, 0, none⟩, cp, m + 1, ?_, hb.trans (H2.under _ hb.size (fun k hk => hm k (hk.elim .inl (fun e => .inr (.inr e))))), ?_⟩
        · rw [← rowFrom_next n (k - 1) (by omega), show k - 1 + 1 = k by omega, show (((k - 1 : Nat) : Int) + 1) = (k : Int) by omega]
          exact H1
        · rintro g (e | e | e)
          · exact hm g (.inl e)
          · exact hm g (.inr (.inl e))
          · exact (H3 g e).elim (fun e => hm g (.inr (.inr e))) (fun e => Nat.le_trans hb.size e)
      case measure => simp [intOf]; omega
    · obtain rfl : k = 0 := by omega
      go_wp2
      go_ret
      exact ⟨ps, rfl, Ac, cc, Ar, cr, m, hS, hb, hm⟩

theorem new_any (x : Int) (w : World) : Calls Try.prog 9 #[.int .i64 x] w fun e w' => ∃ p L, e = .returned (.pointer (some ⟨p, 0, none⟩)) ∧ Ara w' p L (sta0 (cellsN x)) [] ∧ Below w.heap.size w w' ∧ ∀ g, mine p L g → w.heap.size ≤ g := by
  obtain ⟨W1, eW1⟩ : ∃ W, W = w.alloc (.cells #[.slice none 0 0] 68) := ⟨_, rfl⟩
  have hb1 : Below w.heap.size w W1 := by rw [eW1]; exact (Below.refl _ w).alloc (Nat.le_refl _) _
  have hB : Blk W1 w.heap.size 68 #[.slice none 0 0] := by rw [eW1]; exact heap_alloc_new w _
  go_enter Try.func9, Try.ntmps9
  go_wp2_with fail
  rw [← eW1]
  clear eW1
  refine (clamp_any x W1).mono ?_
  rintro e w2 ⟨rfl, rfl⟩
  go_wp2_with fail
  refine (stock_any (cellsN x) (cellsN_le x) W1).mono ?_
  rintro e w2 ⟨ps, rfl, Ac, cc, Ar, cr, m, hS, hb2, hm⟩
  have hB2 := hB.on hb2
  rw [rowFrom_all] at hS
  go_wp2
  go_ret
  have hb3 : Below w2.heap.size w2 (w2.alloc (.cells #[.pointer (some ⟨w.heap.size, 0, none⟩), .pointer (some ⟨ps, 0, none⟩)] 62)) := (Below.refl _ w2).alloc (Nat.le_refl _) _
  have hbw := hb1.trans (hb2.mono hb1.size)
  refine ⟨w2.heap.size, ⟨w.heap.size, ps, Ac, cc, cellsN x, Ar, cr, m, none, 0, 0⟩, rfl, ⟨heap_alloc_new w2 _, ⟨hB2.on hb3, World.ownsRow_nil _ _ _ _⟩, hS.below hb3⟩, hbw.trans (hb3.mono hbw.size), ?_⟩
  rintro g (rfl | (rfl | e) | e)
  · exact hbw.size
  · exact Nat.le_refl _
  · cases e
  · exact Nat.le_trans hb1.size (hm g e)
end Go.Proofs.Ytdilmapcjmdabaa
