/- Contracts of octet's Put and of the plain Put: b, and the octets of the number behind it. Conditions: b holds at most 2000 octets. -/
import Derived.Test.YtcgoaallfhompaaDoorOSmall
namespace Go.Proofs.YtcgoaallfhompaaDoor.O
set_option linter.unusedSimpArgs false
set_option linter.unusedVariables false
open Go.RowKit
/-- What is put: nothing where the width is none. -/
def _root_.Go.Proofs.YtcgoaallfhompaaDoor.put (xs : List Int) (n k : Int) : List Int := if 1 ≤ k ∧ k ≤ 8 then xs ++ digs n k.toNat else xs
/-- The call ends with a slice that holds ys; what was there is as it was. -/
def _root_.Go.Proofs.YtcgoaallfhompaaDoor.Gives (ys : List Int) (w : World) (e : Ending) (w' : World) : Prop := ∃ A n cap, e = .returned (.slice A n cap) ∧ Oct w' w'.heap.size A n cap ys ∧ Below w.heap.size w w' ∧ w'.ownsRow w.heap.size 5 1 (.slice A n cap) n (nums ys)
theorem _root_.Go.Proofs.YtcgoaallfhompaaDoor.len_Errno : Tryd.prog.arrayLen 63 = 8 := by kernel_rfl
theorem _root_.Go.Proofs.YtcgoaallfhompaaDoor.under_Errno : Tryd.prog.underlying 63 = some (.array (Tryd.prog.arrayLen 63) (Tryd.prog.elem 63)) := by kernel_rfl
theorem _root_.Go.Proofs.YtcgoaallfhompaaDoor.size_Errno (w : World) : (sizeOf (Tryd.prog.elem 63)).run Tryd.prog w = .ok 1 w := by kernel_rfl
theorem _root_.Go.Proofs.YtcgoaallfhompaaDoor.cut_Errno (g k : Nat) (h1 : 1 ≤ k) (h8 : k ≤ 8) (w : World) : (Instr.sliceAt 63 (.pointer (some ⟨g, 0, none⟩)) (some (.int .i64 (8 - (k : Int)))) none none).run Tryd.prog w = .ok (.slice (some ⟨g, 8 - k, none⟩) k k) w := by
  rw [run_sliceAt_array_l w 63 _ under_Errno .i64 _ (by omega) (by rw [len_Errno]; omega), size_Errno, len_Errno]
  have e : (8 - (k : Int)).toNat = 8 - k := by omega
  have e2 : 8 - (8 - k) = k := by omega
  have e3 : ¬ 8 = 8 - k := by omega
  simp only [Result.andThen, slicedAt, e, e2, if_neg e3, Nat.mul_one]
  congr 3
  unfold Addr.add
  split <;> simp_all
theorem _root_.Go.Proofs.YtcgoaallfhompaaDoor.blk_made {w1 w2 w3 : World} {m : Int} (hg2 : (w1.alloc (.cells (digAgg m) 63)).grownBy w2 none) (hg3 : w2.grownBy w3 (some (w1.heap.size + 1))) : Blk w3 w1.heap.size 63 (digAgg m) := by
  have e1 : (w1.alloc (.cells (digAgg m) 63)).heap[w1.heap.size]? = some (.cells (digAgg m) 63 (0, 0)) := heap_alloc_new w1 _
  have e2 := (hg2.block w1.heap.size (by simp) (by simp)).trans e1
  have hs := hg2.size
  rw [size_alloc] at hs
  exact (hg3.block w1.heap.size (by omega) (by simp)).trans e2
theorem _root_.Go.Proofs.YtcgoaallfhompaaDoor.dig_news {w3 : World} {g : Nat} {m : Int} {k : Nat} (hb : Blk w3 g 63 (digAgg m)) (h8 : k ≤ 8) : ∀ ad, some (⟨g, 8 - k, none⟩ : Addr) = some ad → ∀ j u, (nums (digs m k))[j]? = some u → w3.cell? (ad.add j) = some u := by
  intro ad ha j u hu
  injection ha with ha
  subst ha
  rw [plain_add, hb.cell, digAgg_eq]
  rw [← hu, ← digs_drop m k h8]
  simp [nums, List.getElem?_drop]
theorem _root_.Go.Proofs.YtcgoaallfhompaaDoor.put_end {w w3 w4 : World} {g n k c : Nat} {xs ys : List Int} (hown : w4.ownsRow w.heap.size 5 1 (.slice (some ⟨g, 0, none⟩) (n + k) c) (n + k) (nums xs ++ nums ys)) (hx : Small xs) (hy : Small ys) (hb : Below w.heap.size w w3) (hg : w3.grownBy w4 (some g)) (h1 : w.heap.size ≤ g) :
    Gives (xs ++ ys) w (.returned (.slice (some ⟨g, 0, none⟩) (n + k) c)) w4 := by
  rw [nums_app] at hown
  obtain ⟨A', cap', he, ho⟩ := Oct.own hown (hx.app hy)
  exact ⟨A', _, cap', by rw [he], ho, hb.grown hg hb.size (fun k hk => by injection hk with hk; omega), by rw [← he]; exact hown⟩
set_option maxHeartbeats 1000000 in
theorem _root_.Go.Proofs.YtcgoaallfhompaaDoor.put_yes (xs : List Int) (A : Option Addr) (n cap : Nat) (m : Int) (k : Nat) (w : World) (h : Oct w w.heap.size A n cap xs) (hn : n ≤ 2000) (h1 : 1 ≤ k) (h8 : k ≤ 8) :
    Calls Tryd.prog 26 #[.slice A n cap, .int .i64 m, .int .i64 k] w (Gives (xs ++ digs m k) w) := by
  obtain ⟨i0, hi0, hz0, hz1, hz2⟩ := info_parts info5
  have Z0 := Lib.hid hz0
  have Z1 := Lib.hid hz1
  have Z2 := Lib.hid hz2
  have I0 := Lib.hid hi0
  clear hz0 hz1 hz2 hi0
  have hsl := cut_Errno (k := k) (h1 := h1) (h8 := h8)
  go_enter Tryd.func26, Tryd.ntmps26
  go_wp2_with (first
    | (go_at_call 32; refine (fits_yes _ (by omega) (by omega) _).mono ?_; rintro e w' ⟨rfl, rfl⟩)
    | (go_at_call 33; refine (split_any _ _).mono ?_; rintro e w1 ⟨rfl, hb1⟩)
    | (at_make; refine wpList_make_own _ rfl _ _ 23 rfl w.heap.size 5 i0 (.int .u8 0) 1 Tryd.underlying23 I0.out Z0.out Z1.out .i64 .i64 _ (n + k) rfl rfl (by omega) (by rw [Z2.out]; omega) (by unfold maxLen; omega) (by have := hb1.size; simp; omega) ?_; intro w2 hown2 hg2; simp only [size_alloc] at hown2; have hbw2 : Below w.heap.size w w2 := (hb1.alloc hb1.size _).grown hg2 (by have := hb1.size; simp; omega) (by simp))
    | (at_builtin; refine wpList_append_fits_any _ rfl (.tmp 19) (.tmp 20) 23 rfl w.heap.size 5 i0 1 Tryd.underlying23 I0.out Z1.out (w1.heap.size + 1) 0 (n + k) [] rfl hown2 A n cap (nums xs) rfl (by rw [nums_len, h.len]; omega) (fun e => by subst e; exact ⟨h.zero.1, h.zero.2.1⟩) (h.below hbw2).news (nums_one xs) (by omega) ?_; intro w3 hown3 hg3; simp only [Nat.zero_add, List.nil_append] at hown3; have hbw3 : Below w.heap.size w w3 := hbw2.grown hg3 hbw2.size (by have := hb1.size; simp; omega); have hk3 := blk_made (m := m) hg2 hg3)
    | (at_builtin; refine wpList_append_fits_any _ rfl (.tmp 22) (.tmp 25) 23 rfl w.heap.size 5 i0 1 Tryd.underlying23 I0.out Z1.out (w1.heap.size + 1) n (n + k) (nums xs) rfl hown3 (some ⟨w1.heap.size, 8 - k, none⟩) k k (nums (digs m k)) rfl (by rw [nums_len, digs_len]; omega) (fun e => by cases e) (dig_news hk3 h8) (nums_one _) (by omega) ?_; intro w4 hown4 hg4))
  go_ret
  exact put_end hown4 h.small (digs_small m k) hbw3 hg4 (by have := hb1.size; omega)
theorem _root_.Go.Proofs.YtcgoaallfhompaaDoor.cut42_end (g : Nat) (w : World) : (Instr.sliceAt 63 (.pointer (some ⟨g, 0, none⟩)) (some (.int .i64 8)) none none).run Tryd.prog w = .ok (.slice (some ⟨g, 0, none⟩) 0 0) w := by
  rw [run_sliceAt_array_l w 63 _ under_Errno .i64 _ (by omega) (by rw [len_Errno]; omega), size_Errno, len_Errno]
  rfl
set_option maxHeartbeats 1000000 in
theorem _root_.Go.Proofs.YtcgoaallfhompaaDoor.put_no (xs : List Int) (A : Option Addr) (n cap : Nat) (m k : Int) (w : World) (h : Oct w w.heap.size A n cap xs) (hn : n ≤ 2000) (hk : k < 1 ∨ 8 < k) :
    Calls Tryd.prog 26 #[.slice A n cap, .int .i64 m, .int .i64 k] w (Gives (xs ++ []) w) := by
  obtain ⟨i0, hi0, hz0, hz1, hz2⟩ := info_parts info5
  have Z0 := Lib.hid hz0
  have Z1 := Lib.hid hz1
  have Z2 := Lib.hid hz2
  have I0 := Lib.hid hi0
  clear hz0 hz1 hz2 hi0
  have hsl := cut42_end
  have HK := Lib.hid hk
  clear hk
  go_enter Tryd.func26, Tryd.ntmps26
  go_wp2_with (first
    | (go_at_call 32; refine (fits_no _ HK.out _).mono ?_; rintro e w' ⟨rfl, rfl⟩)
    | (go_at_call 33; refine (split_any _ _).mono ?_; rintro e w1 ⟨rfl, hb1⟩)
    | (at_make; refine wpList_make_own _ rfl _ _ 23 rfl w.heap.size 5 i0 (.int .u8 0) 1 Tryd.underlying23 I0.out Z0.out Z1.out .i64 .i64 _ n rfl rfl (by omega) (by rw [Z2.out]; omega) (by unfold maxLen; omega) (by have := hb1.size; simp; omega) ?_; intro w2 hown2 hg2; simp only [size_alloc] at hown2; have hbw2 : Below w.heap.size w w2 := (hb1.alloc hb1.size _).grown hg2 (by have := hb1.size; simp; omega) (by simp))
    | (at_builtin; refine wpList_append_fits_any _ rfl (.tmp 19) (.tmp 20) 23 rfl w.heap.size 5 i0 1 Tryd.underlying23 I0.out Z1.out (w1.heap.size + 1) 0 n [] rfl hown2 A n cap (nums xs) rfl (by rw [nums_len, h.len]; omega) (fun e => by subst e; exact ⟨h.zero.1, h.zero.2.1⟩) (h.below hbw2).news (nums_one xs) (by omega) ?_; intro w3 hown3 hg3; simp only [Nat.zero_add, List.nil_append] at hown3; have hbw3 : Below w.heap.size w w3 := hbw2.grown hg3 hbw2.size (by have := hb1.size; simp; omega))
    | (at_builtin; refine wpList_append_fits_any _ rfl (.tmp 22) (.tmp 25) 23 rfl w.heap.size 5 i0 1 Tryd.underlying23 I0.out Z1.out (w1.heap.size + 1) n n (nums xs) rfl hown3 (some ⟨w1.heap.size, 0, none⟩) 0 0 (nums []) rfl rfl (fun e => by cases e) (fun _ _ j u hu => by simp [nums] at hu) (nums_one _) (by omega) ?_; intro w4 hown4 hg4))
  go_ret
  exact put_end hown4 h.small (fun x hx => by cases hx) hbw3 hg4 (by have := hb1.size; omega)
theorem _root_.Go.Proofs.YtcgoaallfhompaaDoor.put_any (xs : List Int) (A : Option Addr) (n cap : Nat) (m k : Int) (w : World) (h : Oct w w.heap.size A n cap xs) (hn : n ≤ 2000) :
    Calls Tryd.prog 26 #[.slice A n cap, .int .i64 m, .int .i64 k] w (Gives (put xs m k) w) := by
  by_cases hk : 1 ≤ k ∧ k ≤ 8
  · obtain ⟨k, rfl⟩ := Int.eq_ofNat_of_zero_le (show 0 ≤ k by omega)
    rw [put, if_pos hk]
    exact put_yes xs A n cap m k w h hn (by omega) (by omega)
  · rw [put, if_neg hk, ← List.append_nil xs]
    simpa using put_no xs A n cap m k w h hn (by omega)
theorem _root_.Go.Proofs.YtcgoaallfhompaaDoor.digs_take (m : Int) (k r : Nat) (h : r < k) : (digs m k).take (k - r) = (digs m k).take (k - (r + 1)) ++ [dig m r] := by
  induction k with
  | zero => omega
  | succ k ih =>
    by_cases e : r = k
    · subst e
      simp [digs]
    · have e1 : k + 1 - r = (k - r) + 1 := by omega
      have e2 : k + 1 - (r + 1) = (k - (r + 1)) + 1 := by omega
      rw [e1, e2, digs, List.take_succ_cons, List.take_succ_cons, ih (by omega)]
      rfl
/-- The loop of the plain Put, in a round: r octets are still to come. -/
def _root_.Go.Proofs.YtcgoaallfhompaaDoor.ORow (m : Int) (k : Nat) (xs : List Int) (w : World) (r : Nat) (v : Value) (wr : World) : Prop :=
  wr.ownsRow w.heap.size 5 1 v (xs.length + (k - r)) (nums (xs ++ (digs m k).take (k - r))) ∧ Below w.heap.size w wr
theorem _root_.Go.Proofs.YtcgoaallfhompaaDoor.row_next {m : Int} {k r : Nat} {xs : List Int} {w wr w1 : World} {v v' : Value} (hr : r < k) (h : ORow m k xs w (r + 1) v wr)
    (hown : w1.ownsRow w.heap.size 5 1 v' (xs.length + (k - (r + 1)) + 1) (nums (xs ++ (digs m k).take (k - (r + 1))) ++ [.int .u8 (dig m r)])) (hg : (wr.alloc (.cells #[.int .u8 (dig m r)] 5)).grownBy w1 v.ownBlock) : ORow m k xs w r v' w1 := by
  have hs := h.2.size
  refine ⟨?_, (h.2.alloc hs _).grown hg (by rw [size_alloc]; omega) (fun g hv => (h.1.lt g hv).1)⟩
  have e : nums (xs ++ (digs m k).take (k - (r + 1))) ++ [.int .u8 (dig m r)] = nums (xs ++ (digs m k).take (k - r)) := by
    rw [digs_take m k r hr, ← List.append_assoc]
    simp [nums]
  rw [e] at hown
  have e2 : xs.length + (k - (r + 1)) + 1 = xs.length + (k - r) := by omega
  rwa [e2] at hown
end Go.Proofs.YtcgoaallfhompaaDoor.O
