/- Contracts of octet's reader: New, At, Left, Bad, take. Conditions: at most 2000 octets. -/
import Derived.Test.YtcgoaallfhompaaDoorOPut
import Derived.Deep.QuietTactic
import Derived.BigQuiet
namespace Go.Proofs.YtcgoaallfhompaaDoor.O
set_option linter.unusedSimpArgs false
set_option linter.unusedVariables false
open Go.RowKit
/-- Block g is a reader of the octets xs, at of them taken. -/
structure _root_.Go.Proofs.YtcgoaallfhompaaDoor.Rd (w : World) (g : Nat) (xs : List Int) (a : Nat) (good : Bool) : Prop where
  ex : ∃ A cap, Blk w g 58 #[.slice A xs.length cap, .int .i64 (a : Int), .bool good] ∧ Oct w g A xs.length cap xs
  most : xs.length ≤ 2000
  le : a ≤ xs.length
theorem _root_.Go.Proofs.YtcgoaallfhompaaDoor.Rd.below {w w' : World} {g B : Nat} {xs : List Int} {a : Nat} {good : Bool} (h : Rd w g xs a good) (hb : Below B w w') (hg : g < B) : Rd w' g xs a good := by
  obtain ⟨⟨A, cap, hk, ho⟩, hm, hl⟩ := h
  exact ⟨⟨A, cap, hk.below hb hg, ho.below (hb.mono (by omega))⟩, hm, hl⟩
theorem _root_.Go.Proofs.YtcgoaallfhompaaDoor.Rd.lt {w : World} {g : Nat} {xs : List Int} {a : Nat} {good : Bool} (h : Rd w g xs a good) : g < w.heap.size := by
  obtain ⟨⟨A, cap, hk, ho⟩, hm, hl⟩ := h
  exact hk.lt
def _root_.Go.Proofs.YtcgoaallfhompaaDoor.Made (xs : List Int) (w : World) (e : Ending) (w' : World) : Prop := ∃ g, e = .returned (.pointer (some ⟨g, 0, none⟩)) ∧ Rd w' g xs 0 true ∧ Below w.heap.size w w' ∧ w.heap.size ≤ g
theorem _root_.Go.Proofs.YtcgoaallfhompaaDoor.size5 : (Tryd.prog.info? 5).map (·.size) = some 1 := by kernel_rfl
theorem _root_.Go.Proofs.YtcgoaallfhompaaDoor.made_row {w w1 : World} {n : Nat} {zs : List Value} {g : Nat} (h : w1.ownsRow w.heap.size 5 1 (.slice (some ⟨g, 0, none⟩) n n) n zs) : ∃ cur : List Value, w1.heap[g]? = some (.cells cur.toArray 5 (0, 0)) ∧ cur.length = n := by
  rcases h.2 with ⟨e, _⟩ | ⟨g', cap, cur, e, _, hh, _, _, hs, _⟩
  · cases e
  · injection e with e1 e2 e3
    injection e1 with e1
    injection e1 with e1
    subst e1 e3
    exact ⟨cur.toList, by simpa using hh, by simp; omega⟩
theorem _root_.Go.Proofs.YtcgoaallfhompaaDoor.copied {w2 : World} {cur : List Value} {n g : Nat} {xs : List Int} (hc : cur.length = n) (hx : xs.length = n) (hs : Small xs) (hm : n ≤ 2000) (h : w2.heap[g]? = some (.cells (splice cur 0 (nums xs)).toArray 5 (0, 0))) :
    Oct w2 (g + 1) (some ⟨g, 0, none⟩) n n xs := by
  have e : splice cur 0 (nums xs) = nums xs := by
    unfold splice
    rw [nums_len, List.take_zero, List.nil_append, List.drop_eq_nil_of_le (by omega), List.append_nil]
  rw [e] at h
  refine ⟨hx, Nat.le_refl _, by unfold maxLen; omega, fun h => (by cases h), hs, fun ad ha i hi => ?_⟩
  injection ha with ha
  subst ha
  have hb : Blk w2 g 5 (nums xs).toArray := h
  refine ⟨Nat.lt_succ_self _, ?_⟩
  rw [plain_add, hb.cell]
  simp [nums, List.getD, List.getElem?_eq_getElem (show i < xs.length by omega)]
set_option maxRecDepth 100000 in
set_option maxHeartbeats 1000000 in
theorem _root_.Go.Proofs.YtcgoaallfhompaaDoor.new_any (xs : List Int) (A : Option Addr) (n cap : Nat) (w : World) (h : Oct w w.heap.size A n cap xs) (hn : n ≤ 2000) :
    Calls Tryd.prog 22 #[.slice A n cap] w (Made xs w) := by
  obtain ⟨i0, hi0, hz0, hz1, hz2⟩ := info_parts info5
  have Z0 := Lib.hid hz0
  have Z1 := Lib.hid hz1
  have Z2 := Lib.hid hz2
  have I0 := Lib.hid hi0
  clear hz0 hz1 hz2 hi0
  have hl := h.len
  have HL := Lib.hid hl
  clear hl
  go_enter Tryd.func22, Tryd.ntmps22
  go_wp2_with (first
    | (at_make; refine wpList_make_full _ rfl _ _ 23 rfl w.heap.size 5 i0 (.int .u8 0) 1 Tryd.underlying23 I0.out Z0.out Z1.out .i64 .i64 _ _ n rfl rfl rfl rfl (by rw [Z2.out]; omega) (by unfold maxLen; omega) (Nat.le_refl _) ?_; intro w1 hown1 hg1; have hb1 : Below w.heap.size w w1 := (Below.refl _ _).grown hg1 (Nat.le_refl _) (by simp); have hrow := Lib.hid (made_row hown1); clear hown1)
    | (with_reducible refine wpList_copy_splice rfl (.tmp 7) (.tmp 8) 23 23 rfl 5 Tryd.underlying23 size5 (some ⟨w.heap.size, 0, none⟩) A n n n cap ?_ ?_ w.heap.size 0 hrow.out.choose 5 hrow.out.choose_spec.1 (nums xs) ?_ ?_ ?_ (nums_one xs) w.heap.size w hb1 (Nat.le_refl _) ?_))
  · rfl
  · rfl
  · rw [nums_len, HL.out]
    exact (Nat.min_self n).symm
  · intro hp
    rcases A with _ | ad
    · rw [nums_len, HL.out] at hp
      have := h.zero.1
      omega
    · exact ⟨ad, rfl, (h.below hb1).news ad rfl⟩
  · rw [nums_len, HL.out, hrow.out.choose_spec.2]
    omega
  · intro w2 hc hb2
    have ho := copied hrow.out.choose_spec.2 HL.out h.small hn hc.out
    have hc1 := Lib.hid hc.out
    clear hc
    go_wp2
    go_ret
    refine ⟨w2.heap.size, rfl, ⟨⟨some ⟨w.heap.size, 0, none⟩, n, ?_, ?_⟩, by rw [HL.out]; exact hn, Nat.zero_le _⟩, hb2.alloc hb2.size _, hb2.size⟩
    · rw [HL.out]
      exact heap_alloc_new w2 _
    · rw [HL.out]
      have hlt : w.heap.size < w2.heap.size := (Array.getElem?_eq_some_iff.1 hc1.out).1
      exact (ho.more (by omega)).below ((Below.refl _ _).alloc (Nat.le_refl _) _)
/-- A call that only reads: the answer v, the world but for draws. -/
def _root_.Go.Proofs.YtcgoaallfhompaaDoor.Quiet (v : Value) (w : World) (e : Ending) (w' : World) : Prop := e = .returned v ∧ ∃ q, w' = w.drewN q
set_option maxRecDepth 100000 in
theorem _root_.Go.Proofs.YtcgoaallfhompaaDoor.bad_any {w : World} {g : Nat} {xs : List Int} {a : Nat} {good : Bool} (h : Rd w g xs a good) : Calls Tryd.prog 42 #[.pointer (some ⟨g, 0, none⟩)] w fun e w' => e = .returned (.bool (!good)) ∧ w = w' := by
  obtain ⟨⟨A, cap, hk, ho⟩, hm, hl⟩ := h
  have c2 : w.cell? ⟨g, 2, none⟩ = some (.bool good) := hk.cell 2
  go_enter Tryd.func42, Tryd.ntmps42
  go_wp2
  go_ret
  exact ⟨rfl, rfl⟩
set_option maxRecDepth 100000 in
theorem _root_.Go.Proofs.YtcgoaallfhompaaDoor.left_any {w : World} {g : Nat} {xs : List Int} {a : Nat} {good : Bool} (h : Rd w g xs a good) : Calls Tryd.prog 31 #[.pointer (some ⟨g, 0, none⟩)] w (Quiet (.int .i64 ((xs.length : Int) - a)) w) := by
  obtain ⟨⟨A, cap, hk, ho⟩, hm, hl⟩ := h
  have c0 : w.cell? ⟨g, 0, none⟩ = some (.slice A xs.length cap) := hk.cell 0
  have c1 : w.cell? ⟨g, 1, none⟩ = some (.int .i64 (a : Int)) := hk.cell 1
  have b0 : (0 : Int) ≤ (a : Int) := by omega
  have b1 : (a : Int) ≤ (xs.length : Int) := by omega
  have b2 : (xs.length : Int) ≤ 2000 := by omega
  have hw := Lib.hid (IntWalk.i64_in ((xs.length : Int) - a) (by omega))
  go_enter Tryd.func31, Tryd.ntmps31
  go_wp2
  have hw' := hw.out
  go_quiet (fail)
  clear hw'
  go_wp2
  go_ret
  exact ⟨rfl, _, rfl⟩
set_option maxRecDepth 100000 in
theorem _root_.Go.Proofs.YtcgoaallfhompaaDoor.left_nil (w : World) : Calls Tryd.prog 31 #[.pointer none] w fun e w' => e = .returned (.int .i64 0) ∧ w = w' := by
  go_enter Tryd.func31, Tryd.ntmps31
  go_wp2
  go_ret
  exact ⟨rfl, rfl⟩
set_option maxRecDepth 100000 in
theorem _root_.Go.Proofs.YtcgoaallfhompaaDoor.bad_nil (w : World) : Calls Tryd.prog 42 #[.pointer none] w fun e w' => e = .returned (.bool true) ∧ w = w' := by
  go_enter Tryd.func42, Tryd.ntmps42
  go_wp2
  go_ret
  exact ⟨rfl, rfl⟩
end Go.Proofs.YtcgoaallfhompaaDoor.O
