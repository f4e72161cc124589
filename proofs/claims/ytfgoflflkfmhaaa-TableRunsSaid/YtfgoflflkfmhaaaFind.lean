/- The closure that tells what is looked for; the first one under a sum. Conditions: none. -/
import Derived.Test.YtfgoflflkfmhaaaTab
namespace Go.Proofs.Ytfgoflflkfmhaaa
open Go.RowKit Go.Maps

theorem Below.drewN {B : Nat} {a w : World} (h : Below B a w) (n : Nat) : Below B a (w.drewN n) := h.trans ⟨rfl, rfl, rfl, Nat.le_refl _, fun _ _ => rfl⟩

set_option maxRecDepth 100000 in
/-- Is the text of number j the one that is looked for? -/
theorem is_any (j n cap K g b1 b2 : Nat) (t s : ByteArray) (w : World) (hj : j < n)
    (h1 : w.cell? ⟨b1, 0, none⟩ = some (.pointer (some ⟨K, 0, none⟩))) (h2 : w.cell? ⟨b2, 0, none⟩ = some (.string s)) (hK : w.cell? ⟨K, 0, none⟩ = some (.slice (some ⟨g, 0, none⟩) n cap))
    (ht : w.cell? ⟨g, j * 2 + 1, none⟩ = some (.string t)) :
    Calls Try.prog 24 #[.int .i64 (j : Int), .pointer (some ⟨b1, 0, none⟩), .pointer (some ⟨b2, 0, none⟩)] w fun e w' => e = .returned (.bool (decide (t = s))) ∧ Below w.heap.size w w' := by
  have i1 : (j : Int) < n := by omega
  go_enter Try.func24, Try.ntmps24
  go_wp2
  go_quiet (fail)
  go_wp2
  go_ret
  exact ⟨by rw [eq_txt]; rfl, Below.drewN (Below.refl _ _) _⟩

/-- The number that is told. -/
def numOf (o : Option Nat) : Int := (o.getD 0 : Nat)

theorem listD_inj {w : World} {base : Nat} {v : Value} {zs ys : List Int} (h : w.ownsInts base 3 .i64 v zs) (he : listD ys = rowDatum (H := Unit) .i64 v zs) : zs = ys := by
  unfold listD at he
  rcases h.datum (H := Unit) with ⟨h1, h2⟩ | h1
  · rw [h1] at he
    subst h2
    split at he
    · exact Eq.symm (by assumption)
    · cases he
  · rw [h1] at he
    split at he
    · cases he
    · simp only [DataW.slice.injEq, and_true] at he
      exact ((List.map_inj_right (fun a b hab => by cases hab; rfl)).1 he).symm

/-- The list under a sum, as it is looked up. -/
theorem look_under {w : World} {B T K M c : Nat} {tv : Value} {D : DataW Unit} {ws : List Txt} (hT : Tab w B T K M tv D ws c) (h : Int) (hh : (Lit.int .u64 h).wf = true) :
    ∃ A cap, (Instr.lookup 42 (.map (some M)) (.int .u64 h) false).run Try.prog w = .ok (.slice A (nums h ws).length cap) w ∧ (∀ i z, (nums h ws)[i]? = some z → ∃ g, A = some ⟨g, 0, none⟩ ∧ g < w.heap.size ∧ w.cell? ⟨g, i, none⟩ = some (.int .i64 z)) := by
  obtain ⟨v, zs, hrun, hat, ho, _, _⟩ := hT.groups.at law27 Try.underlying42 (zero57 w) (by have := hT.most; unfold maxLen; omega) (keyOf_int_mk Try.underlying27 hh)
  rw [hT.reads h hh] at hat
  obtain rfl := listD_inj ho hat
  have ho1 := ho.1
  rcases ho.1.2 with ⟨hv, h0⟩ | ⟨g, cap, cur, hv, hb, hg, _⟩
  · refine ⟨none, 0, by rw [hrun, hv, h0], fun i z hz => ?_⟩
    rw [List.length_eq_zero_iff.1 h0] at hz
    simp at hz
  · refine ⟨_, cap, by rw [hrun, hv], fun i z hz => ⟨g, rfl, (Array.getElem?_eq_some_iff.1 hg).1, ?_⟩⟩
    rw [hv] at ho1
    have hi := (List.getElem?_eq_some_iff.1 hz).1
    rw [ho1.cellAt i (by omega)]
    simp [hz]

theorem spot_hit {h : Int} {s : ByteArray} {ws : List Txt} {k j : Nat} (hz : (nums h ws)[k]? = some (j : Int)) (hs : txtAt ws j = s) (hno : ∀ i z, i < k → (nums h ws)[i]? = some z → txtAt ws z ≠ s) : spot h s ws = some j := by
  have h1 : (nums h ws).find? (fun z => decide (txtAt ws z = s)) = some (j : Int) := by
    obtain ⟨hk, e⟩ := List.getElem?_eq_some_iff.1 hz
    refine List.find?_eq_some_iff_getElem.2 ⟨by simp [hs], k, hk, e, fun i hi => ?_⟩
    have := hno i _ hi (List.getElem?_eq_getElem (by omega))
    simp [this]
  rw [find_spot] at h1
  cases hp : spot h s ws with
  | none => rw [hp] at h1; cases h1
  | some i =>
    rw [hp] at h1
    simp at h1
    have : i = j := by omega
    rw [this]
theorem spot_miss {h : Int} {s : ByteArray} {ws : List Txt} (hno : ∀ i z, i < (nums h ws).length → (nums h ws)[i]? = some z → txtAt ws z ≠ s) : spot h s ws = none := by
  have h1 : (nums h ws).find? (fun z => decide (txtAt ws z = s)) = none := by
    refine List.find?_eq_none.2 fun z hz => ?_
    obtain ⟨i, hi, e⟩ := List.mem_iff_getElem.1 hz
    simpa using hno i z hi (by rw [List.getElem?_eq_getElem hi, e])
  rw [find_spot] at h1
  cases hp : spot h s ws with
  | none => rfl
  | some i => rw [hp] at h1; cases h1

set_option maxRecDepth 100000 in
set_option maxHeartbeats 2000000 in
theorem first_any {B T K M c : Nat} {tv : Value} {D : DataW Unit} {ws : List Txt} (h : Int) (s : ByteArray) (b1 b2 : Nat) (w : World) (hT : Tab w B T K M tv D ws c) (hh : (Lit.int .u64 h).wf = true)
    (h1 : w.cell? ⟨b1, 0, none⟩ = some (.pointer (some ⟨K, 0, none⟩))) (h2 : w.cell? ⟨b2, 0, none⟩ = some (.string s)) :
    Calls Try.prog 23 #[.agg #[.map (some M)], .int .u64 h, .func (.func 24) #[] #[.pointer (some ⟨b1, 0, none⟩), .pointer (some ⟨b2, 0, none⟩)]] w
      fun e w' => e = .returned (.tuple #[.int .i64 (numOf (spot h s ws)), .bool (spot h s ws).isSome]) ∧ Below w.heap.size w w' := by
  have hb0 : Below w.heap.size w (w.alloc (.cells #[.map (some M)] 44)) := (Below.refl _ w).alloc (Nat.le_refl _) _
  have hT1 := hT.below hb0
  obtain ⟨A, cap, hlook, hcell⟩ := look_under hT1 h hh
  have hlen := numsFrom_len h 0 ws
  have hmost := hT.most
  have hlt : ∀ z ∈ nums h ws, _ := fun z hz => nums_lt hz
  have hspot := find_spot h s ws
  obtain ⟨n, hn⟩ : ∃ n, n = (nums h ws).length := ⟨_, rfl⟩
  have hn1 : n ≤ 4096 := by rw [hn]; unfold nums; omega
  rw [← hn] at hlook
  have HN := Lib.hid hn
  have HL := Lib.hid hlen
  clear hn hlen
  go_enter Try.func23, Try.ntmps23
  go_wp2
  go_loopw [9, 16] (fun _ i wr => ∃ k : Nat, i = .int .i64 k ∧ k ≤ n ∧ (∀ j z, j < k → (nums h ws)[j]? = some z → txtAt ws z ≠ s) ∧ Below (w.alloc (.cells #[.map (some M)] 44)).heap.size (w.alloc (.cells #[.map (some M)] 44)) wr) (fun _ i _ => n - (intOf i).toNat)
  case atStart => exact ⟨0, rfl, Nat.zero_le _, fun j z hj => absurd hj (Nat.not_lt_zero _), Below.refl _ _⟩
  case round =>
    obtain ⟨k, rfl, hkn, hno, hbr⟩ := hrel
    have hTr := hT1.below hbr
    by_cases hk : k < n
    · have hk' : k < (nums h ws).length := by rw [← HN.out]; exact hk
      obtain ⟨z, hz⟩ : ∃ z, (nums h ws)[k]? = some z := ⟨_, List.getElem?_eq_getElem hk'⟩
      obtain ⟨j, rfl, hj, x, hx, _⟩ := hlt z (List.mem_of_getElem? hz)
      obtain ⟨g, rfl, hg, hgc⟩ := hcell k _ hz
      have c0 := (hbr.cell (p := ⟨g, k, none⟩) hg).trans hgc
      obtain ⟨A2, cap2, htv, hsl⟩ := hTr.slice
      obtain ⟨g2, rfl, _, _, c2⟩ := hsl j x hx
      have cK := hTr.cellK.1
      rw [htv] at cK
      have l1 := World.block_lt_of_cell? _ _ h1
      have l2 := World.block_lt_of_cell? _ _ h2
      have hb1 := hb0.trans (hbr.mono hb0.size)
      have hi := is_any j ws.length cap2 K g2 b1 b2 x.2 s wr hj ((hb1.cell l1).trans h1) ((hb1.cell l2).trans h2) cK c2
      have hxt : txtAt ws j = x.2 := by simp [txtAt, List.getD, hx]
      have hk2 : (k : Int) < n := by omega
      obtain ⟨b, hb⟩ : ∃ b, b = decide (x.2 = s) := ⟨_, rfl⟩
      rw [← hb] at hi
      have HB := Lib.hid hb
      have HX := Lib.hid hxt
      clear hb hxt hlook hsl hcell
      go_wp2_with fail
      refine hi.mono ?_
      rintro e w2 ⟨rfl, hb2⟩
      cases b with
      | true =>
        have hs : x.2 = s := of_decide_eq_true HB.out.symm
        go_wp2
        go_ret2
        have hp := spot_hit hz (HX.out.trans hs) hno
        exact ⟨by rw [hp]; rfl, hb1.trans (hb2.mono hb1.size)⟩
      | false =>
        have hs : x.2 ≠ s := of_decide_eq_false HB.out.symm
        go_wp2
        go_roundw
        case rel =>
          refine ⟨k + 1, by go_num, by omega, fun i z hi hz' => ?_, hbr.trans (hb2.mono hbr.size)⟩
          by_cases e : i = k
          · subst e
            rw [hz] at hz'
            injection hz' with hz'
            rw [← hz', HX.out]
            exact hs
          · exact hno i z (by omega) hz'
        case measure => simp [intOf]; omega
    · obtain rfl : k = n := by omega
      go_wp2
      go_ret2
      have hp := spot_miss (h := h) (s := s) (ws := ws) (by rw [← HN.out]; exact hno)
      exact ⟨by rw [hp]; rfl, hb0.trans (hbr.mono hb0.size)⟩
end Go.Proofs.Ytfgoflflkfmhaaa
