/- What a place is called. Conditions: the library's table of powers of ten lies as it is laid; the place's numbers have 64 bits. -/
import Derived.Test.YtabnfiligbpocaaDoorJoin
import Derived.Test.YtabnfiligbpocaaDoorSmall
namespace Go.Proofs.YtabnfiligbpocaaDoor
open Go.RowKit

/-- A list just made. -/
theorem own_made {W : World} {B z k : Nat} {t : TypeId} {cs : List Value} (h : Blk W z t cs.toArray) (hB : B ≤ z) (hk : cs.length = k) : W.ownsRow B t k (.slice (some ⟨z, 0, none⟩) 1 1) 1 cs :=
  ⟨by omega, .inr ⟨z, 1, cs.toArray, rfl, hB, h, Nat.le_refl _, by decide, by simp; omega, List.take_of_length_le (by simp; omega)⟩⟩
theorem ownB_below {w w' : World} {B k n : Nat} {t : TypeId} {v : Value} {vs : List Value} (h : w.ownsRow B t k v n vs) (hb : Below w.heap.size w w') : w'.ownsRow B t k v n vs :=
  h.kept (row := none) ⟨hb.os, hb.tape, hb.output, hb.size, fun k hk _ => hb.block k hk⟩ (by cases v.ownBlock <;> simp)
/-- A name and numbers, as words. -/
def wordsP (name : List UInt8) (ns : List Int) : List (List UInt8) := name :: ns.map Lib.itoa
theorem wordsP_snoc (name : List UInt8) (ns : List Int) (k : Nat) (x : Int) (h : ns[k]? = some x) : wordsP name (ns.take (k + 1)) = wordsP name (ns.take k) ++ [Lib.itoa x] := by
  unfold wordsP
  rw [List.take_add_one, h]
  simp
theorem itoa_short (n : Int) (hn : Wide n) : (Lib.itoa n).length ≤ 21 := Lib.itoa_length_le n hn.1 hn.2
set_option maxRecDepth 100000 in
set_option maxHeartbeats 2000000 in
theorem text_of (name : List UInt8) (ns : List Int) (hname : name.length ≤ 1000) (hns : ns.length ≤ 900) (hw : ∀ x ∈ ns, Wide x) (A : Option Addr) (n cap : Nat) (hn : ns.length = n) (hc : n ≤ cap) (w : World) (hL : Laid w)
    (hA : ∀ i x, ns[i]? = some x → ∃ g, A = some ⟨g, 0, none⟩ ∧ g < w.heap.size ∧ w.cell? ⟨g, i, none⟩ = some (.int .i64 x)) :
    Calls Tryd.prog 28 #[.string (txt name), .slice A n cap] w fun e w' => e = .returned (.string (txt (joinL (wordsP name ns)))) ∧ Below w.heap.size w w' := by
  obtain ⟨i0, hi, hz0, hz1, hz2⟩ := info_parts info9
  have hnl : n ≤ 900 := by omega
  have HN := Lib.hid hn
  clear hn hns
  obtain ⟨W0, eW0⟩ : ∃ W, W = w.alloc (.cells #[.string (txt name)] 9) := ⟨_, rfl⟩
  have hb0 : Below w.heap.size w W0 := by rw [eW0]; exact (Below.refl _ w).alloc (Nat.le_refl _) _
  have ho0 : W0.ownsRow w.heap.size 9 1 (.slice (some ⟨w.heap.size, 0, none⟩) 1 1) 1 (vals [name]) := by rw [eW0]; exact own_made (cs := [.string (txt name)]) (heap_alloc_new w _) (Nat.le_refl _) rfl
  go_enter Tryd.func28, Tryd.ntmps28
  go_wp2_with fail
  rw [← eW0]
  clear eW0
  go_wp2_with fail
  go_loopw [5, 7, 12] (fun v _ i wr => ∃ k : Nat, k ≤ n ∧ i = .int .i64 k ∧ wr.ownsRow w.heap.size 9 1 v (k + 1) (vals (wordsP name (ns.take k))) ∧ Below w.heap.size w wr) (fun _ _ i _ => n - (intOf i).toNat)
  case atStart => exact ⟨0, Nat.zero_le _, rfl, ho0, hb0⟩
  case round =>
    obtain ⟨k, hk, rfl, ho, hb⟩ := hrel
    have hbs := hb.size
    by_cases hlt : k < n
    · obtain ⟨x, hx⟩ : ∃ x, ns[k]? = some x := ⟨_, List.getElem?_eq_getElem (by have := HN.out; omega)⟩
      obtain ⟨g, rfl, hg, hcx⟩ := hA k x hx
      have hcx' : wr.cell? ⟨g, k, none⟩ = some (.int .i64 x) := (hb.cell (p := ⟨g, k, none⟩) hg).trans hcx
      have hwx := hw x (List.mem_of_getElem? hx)
      have HS := Lib.hid (wordsP_snoc name ns k x hx)
      have HX := Lib.hid hx
      clear hx hcx
      have t0 : decide ((k : Int) < (n : Int)) = true := decide_eq_true (by omega)
      go_wp2_with fail
      refine (dec_any x hwx wr (hL.on hb)).mono ?_
      rintro e w1 ⟨rfl, hb1⟩
      have hb01 := hb.trans (hb1.mono hbs)
      have ho1 := ownB_below ho hb1
      have hs1 := hb01.size
      go_wp2_with (at_builtin; refine wpList_append_own _ rfl _ _ 55 rfl w.heap.size 9 i0 (.string ⟨#[]⟩) 1 16 Tryd.underlying55 hi hz0 hz1 hz2 rfl (by decide) _ _ _ rfl (ho1.alloc _) ⟨w1.heap.size, 0, none⟩ 1 1 [.string (txt (Lib.itoa x))] rfl rfl (cell_one_new _ _ _) (by simp [Value.oneCell']) (by unfold maxLen; omega) (by omega) (by simp; omega) ?_; intro v2 w2 hown2 hg2 _; have hb2 : Below w.heap.size w w2 := ((hb01.alloc hs1 _).grown hg2 (by simp; omega) (fun g hv => (ho1.lt g hv).1)))
      go_roundw
      case rel => exact ⟨k + 1, by omega, by go_num, by rw [HS.out, vals_snoc]; exact hown2, hb2⟩
      case measure => simp [intOf]; omega
    · have ek : k = n := by omega
      subst ek
      have t0 : decide ((k : Int) < (k : Int)) = false := decide_eq_false (by omega)
      rw [List.take_of_length_le (by rw [HN.out]; omega)] at ho
      obtain ⟨Av, cv, rfl, hR⟩ := Row.own ho
      have hsm : ∀ x ∈ wordsP name ns, x.length ≤ 1000 := by
        intro x hx
        rcases List.mem_cons.1 hx with rfl | hx
        · exact hname
        · obtain ⟨y, hy, rfl⟩ := List.mem_map.1 hx
          have := itoa_short y (hw y hy)
          omega
      clear ho hA
      go_wp2_with fail
      refine (join_any _ _ _ _ wr hR (by omega) hsm).mono ?_
      rintro e w1 ⟨rfl, hb1⟩
      go_wp2
      go_ret
      exact ⟨rfl, hb.trans (hb1.mono hbs)⟩
end Go.Proofs.YtabnfiligbpocaaDoor
