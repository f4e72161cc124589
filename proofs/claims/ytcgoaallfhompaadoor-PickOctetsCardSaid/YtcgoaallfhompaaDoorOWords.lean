/- Words for octets in memory: a slice value that reads as a list of octets, however it came to be (nil, an argument, a row of the call's own, a cut), and a block that is known whole. Conditions: none. -/
import Derived.Test.YtcgoaallfhompaaDoorOClone
import Derived.WalkKit
import Derived.WalkSpells
import Derived.Maps.AppendAt
import Derived.Laws.AppendOwnNone
import Derived.Laws.CopyOwn
import Derived.Laws.BytesArg
import Derived.Laws.BitsAllLaws
import Derived.Lib.Hide
import Derived.Deep.Draws
namespace Go.Proofs.YtcgoaallfhompaaDoor.O
set_option linter.unusedSimpArgs false
set_option linter.unusedVariables false
open Go.RowKit
/-- The octets as the cells hold them. -/
def _root_.Go.Proofs.YtcgoaallfhompaaDoor.nums (xs : List Int) : List Value := xs.map (Value.int .u8)
theorem _root_.Go.Proofs.YtcgoaallfhompaaDoor.nums_len (xs : List Int) : (nums xs).length = xs.length := by simp [nums]
theorem _root_.Go.Proofs.YtcgoaallfhompaaDoor.nums_app (xs ys : List Int) : nums xs ++ nums ys = nums (xs ++ ys) := by simp [nums]
theorem _root_.Go.Proofs.YtcgoaallfhompaaDoor.nums_one (xs : List Int) : ∀ u ∈ nums xs, u.oneCell' = true := by
  intro u hu
  obtain ⟨n, _, rfl⟩ := List.mem_map.1 hu
  rfl
theorem _root_.Go.Proofs.YtcgoaallfhompaaDoor.nums_at {xs : List Int} {j : Nat} {u : Value} (h : (nums xs)[j]? = some u) : j < xs.length ∧ u = .int .u8 (xs.getD j 0) := by
  unfold nums at h
  rw [List.getElem?_map] at h
  rcases Nat.lt_or_ge j xs.length with hj | hj
  · rw [List.getElem?_eq_getElem hj] at h
    simp at h
    exact ⟨hj, by simp [List.getD, List.getElem?_eq_getElem hj, ← h]⟩
  · rw [List.getElem?_eq_none hj] at h
    simp at h
/-- All are octets. -/
def _root_.Go.Proofs.YtcgoaallfhompaaDoor.Small (xs : List Int) : Prop := ∀ x ∈ xs, 0 ≤ x ∧ x ≤ 255
theorem _root_.Go.Proofs.YtcgoaallfhompaaDoor.Small.at_ {xs : List Int} (h : Small xs) (k : Nat) : 0 ≤ xs[k]?.getD 0 ∧ xs[k]?.getD 0 ≤ 255 := by
  rcases Nat.lt_or_ge k xs.length with hk | hk
  · rw [List.getElem?_eq_getElem hk]
    exact h _ (List.getElem_mem hk)
  · rw [List.getElem?_eq_none hk]
    simp
theorem _root_.Go.Proofs.YtcgoaallfhompaaDoor.Small.app {xs ys : List Int} (h : Small xs) (k : Small ys) : Small (xs ++ ys) := by
  intro x hx
  rcases List.mem_append.1 hx with hx | hx
  · exact h x hx
  · exact k x hx
theorem _root_.Go.Proofs.YtcgoaallfhompaaDoor.Small.take {xs : List Int} (h : Small xs) (n : Nat) : Small (xs.take n) := fun x hx => h x (List.mem_of_mem_take hx)
theorem _root_.Go.Proofs.YtcgoaallfhompaaDoor.Small.drop {xs : List Int} (h : Small xs) (n : Nat) : Small (xs.drop n) := fun x hx => h x (List.mem_of_mem_drop hx)
/-- The slice value '.slice A n cap' holds the octets xs, and lies below block B. -/
structure _root_.Go.Proofs.YtcgoaallfhompaaDoor.Oct (w : World) (B : Nat) (A : Option Addr) (n cap : Nat) (xs : List Int) : Prop where
  len : xs.length = n
  room : n ≤ cap
  most : cap ≤ maxLen
  none_ : A = none → cap = 0
  small : Small xs
  cell : ∀ ad, A = some ad → ∀ i, i < n → ad.block < B ∧ w.cell? (ad.add i) = some (.int .u8 (xs.getD i 0))
theorem _root_.Go.Proofs.YtcgoaallfhompaaDoor.size_alloc (w : World) (o : Obj) : (w.alloc o).heap.size = w.heap.size + 1 := by simp
theorem _root_.Go.Proofs.YtcgoaallfhompaaDoor.add_block (a : Addr) (n : Nat) : (a.add n).block = a.block := by unfold Addr.add; split <;> rfl
theorem _root_.Go.Proofs.YtcgoaallfhompaaDoor.plain_add (b o j : Nat) : (⟨b, o, none⟩ : Addr).add j = ⟨b, o + j, none⟩ := by unfold Addr.add; split <;> simp_all
theorem _root_.Go.Proofs.YtcgoaallfhompaaDoor.add_twice (a : Addr) (i j : Nat) : (a.add i).add j = a.add (i + j) := by
  unfold Addr.add
  by_cases hi : i = 0 <;> by_cases hj : j = 0 <;> simp [hi, hj, Nat.add_assoc]
section
variable {w w' : World} {B n cap : Nat} {A : Option Addr} {xs : List Int}
theorem _root_.Go.Proofs.YtcgoaallfhompaaDoor.Oct.nil (w : World) (B : Nat) : Oct w B none 0 0 [] := ⟨rfl, Nat.le_refl _, Nat.zero_le _, fun _ => rfl, fun _ h => (by cases h), fun _ h => (by cases h)⟩
theorem _root_.Go.Proofs.YtcgoaallfhompaaDoor.Oct.keep (h : Oct w B A n cap xs) (hk : ∀ p : Addr, p.block < B → w'.cell? p = w.cell? p) : Oct w' B A n cap xs :=
  ⟨h.len, h.room, h.most, h.none_, h.small, fun ad ha i hi => ⟨(h.cell ad ha i hi).1, (hk _ (by rw [add_block]; exact (h.cell ad ha i hi).1)).trans (h.cell ad ha i hi).2⟩⟩
theorem _root_.Go.Proofs.YtcgoaallfhompaaDoor.Oct.below (h : Oct w B A n cap xs) (hb : Below B w w') : Oct w' B A n cap xs := h.keep fun _ hp => hb.cell hp
theorem _root_.Go.Proofs.YtcgoaallfhompaaDoor.Oct.more {B' : Nat} (h : Oct w B A n cap xs) (hB : B ≤ B') : Oct w B' A n cap xs :=
  ⟨h.len, h.room, h.most, h.none_, h.small, fun ad ha i hi => ⟨Nat.lt_of_lt_of_le (h.cell ad ha i hi).1 hB, (h.cell ad ha i hi).2⟩⟩
theorem _root_.Go.Proofs.YtcgoaallfhompaaDoor.Oct.news (h : Oct w B A n cap xs) : ∀ ad, A = some ad → ∀ j u, (nums xs)[j]? = some u → w.cell? (ad.add j) = some u := by
  intro ad ha j u hu
  obtain ⟨hj, rfl⟩ := nums_at hu
  exact (h.cell ad ha j (by rw [← h.len]; exact hj)).2
theorem _root_.Go.Proofs.YtcgoaallfhompaaDoor.Oct.zero (h : Oct w B none n cap xs) : n = 0 ∧ cap = 0 ∧ xs = [] := by
  have hc := h.none_ rfl
  have hr := h.room
  have hl := h.len
  exact ⟨by omega, hc, List.eq_nil_of_length_eq_zero (by omega)⟩
/-- 'string(b)'. -/
theorem _root_.Go.Proofs.YtcgoaallfhompaaDoor.Oct.text {P : Program} (h : Oct w B A n cap xs) (src dst e : TypeId) (hs : P.underlying src = some (.slice e)) (he : P.underlying e = some (.int .u8)) (hd : P.underlying dst = some .string) :
    (convert src dst (.slice A n cap)).run P w = .ok (.string (strOfNums xs)) w := by
  rw [run_convert_bytes_string w src dst e A n cap hs he hd]
  rcases A with _ | ad
  · obtain ⟨_, _, rfl⟩ := h.zero
    simp [Conv.bytesToString, strOfNums]
    rfl
  · have hl := run_loadCells_list (P := P) w ad (nums xs) (h.news ad rfl)
    rw [nums_len, h.len] at hl
    rw [run_bytesToString w ad n cap xs hl, foldl_push_bytes]
    simp [strOfNums, ByteArray.empty, ByteArray.emptyWithCapacity]
    rfl
/-- What the call owns reads so. -/
theorem _root_.Go.Proofs.YtcgoaallfhompaaDoor.Oct.own {base : Nat} {e : TypeId} {v : Value} (h : w.ownsRow base e 1 v n (nums xs)) (hx : Small xs) : ∃ A cap, v = .slice A n cap ∧ Oct w w.heap.size A n cap xs := by
  have hl : xs.length = n := by have := h.1; rw [nums_len] at this; omega
  rcases h.2 with ⟨rfl, rfl⟩ | ⟨g, cap, cur, rfl, _, hg, hnc, hcm, hcs, ht⟩
  · exact ⟨none, 0, rfl, hl, Nat.le_refl _, Nat.zero_le _, fun _ => rfl, hx, fun _ hh => (by cases hh)⟩
  · refine ⟨_, cap, rfl, hl, hnc, hcm, fun hh => (by cases hh), hx, fun ad ha i hi => ?_⟩
    injection ha with ha
    subst ha
    refine ⟨(Array.getElem?_eq_some_iff.1 hg).1, h.cells (g := g) rfl i _ ?_⟩
    rw [nums, List.getElem?_map, List.getElem?_eq_getElem (by omega)]
    simp [List.getD, List.getElem?_eq_getElem (show i < xs.length by omega)]
/-- The front of it. -/
theorem _root_.Go.Proofs.YtcgoaallfhompaaDoor.Oct.front (h : Oct w B A n cap xs) {k : Nat} (hk : k ≤ n) : Oct w B A k cap (xs.take k) :=
  ⟨by rw [List.length_take, h.len]; omega, Nat.le_trans hk h.room, h.most, h.none_, h.small.take k, fun ad ha i hi => ⟨(h.cell ad ha i (by omega)).1, by
    rw [(h.cell ad ha i (by omega)).2]
    simp [List.getD, hi]⟩⟩
/-- 'b[l:h]', 'b[l:h:m]', not empty. -/
theorem _root_.Go.Proofs.YtcgoaallfhompaaDoor.Oct.window (h : Oct w B A n cap xs) {l k c : Nat} (hk : 0 < k) (hl : l + k ≤ n) (hc : k ≤ c) (hm : c ≤ maxLen) : Oct w B (A.map (·.add l)) k c ((xs.drop l).take k) := by
  rcases A with _ | a
  · have := h.zero.1
    omega
  · refine ⟨by rw [List.length_take, List.length_drop, h.len]; omega, hc, hm, fun hn => (by cases hn), (h.small.drop l).take k, fun ad ha i hi => ?_⟩
    have hc := h.cell a rfl (l + i) (by omega)
    injection ha with ha
    subst ha
    refine ⟨by rw [add_block]; exact hc.1, ?_⟩
    rw [add_twice, hc.2]
    simp [List.getD, hi, List.getElem?_drop]
end
/-- A block is known whole, and may be written. -/
def _root_.Go.Proofs.YtcgoaallfhompaaDoor.Blk (w : World) (g : Nat) (t : TypeId) (cs : Array Value) : Prop := w.heap[g]? = some (.cells cs t (0, 0))
section
variable {w w' : World} {g B : Nat} {t : TypeId} {cs : Array Value}
theorem _root_.Go.Proofs.YtcgoaallfhompaaDoor.Blk.lt (h : Blk w g t cs) : g < w.heap.size := (Array.getElem?_eq_some_iff.1 h).1
theorem _root_.Go.Proofs.YtcgoaallfhompaaDoor.Blk.cell (h : Blk w g t cs) (i : Nat) : w.cell? ⟨g, i, none⟩ = cs[i]? := cell_of_row w g i cs t (0, 0) h
theorem _root_.Go.Proofs.YtcgoaallfhompaaDoor.Blk.free (h : Blk w g t cs) (i : Nat) : w.frozen? ⟨g, i, none⟩ = false := by
  unfold Blk at h
  simp [World.frozen?, h]
theorem _root_.Go.Proofs.YtcgoaallfhompaaDoor.Blk.set_ (h : Blk w g t cs) (i : Nat) (u : Value) : Blk (w.setCell ⟨g, i, none⟩ u) g t (cs.setIfInBounds i u) := by
  unfold Blk at h ⊢
  simp [World.setCell, Array.getElem?_modify, h]
theorem _root_.Go.Proofs.YtcgoaallfhompaaDoor.Blk.below (h : Blk w g t cs) (hb : Below B w w') (hg : g < B) : Blk w' g t cs := (hb.block g hg).trans h
theorem _root_.Go.Proofs.YtcgoaallfhompaaDoor.Blk.drewN (h : Blk w g t cs) (n : Nat) : Blk (w.drewN n) g t cs := h
end
/-- 'append(v, b...)', v the call's own, b octets from wherever. -/
theorem _root_.Go.Proofs.YtcgoaallfhompaaDoor.wpList_append_octets {w : World} {ops : Array Oper} {rest : List Oper} {o : Oper} {a : Act} {Q : Exit → Act → World → Prop} (hgd : o.guard = none) (s x : Operand)
    (ho : o.op = .call { callee := .builtin .append, args := #[s, x], argTypes := #[23, 23] }) (base : Nat)
    (v : Value) (n0 : Nat) (xs0 : List Int) (hs : a.eval s = v) (hown : w.ownsRow base 5 1 v n0 (nums xs0))
    (B : Nat) (A : Option Addr) (n cap : Nat) (xs : List Int) (hx : a.eval x = .slice A n cap) (h : Oct w B A n cap xs)
    (hn : n0 + n ≤ 1000000000000) (hbase : base ≤ w.heap.size)
    (hK : ∀ v' w', w'.ownsRow base 5 1 v' (n0 + n) (nums (xs0 ++ xs)) → w.grownBy w' v.ownBlock → wpList Tryd.prog ops Q rest (a.put o.dst v') w') : wpList Tryd.prog ops Q (o :: rest) a w := by
  obtain ⟨i0, hi0, hz0, hz1, hz2⟩ := info_parts info5
  rcases A with _ | ad
  · obtain ⟨rfl, rfl, rfl⟩ := h.zero
    exact wpList_append_own_none hgd s x 23 ho base 5 i0 1 Tryd.underlying23 hi0 v n0 (nums xs0) hs hown hx (hK v w (by simpa using hown) (World.grownBy.refl w _))
  · refine wpList_append_own _ hgd s x 23 ho base 5 i0 (.int .u8 0) 1 1 Tryd.underlying23 hi0 hz0 hz1 hz2 rfl (by decide) v n0 (nums xs0) hs hown ad n cap (nums xs) hx (by rw [nums_len, h.len]; omega) (h.news ad rfl) (nums_one xs) (by unfold maxLen; omega) (by omega) hbase ?_
    intro v' w' hown' hg _
    rw [nums_app] at hown'
    exact hK v' w' hown' hg
end Go.Proofs.YtcgoaallfhompaaDoor.O
