/- Contracts of prog's clone, of instructions and of threads' code. Conditions: at most 1000 elements. -/
import Derived.Test.YtcbekkbhhepeaaaDoorFew
import Derived.Laws.CopyRow
namespace Go.Proofs.YtcbekkbhhepeaaaDoor
open Go.RowKit

/-- 'copy' onto a known row, elements of any size. -/
theorem run_copy_wide {P : Program} (w : World) (dT sT ty elem : TypeId) (size g dLen dCap : Nat) (a : Addr) (sLen sCap : Nat) (cur : Array Value) (t : TypeId) (cs : List Value)
    (hu : P.underlying dT = some (.slice elem)) (hs : (P.info? elem).map (·.size) = some size)
    (hg : w.heap[g]? = some (.cells cur t (0, 0))) (hn : cs.length = Nat.min sLen dLen * size)
    (hsrc : ∀ j v, cs[j]? = some v → w.cell? (a.add j) = some v) (hfit : cs.length ≤ cur.size) (h1 : ∀ v ∈ cs, v.oneCell' = true) :
    (Builtin.copy_ #[dT, sT] ty #[.slice (some ⟨g, 0, none⟩) dLen dCap, .slice (some a) sLen sCap]).run P w =
      .ok (goInt (Nat.min sLen dLen)) (w.setRow g (cs ++ cur.toList.drop cs.length).toArray) := by
  have hl := run_loadCells_list (P := P) w a cs hsrc
  have hst := run_storeCells_at P g 0 t cs 0 cur w hg (by simpa using hfit) h1
  cases hq : P.info? elem with
  | none => simp [hq] at hs
  | some i =>
    have hi : i.size = size := by simpa [hq] using hs
    rw [hn] at hl
    simp [Builtin.copy_, run_underlying hu, Builtin.lenOf, Builtin.firstCells, sizeOf, typeInfo, hq, hi, hl, hst]
theorem wpList_copy_wide {P : Program} {w : World} {ops : Array Oper} {rest : List Oper} {o : Oper} {a : Act} {Q : Exit → Act → World → Prop} (hgd : o.guard = none) (d s : Operand) (dT sT : TypeId)
    (ho : o.op = .call { callee := .builtin .copy, args := #[d, s], argTypes := #[dT, sT] }) (elem : TypeId) (size : Nat) (hu : P.underlying dT = some (.slice elem)) (hsz : (P.info? elem).map (·.size) = some size)
    (g dLen dCap : Nat) (ad : Addr) (sLen sCap : Nat) (hd : a.eval d = .slice (some ⟨g, 0, none⟩) dLen dCap) (hs : a.eval s = .slice (some ad) sLen sCap)
    (cur : Array Value) (t : TypeId) (hg : w.heap[g]? = some (.cells cur t (0, 0))) (cs : List Value) (hn : cs.length = Nat.min sLen dLen * size)
    (hsrc : ∀ j v, cs[j]? = some v → w.cell? (ad.add j) = some v) (hfit : cs.length ≤ cur.size) (h1 : ∀ v ∈ cs, v.oneCell' = true)
    (h : wpList P ops Q rest (a.put o.dst (goInt (Nat.min sLen dLen))) (w.setRow g (cs ++ cur.toList.drop cs.length).toArray)) : wpList P ops Q (o :: rest) a w := by
  refine wpList_plain hgd fun K hK => ?_
  have hrun := run_copy_wide (P := P) w dT sT o.type elem size g dLen dCap ad sLen sCap cur t cs hu hsz hg hn hsrc hfit h1
  unfold Oper.wp
  simp [execOp, ho, resolve, invoke, builtin, hd, hs, hrun, Result.andThen]
  exact hK _ _ h

theorem flat5_one (xs : List Ins) : ∀ v ∈ flat5 xs, v.oneCell' = true := by
  intro v hv
  obtain ⟨x, _, hx⟩ := List.mem_flatMap.1 hv
  simp only [List.mem_cons, List.not_mem_nil, or_false] at hx
  rcases hx with rfl | rfl | rfl | rfl | rfl <;> rfl
theorem flat5_src {w : World} {S : Nat → Prop} {ad : Addr} {n cap : Nat} {xs : List Ins} (h : Lst w S (some ad) n cap xs) : ∀ j v, (flat5 xs)[j]? = some v → w.cell? (ad.add j) = some v := by
  intro j v hj
  have hlt := (List.getElem?_eq_some_iff.1 hj).1
  rw [flat5_len] at hlt
  have hi : j / 5 < xs.length := by omega
  have hx : xs[j / 5]? = some xs[j / 5] := List.getElem?_eq_getElem hi
  generalize xs[j / 5] = x at hx
  obtain ⟨g, off, rfl, _, c0, c1, c2, c3, c4⟩ := h.cell _ rfl (j / 5) x hx
  obtain ⟨f0, f1, f2, f3, f4⟩ := flat5_get xs (j / 5) x hx
  rw [plain_add]
  rcases (by omega : j = j / 5 * 5 ∨ j = j / 5 * 5 + 1 ∨ j = j / 5 * 5 + 2 ∨ j = j / 5 * 5 + 3 ∨ j = j / 5 * 5 + 4) with e | e | e | e | e
  · rw [e] at hj ⊢; rw [f0] at hj; injection hj with hj; subst hj; simpa [Nat.add_assoc] using c0
  · rw [e] at hj ⊢; rw [f1] at hj; injection hj with hj; subst hj; simpa [Nat.add_assoc] using c1
  · rw [e] at hj ⊢; rw [f2] at hj; injection hj with hj; subst hj; simpa [Nat.add_assoc] using c2
  · rw [e] at hj ⊢; rw [f3] at hj; injection hj with hj; subst hj; simpa [Nat.add_assoc] using c3
  · rw [e] at hj ⊢; rw [f4] at hj; injection hj with hj; subst hj; simpa [Nat.add_assoc] using c4

theorem made_any {w w1 : World} {n sz g : Nat} {e : TypeId} {zs : List Value} (h : w1.ownsRow w.heap.size e sz (.slice (some ⟨g, 0, none⟩) n n) n zs) : ∃ cur : Array Value, w1.heap[g]? = some (.cells cur e (0, 0)) ∧ cur.size = n * sz := by
  rcases h.2 with ⟨e, _⟩ | ⟨g', cap, cur, e, _, hh, _, _, hs, _⟩
  · cases e
  · injection e with e1 e2 e3
    injection e1 with e1
    injection e1 with e1
    subst e1 e3
    exact ⟨cur, hh, hs⟩
theorem full_row {w : World} {base g n sz : Nat} {e : TypeId} {cs cur : List Value} (hh : w.heap[g]? = some (.cells (cs ++ cur.drop cs.length).toArray e (0, 0))) (hc : cur.length = n * sz) (hl : cs.length = n * sz) (hb : base ≤ g) (hn : n ≤ maxLen) : w.ownsRow base e sz (.slice (some ⟨g, 0, none⟩) n n) n cs := by
  have e1 : cur.drop cs.length = [] := List.drop_eq_nil_of_le (by omega)
  rw [e1, List.append_nil] at hh
  exact ⟨hl, .inr ⟨g, n, cs.toArray, rfl, hb, hh, Nat.le_refl _, hn, by simpa using hl, by rw [← hl]; simp⟩⟩
theorem size45 : (Tryd.prog.info? 45).map (·.size) = some 5 := by kernel_rfl
theorem size46' : (Tryd.prog.info? 46).map (·.size) = some 1 := by kernel_rfl
theorem zero_min (n : Nat) : Nat.min n n = n := Nat.min_self n

theorem nil46 (w : World) : (binOp BinOp.eql 46 (.slice none 0 0) (.slice none 0 0)).run Tryd.prog w = .ok (.bool true) w := by kernel_rfl
theorem some46 (ad : Addr) (n cap : Nat) (w : World) : (binOp BinOp.eql 46 (.slice (some ad) n cap) (.slice none 0 0)).run Tryd.prog w = .ok (.bool false) w := by kernel_rfl
theorem nil22 (w : World) : (binOp BinOp.eql 22 (.slice none 0 0) (.slice none 0 0)).run Tryd.prog w = .ok (.bool true) w := by kernel_rfl
theorem some22 (ad : Addr) (n cap : Nat) (w : World) : (binOp BinOp.eql 22 (.slice (some ad) n cap) (.slice none 0 0)).run Tryd.prog w = .ok (.bool false) w := by kernel_rfl
def Cloned (n : Nat) (xs : List Ins) (w : World) (e : Ending) (w' : World) : Prop := ∃ A cap, e = .returned (.slice A n cap) ∧ w'.ownsRow w.heap.size 45 5 (.slice A n cap) n (flat5 xs) ∧ Below w.heap.size w w'
set_option maxRecDepth 100000 in
set_option maxHeartbeats 1000000 in
theorem clone_ins {w : World} {S : Nat → Prop} {A : Option Addr} {n cap : Nat} {xs : List Ins} (h : Lst w S A n cap xs) (hn : n ≤ 1000) : Calls Tryd.prog 35 #[.slice A n cap] w (Cloned n xs w) := by
  obtain ⟨i0, hi0, hz0, hz1, hz2⟩ := info_parts info45
  have Z0 := Lib.hid hz0
  have Z1 := Lib.hid hz1
  have Z2 := Lib.hid hz2
  have I0 := Lib.hid hi0
  clear hz0 hz1 hz2 hi0
  have hlen := Lib.hid h.len
  cases A with
  | none =>
    obtain ⟨rfl, rfl, rfl⟩ := h.zero
    have hnil := nil46
    go_enter Tryd.func35, Tryd.ntmps35
    go_wp2
    go_ret
    exact ⟨none, 0, rfl, World.ownsRow_nil _ _ _ _, Below.refl _ _⟩
  | some ad =>
    have hsrc := Lib.hid (flat5_src h)
    have hnil := some46 ad n cap
    go_enter Tryd.func35, Tryd.ntmps35
    go_wp2_with (first
      | (at_make; refine wpList_make_full _ rfl _ _ 46 rfl w.heap.size 45 i0 (.agg #[.int .i64 0, .int .i64 0, .int .i64 0, .int .i64 0, .int .i64 0]) 5 Tryd.underlying46 I0.out Z0.out Z1.out .i64 .i64 _ _ n rfl rfl rfl rfl (by rw [Z2.out]; omega) (by unfold maxLen; omega) (Nat.le_refl _) ?_; intro w1 hown1 hg1; have hb1 : Below w.heap.size w w1 := (Below.refl _ _).grown hg1 (Nat.le_refl _) (by simp); obtain ⟨cur, hcur'⟩ := made_any hown1; have hcur := Lib.hid hcur'; clear hcur' hown1)
      | (with_reducible refine wpList_copy_wide rfl (.tmp 9) (.tmp 10) 46 46 rfl 45 5 Tryd.underlying46 size45 w.heap.size n n ad n cap ?c1 ?c2 cur 45 hcur.out.1 (flat5 xs) ?c3 ?c4 ?c5 (flat5_one xs) ?_))
    case c1 => rfl
    case c2 => rfl
    case c3 => rw [flat5_len, hlen.out]; exact (zero_min n).symm ▸ rfl
    case c4 => exact fun j v hj => (hb1.cell (by
      have hx := hsrc.out j v hj
      exact World.block_lt_of_cell? w _ hx)).trans (hsrc.out j v hj)
    case c5 => rw [flat5_len, hlen.out, hcur.out.2]; exact Nat.le_refl _
    have hfull := full_row (base := w.heap.size) (setRow_heap w1 w.heap.size cur _ 45 (0, 0) hcur.out.1) (n := n) (sz := 5) (cs := flat5 xs) (cur := cur.toList) (by rw [Array.length_toList, hcur.out.2]) (by rw [flat5_len, hlen.out]) (Nat.le_refl _) (by unfold maxLen; omega)
    have hb2 := below_setRow hb1 (Nat.le_refl _) (flat5 xs ++ cur.toList.drop (flat5 xs).length).toArray
    have HQ := Lib.hid (And.intro hfull hb2)
    clear hfull hb2
    go_wp2
    go_ret
    exact ⟨_, n, rfl, HQ.out.1, HQ.out.2⟩

theorem Mat.vals {w : World} {S : Nat → Prop} {ad : Addr} {n cap : Nat} {xss : List (List Ins)} (h : Mat w S (some ad) n cap xss) :
    ∃ vs : List Value, vs.length = n ∧ (∀ (i : Nat) (xs : List Ins), xss[i]? = some xs → ∃ A' n' cap', vs[i]? = some (.slice A' n' cap') ∧ Lst w S A' n' cap' xs) ∧ (∀ j v, vs[j]? = some v → w.cell? (ad.add j) = some v) ∧ ∀ v ∈ vs, v.oneCell' = true := by
  have each : ∀ i, i < n → ∃ (xs : List Ins) (A' : Option Addr) (n' cap' : Nat), xss[i]? = some xs ∧ w.cell? (ad.add i) = some (.slice A' n' cap') ∧ Lst w S A' n' cap' xs := by
    intro i hi
    have hx : xss[i]? = some (xss[i]'(by rw [h.len]; exact hi)) := List.getElem?_eq_getElem _
    obtain ⟨g, off, A', n', cap', rfl, _, hc, hl⟩ := h.cell _ rfl i _ hx
    exact ⟨_, A', n', cap', hx, by rw [plain_add]; exact hc, hl⟩
  have hget : ∀ i, i < n → ((List.range n).map fun i => (w.cell? (ad.add i)).getD undef)[i]? = some ((w.cell? (ad.add i)).getD undef) := by
    intro i hi
    simp [hi]
  refine ⟨(List.range n).map fun i => (w.cell? (ad.add i)).getD undef, by simp, fun i xs hx => ?_, fun j v hj => ?_, fun v hv => ?_⟩
  · have hi : i < n := by rw [← h.len]; exact (List.getElem?_eq_some_iff.1 hx).1
    obtain ⟨ys, A', n', cap', hy, hc, hl⟩ := each i hi
    obtain rfl := Option.some.inj (hx.symm.trans hy)
    exact ⟨A', n', cap', by rw [hget i hi, hc]; rfl, hl⟩
  · have hi : j < n := by have := (List.getElem?_eq_some_iff.1 hj).1; simpa using this
    obtain ⟨ys, A', n', cap', hy, hc, hl⟩ := each j hi
    rw [hget j hi, hc] at hj
    injection hj with hj
    rw [hc, ← hj]
    rfl
  · obtain ⟨i, hi, rfl⟩ := List.mem_map.1 hv
    obtain ⟨ys, A', n', cap', hy, hc, hl⟩ := each i (List.mem_range.1 hi)
    rw [hc]
    rfl

def ClonedM (S : Nat → Prop) (n : Nat) (xss : List (List Ins)) (w : World) (e : Ending) (w' : World) : Prop := ∃ A cap, e = .returned (.slice A n cap) ∧ OwnM w' w.heap.size S (.slice A n cap) n xss ∧ Below w.heap.size w w'
set_option maxRecDepth 100000 in
set_option maxHeartbeats 1000000 in
theorem clone_mat {w : World} {S : Nat → Prop} {A : Option Addr} {n cap : Nat} {xss : List (List Ins)} (h : Mat w S A n cap xss) (hS : ∀ g, S g → g < w.heap.size) (hn : n ≤ 1000) : Calls Tryd.prog 34 #[.slice A n cap] w (ClonedM S n xss w) := by
  obtain ⟨i0, hi0, hz0, hz1, hz2⟩ := info_parts info46
  have Z0 := Lib.hid hz0
  have Z1 := Lib.hid hz1
  have Z2 := Lib.hid hz2
  have I0 := Lib.hid hi0
  clear hz0 hz1 hz2 hi0
  have hlen := Lib.hid h.len
  cases A with
  | none =>
    obtain ⟨rfl, rfl, rfl⟩ := h.zero
    have hnil := nil22
    go_enter Tryd.func34, Tryd.ntmps34
    go_wp2
    go_ret
    exact ⟨none, 0, rfl, OwnM.nil _ _ _, Below.refl _ _⟩
  | some ad =>
    obtain ⟨vs, hvl, hall, hsrc, hone⟩ := h.vals
    have HV := Lib.hid (And.intro hvl (And.intro hall (And.intro hsrc hone)))
    clear hvl hall hsrc hone
    have hnil := some22 ad n cap
    go_enter Tryd.func34, Tryd.ntmps34
    go_wp2_with (first
      | (at_make; refine wpList_make_full _ rfl _ _ 22 rfl w.heap.size 46 i0 (.slice none 0 0) 1 Tryd.underlying22 I0.out Z0.out Z1.out .i64 .i64 _ _ n rfl rfl rfl rfl (by rw [Z2.out]; omega) (by unfold maxLen; omega) (Nat.le_refl _) ?_; intro w1 hown1 hg1; have hb1 : Below w.heap.size w w1 := (Below.refl _ _).grown hg1 (Nat.le_refl _) (by simp); obtain ⟨cur, hcur'⟩ := made_any hown1; have hcur := Lib.hid hcur'; clear hcur' hown1)
      | (with_reducible refine wpList_copy_wide rfl (.tmp 9) (.tmp 10) 22 22 rfl 46 1 Tryd.underlying22 size46' w.heap.size n n ad n cap ?c1 ?c2 cur 46 hcur.out.1 vs ?c3 ?c4 ?c5 HV.out.2.2.2 ?_))
    case c1 => rfl
    case c2 => rfl
    case c3 => rw [HV.out.1, zero_min, Nat.mul_one]
    case c4 => exact fun j v hj => (hb1.cell (World.block_lt_of_cell? w _ (HV.out.2.2.1 j v hj))).trans (HV.out.2.2.1 j v hj)
    case c5 => rw [HV.out.1, hcur.out.2, Nat.mul_one]; exact Nat.le_refl _
    have hfull := full_row (base := w.heap.size) (setRow_heap w1 w.heap.size cur _ 46 (0, 0) hcur.out.1) (n := n) (sz := 1) (cs := vs) (cur := cur.toList) (by rw [Array.length_toList, hcur.out.2]) (by rw [HV.out.1, Nat.mul_one]) (Nat.le_refl _) (by unfold maxLen; omega)
    have hb2 := below_setRow hb1 (Nat.le_refl _) (vs ++ cur.toList.drop vs.length).toArray
    have HQ := Lib.hid (And.intro hfull hb2)
    clear hfull hb2
    go_wp2
    go_ret
    refine ⟨_, n, rfl, ⟨hlen.out, vs, HQ.out.1, fun i xs hx => ?_⟩, HQ.out.2⟩
    obtain ⟨A', n', cap', hv, hl⟩ := HV.out.2.1 i xs hx
    exact ⟨A', n', cap', hv, hl.below HQ.out.2 hS⟩
end Go.Proofs.YtcbekkbhhepeaaaDoor
