/- The contract of the plain thread: a thread's octets. Conditions: at most 2000 octets. -/
import Derived.Test.YtcbekkbhhepeaaaDoorRefHead
namespace Go.Proofs.YtcbekkbhhepeaaaDoor
open Go.RowKit
set_option linter.unusedSimpArgs false

/-- Threads' code in rows that the call owns: the list of lists, and each list. -/
structure OwnR (w : World) (base : Nat) (v : Value) (n : Nat) (xss : List (List Ins)) : Prop where
  len : xss.length = n
  ex : ∃ vs, w.ownsRow base 46 1 v n vs ∧ ∀ (i : Nat) (xs : List Ins), xss[i]? = some xs → ∃ A' n' cap', vs[i]? = some (.slice A' n' cap') ∧ w.ownsRow base 45 5 (.slice A' n' cap') n' (flat5 xs)
theorem OwnR.nil (w : World) (base : Nat) : OwnR w base (.slice none 0 0) 0 [] := ⟨rfl, [], World.ownsRow_nil _ _ _ _, fun i xs h => by simp at h⟩
theorem OwnR.mat {w : World} {base n : Nat} {v : Value} {xss : List (List Ins)} (h : OwnR w base v n xss) : ∃ A cap, v = .slice A n cap ∧ Mat w (From w base) A n cap xss := by
  obtain ⟨hl, vs, ho, hall⟩ := h
  have hM : OwnM w base (From w base) v n xss := ⟨hl, vs, ho, fun i xs hx => by
    obtain ⟨A', n', cap', hv, hw⟩ := hall i xs hx
    obtain ⟨A2, cap2, e, hL⟩ := own_lst hw
    injection e with e1 e2 e3
    subst e1 e3
    exact ⟨A', n', cap', hv, hL⟩⟩
  obtain ⟨A2, cap2, e, hm⟩ := hM.mat
  exact ⟨A2, cap2, e, hm.more fun g hg => hg.elim id id⟩
theorem OwnR.below {w w' : World} {base n : Nat} {v : Value} {xss : List (List Ins)} (h : OwnR w base v n xss) (hb : Below w.heap.size w w') : OwnR w' base v n xss := by
  obtain ⟨hl, vs, ho, hall⟩ := h
  refine ⟨hl, vs, own_below ho hb, fun i xs hx => ?_⟩
  obtain ⟨A', n', cap', hv, hw⟩ := hall i xs hx
  exact ⟨A', n', cap', hv, own_below hw hb⟩
theorem apart_kinds {w : World} {b1 b2 n1 n2 : Nat} {v1 v2 : Value} {xs ys : List Value} (h1 : w.ownsRow b1 45 5 v1 n1 xs) (h2 : w.ownsRow b2 46 1 v2 n2 ys) : v1.ownBlock = none ∨ v1.ownBlock ≠ v2.ownBlock := by
  rcases h1.2 with ⟨rfl, _⟩ | ⟨g, c, cur, rfl, _, hg, _⟩
  · exact .inl rfl
  · refine .inr ?_
    rcases h2.2 with ⟨rfl, _⟩ | ⟨g', c', cur', rfl, _, hg', _⟩
    · show some g ≠ none
      simp
    · show some g ≠ some g'
      intro e
      injection e with e
      subst e
      rw [hg] at hg'
      injection hg' with hg'
      injection hg' with _ e2 _
      cases e2
theorem OwnR.snoc {w w1 w2 : World} {base n n' cap' : Nat} {v v' : Value} {xss : List (List Ins)} {xs : List Ins} {A' : Option Addr} {vs : List Value} (hl : xss.length = n) (ho : w.ownsRow base 46 1 v n vs)
    (hall : ∀ (i : Nat) (xs : List Ins), xss[i]? = some xs → ∃ A' n' cap', vs[i]? = some (.slice A' n' cap') ∧ w.ownsRow base 45 5 (.slice A' n' cap') n' (flat5 xs))
    (hc : w.ownsRow base 45 5 (.slice A' n' cap') n' (flat5 xs)) (hb : Below w.heap.size w w1) (hg : w1.grownBy w2 v.ownBlock) (hv : w2.ownsRow base 46 1 v' (n + 1) (vs ++ [.slice A' n' cap'])) : OwnR w2 base v' (n + 1) (xss ++ [xs]) := by
  have keep : ∀ {A : Option Addr} {m c : Nat} {ys : List Ins}, w.ownsRow base 45 5 (.slice A m c) m (flat5 ys) → w2.ownsRow base 45 5 (.slice A m c) m (flat5 ys) := fun hy =>
    (own_below hy hb).kept hg (apart_kinds hy ho)
  have hvl : vs.length = n := by have := ho.1; omega
  refine ⟨by rw [List.length_append, hl]; rfl, _, hv, fun i ys hy => ?_⟩
  rcases Nat.lt_or_ge i n with hi | hi
  · rw [List.getElem?_append_left (by omega)] at hy
    obtain ⟨B, m, c, hvi, hB⟩ := hall i ys hy
    exact ⟨B, m, c, by rw [List.getElem?_append_left (by omega)]; exact hvi, keep hB⟩
  · have hi2 : i = n := by
      have := (List.getElem?_eq_some_iff.1 hy).1
      rw [List.length_append, hl] at this
      simp at this
      omega
    subst hi2
    rw [← hl, List.getElem?_concat_length] at hy
    injection hy with hy
    subst hy
    exact ⟨A', n', cap', by rw [← hvl, List.getElem?_concat_length], keep hc⟩
/-- 'b[l:l+12]'. -/
theorem cut_12 (A : Option Addr) (n cap l : Nat) (hc : l + 12 ≤ cap) (w : World) :
    (Instr.slice 29 (.slice A n cap) (some (.int .i64 (l : Int))) (some (.int .i64 ((l : Int) + 12))) none).run Tryd.prog w = .ok (.slice (A.map (·.add l)) 12 (cap - l)) w := by
  rw [run_slice_lh w 29 A n cap under22 .i64 .i64 _ _ (by omega) (by omega) (by omega), size22]
  have e1 : ((l : Int) + 12).toNat = l + 12 := by omega
  have e2 : l + 12 - l = 12 := by omega
  have e3 : ¬ cap = l := by omega
  simp only [Result.andThen, sliced, e1, e2, Int.toNat_natCast, if_neg e3, Nat.mul_one]
theorem refget_lit (ys : List Int) (A : Option Addr) (cap : Nat) (w : World) (h : Oct w w.heap.size A 12 cap ys) (o a b c n : Int) (v0 : ys[0]?.getD 0 = o) (v1 : ys[1]?.getD 0 = a) (v2 : ys[2]?.getD 0 = b) (v3 : ys[3]?.getD 0 = c) (v4 : wrap64 (val (ys.drop 4)) = n) :
    Calls Tryd.prog 45 #[.slice A 12 cap] w fun e w' => e = .returned (.agg #[.int .i64 o, .int .i64 a, .int .i64 b, .int .i64 c, .int .i64 n]) ∧ Below w.heap.size w w' := by
  have hh := refget_12 ys A cap w h
  rw [v0, v1, v2, v3, v4] at hh
  exact hh
theorem num1_le {xs : List Int} {i : Nat} (h : xs.length ≤ i) (lo hi why : Int) : num1 xs i lo hi why = .error (1, i) := by
  unfold num1
  rw [List.getElem?_eq_none h]
theorem num1_bad {xs : List Int} {i : Nat} {n lo hi why : Int} (h : xs[i]? = some n) (hr : ¬ (lo ≤ n ∧ n ≤ hi)) : num1 xs i lo hi why = .error (why, i) := by
  unfold num1
  rw [h]
  exact if_neg hr
theorem num1_ok {xs : List Int} {i : Nat} {n lo hi why : Int} (h : xs[i]? = some n) (hr : lo ≤ n ∧ n ≤ hi) : num1 xs i lo hi why = .ok n := by
  unfold num1
  rw [h]
  exact if_pos hr
theorem own_set {w : World} {base n sz T i : Nat} {e t : TypeId} {v u : Value} {xs : List Value} {cs : Array Value} (h : w.ownsRow base e sz v n xs) (hT : Blk w T t cs) (hte : t ≠ e) : (w.setCell ⟨T, i, none⟩ u).ownsRow base e sz v n xs := by
  refine ⟨h.1, ?_⟩
  rcases h.2 with h2 | ⟨g', c', cur, e1, e2, h3, h4⟩
  · exact .inl h2
  · refine .inr ⟨g', c', cur, e1, e2, (heap_set w T i g' _ (fun e => ?_)).trans h3, h4⟩
    subst e
    unfold Blk at hT
    rw [hT] at h3
    injection h3 with h3
    injection h3 with _ h5 _
    exact hte h5
theorem own_setRow {w : World} {base n sz T : Nat} {e t : TypeId} {v : Value} {xs : List Value} {cs ds : Array Value} (h : w.ownsRow base e sz v n xs) (hT : Blk w T t cs) (hte : t ≠ e) : (w.setRow T ds).ownsRow base e sz v n xs := by
  refine ⟨h.1, ?_⟩
  rcases h.2 with h2 | ⟨g', c', cur, e1, e2, h3, h4⟩
  · exact .inl h2
  · refine .inr ⟨g', c', cur, e1, e2, (setRow_other w T g' _ (fun e => ?_)).trans h3, h4⟩
    subst e
    unfold Blk at hT
    rw [hT] at h3
    injection h3 with h3
    injection h3 with _ h5 _
    exact hte h5
theorem OwnR.set_ {w : World} {base n T i : Nat} {t : TypeId} {v u : Value} {xss : List (List Ins)} {cs : Array Value} (h : OwnR w base v n xss) (hT : Blk w T t cs) (h5 : t ≠ 45) (h6 : t ≠ 46) : OwnR (w.setCell ⟨T, i, none⟩ u) base v n xss := by
  obtain ⟨hl, vs, ho, hall⟩ := h
  refine ⟨hl, vs, own_set ho hT h6, fun i xs hx => ?_⟩
  obtain ⟨A', n', cap', hv, hw⟩ := hall i xs hx
  exact ⟨A', n', cap', hv, own_set hw hT h5⟩
theorem OwnR.setRow {w : World} {base n T : Nat} {t : TypeId} {v : Value} {xss : List (List Ins)} {cs ds : Array Value} (h : OwnR w base v n xss) (hT : Blk w T t cs) (h5 : t ≠ 45) (h6 : t ≠ 46) : OwnR (w.setRow T ds) base v n xss := by
  obtain ⟨hl, vs, ho, hall⟩ := h
  refine ⟨hl, vs, own_setRow ho hT h6, fun i xs hx => ?_⟩
  obtain ⟨A', n', cap', hv, hw⟩ := hall i xs hx
  exact ⟨A', n', cap', hv, own_setRow hw hT h5⟩
theorem cell5_new (w : World) (y0 y1 y2 y3 y4 : Value) (t : TypeId) : ∀ j u, [y0, y1, y2, y3, y4][j]? = some u → (w.alloc (.cells #[y0, y1, y2, y3, y4] t)).cell? ((⟨w.heap.size, 0, none⟩ : Addr).add j) = some u := by
  intro j u hj
  have hb : Blk (w.alloc (.cells #[y0, y1, y2, y3, y4] t)) w.heap.size t #[y0, y1, y2, y3, y4] := heap_alloc_new w _
  rw [plain_add, Nat.zero_add, hb.cell]
  simpa using hj
def RThrs (r c s : Int) (base at_ : Nat) (pre : List (List Ins)) (w : World) (p : Except (Int × Nat) (List Ins)) (e : Ending) (w' : World) : Prop :=
  match p with
  | .error err => e = .returned (.agg (got 0 0 0 none 0 0 (err.2 : Int) err.1)) ∧ Below base w w'
  | .ok l => ∃ A n cap, e = .returned (.agg (got r c s A n cap ((at_ + (1 + 12 * l.length) : Nat) : Int) 0)) ∧ OwnR w' base (.slice A n cap) n (pre ++ [l]) ∧ Below base w w'
end Go.Proofs.YtcbekkbhhepeaaaDoor
