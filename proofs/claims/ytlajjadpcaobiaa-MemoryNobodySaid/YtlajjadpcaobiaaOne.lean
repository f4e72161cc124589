/- 'append' of one onto a list of the call's own: words, numbers, places. Conditions: at most a million. -/
import Derived.Test.YtlajjadpcaobiaaOwn
namespace Go.Proofs.Ytlajjadpcaobiaa
open Go.RowKit Go.ChangeShapes Go.WideShapes

theorem run_one_W {w : World} {B n : Nat} {v : Value} {xs : List Wd} (h : w.ownsRow B 35 3 v n (flatW xs)) (hn : n ≤ 1000000) (hB : B ≤ w.heap.size) (ty : TypeId) (ad : Addr) (c : Nat) (x : Wd) (hx : ∀ j u, (x.cs)[j]? = some u → w.cell? (ad.add j) = some u) :
    ∃ A' c' w', (Builtin.append_ #[50, 50] ty #[v, .slice (some ad) 1 c]).run Try.prog w = .ok (.slice A' (n + 1) c') w' ∧ w'.ownsRow B 35 3 (.slice A' (n + 1) c') (n + 1) (flatW (xs ++ [x])) ∧ w.grownBy w' v.ownBlock := by
  obtain ⟨i0, hi, hz0, hz1, hz2⟩ := info_parts info35
  obtain ⟨v', w', hr, ho, hg, _⟩ := run_append_own (P := Try.prog) w B 50 ty 35 i0 (.agg noW.cs.toArray) 3 24 Try.underlying50 hi hz0 hz1 hz2 rfl (by decide) v n (flatW xs) h ad 1 c (x.cs) rfl hx x.one (by unfold maxLen; omega) (by omega) hB
  obtain ⟨A', c', rfl⟩ := own_form ho
  rw [← flatW_snoc] at ho
  exact ⟨A', c', w', hr, ho, hg⟩
section
variable {w : World} {o : Oper} {a : Act} {B n : Nat} {v : Value} {xs : List Wd}
theorem wp_one_W {K : Act → World → Prop} {Q : Exit → Act → World → Prop} (s y : Operand) (ho : o.op = .call { callee := .builtin .append, args := #[s, y], argTypes := #[50, 50] }) (hs : a.eval s = v)
    (h : w.ownsRow B 35 3 v n (flatW xs)) (hn : n ≤ 1000000) (hB : B ≤ w.heap.size) (ad : Addr) (c : Nat) (x : Wd) (hy : a.eval y = .slice (some ad) 1 c) (hx : ∀ j u, (x.cs)[j]? = some u → w.cell? (ad.add j) = some u)
    (hK : ∀ A' c' w', w'.ownsRow B 35 3 (.slice A' (n + 1) c') (n + 1) (flatW (xs ++ [x])) → w.grownBy w' v.ownBlock → K (a.put o.dst (.slice A' (n + 1) c')) w') : o.wp Try.prog a w K Q := by
  obtain ⟨A', c', w', hrun, r1, r2⟩ := run_one_W h hn hB o.type ad c x hx
  unfold Oper.wp
  simp [execOp, ho, resolve, invoke, builtin, hs, hy, hrun, Result.andThen]
  exact hK A' c' w' r1 r2
theorem wpList_one_W {ops : Array Oper} {rest : List Oper} {Q : Exit → Act → World → Prop} (hgd : o.guard = none) (s y : Operand) (ho : o.op = .call { callee := .builtin .append, args := #[s, y], argTypes := #[50, 50] }) (hs : a.eval s = v)
    (h : w.ownsRow B 35 3 v n (flatW xs)) (hn : n ≤ 1000000) (hB : B ≤ w.heap.size) (ad : Addr) (c : Nat) (x : Wd) (hy : a.eval y = .slice (some ad) 1 c) (hx : ∀ j u, (x.cs)[j]? = some u → w.cell? (ad.add j) = some u)
    (hK : ∀ A' c' w', w'.ownsRow B 35 3 (.slice A' (n + 1) c') (n + 1) (flatW (xs ++ [x])) → w.grownBy w' v.ownBlock → wpList Try.prog ops Q rest (a.put o.dst (.slice A' (n + 1) c')) w') : wpList Try.prog ops Q (o :: rest) a w :=
  wpList_plain hgd fun _ hK' => wp_one_W s y ho hs h hn hB ad c x hy hx fun A' c' w' h1 h2 => hK' _ _ (hK A' c' w' h1 h2)
end
theorem run_one_I {w : World} {B n : Nat} {v : Value} {xs : List Int} (h : w.ownsRow B 2 1 v n (ints xs)) (hn : n ≤ 1000000) (hB : B ≤ w.heap.size) (ty : TypeId) (ad : Addr) (c : Nat) (x : Int) (hx : ∀ j u, (int1 x)[j]? = some u → w.cell? (ad.add j) = some u) :
    ∃ A' c' w', (Builtin.append_ #[52, 52] ty #[v, .slice (some ad) 1 c]).run Try.prog w = .ok (.slice A' (n + 1) c') w' ∧ w'.ownsRow B 2 1 (.slice A' (n + 1) c') (n + 1) (ints (xs ++ [x])) ∧ w.grownBy w' v.ownBlock := by
  obtain ⟨i0, hi, hz0, hz1, hz2⟩ := info_parts info2
  obtain ⟨v', w', hr, ho, hg, _⟩ := run_append_own (P := Try.prog) w B 52 ty 2 i0 (.int .i64 0) 1 8 Try.underlying52 hi hz0 hz1 hz2 rfl (by decide) v n (ints xs) h ad 1 c (int1 x) rfl hx (int1_one x) (by unfold maxLen; omega) (by omega) hB
  obtain ⟨A', c', rfl⟩ := own_form ho
  rw [← ints_snoc] at ho
  exact ⟨A', c', w', hr, ho, hg⟩
section
variable {w : World} {o : Oper} {a : Act} {B n : Nat} {v : Value} {xs : List Int}
theorem wp_one_I {K : Act → World → Prop} {Q : Exit → Act → World → Prop} (s y : Operand) (ho : o.op = .call { callee := .builtin .append, args := #[s, y], argTypes := #[52, 52] }) (hs : a.eval s = v)
    (h : w.ownsRow B 2 1 v n (ints xs)) (hn : n ≤ 1000000) (hB : B ≤ w.heap.size) (ad : Addr) (c : Nat) (x : Int) (hy : a.eval y = .slice (some ad) 1 c) (hx : ∀ j u, (int1 x)[j]? = some u → w.cell? (ad.add j) = some u)
    (hK : ∀ A' c' w', w'.ownsRow B 2 1 (.slice A' (n + 1) c') (n + 1) (ints (xs ++ [x])) → w.grownBy w' v.ownBlock → K (a.put o.dst (.slice A' (n + 1) c')) w') : o.wp Try.prog a w K Q := by
  obtain ⟨A', c', w', hrun, r1, r2⟩ := run_one_I h hn hB o.type ad c x hx
  unfold Oper.wp
  simp [execOp, ho, resolve, invoke, builtin, hs, hy, hrun, Result.andThen]
  exact hK A' c' w' r1 r2
theorem wpList_one_I {ops : Array Oper} {rest : List Oper} {Q : Exit → Act → World → Prop} (hgd : o.guard = none) (s y : Operand) (ho : o.op = .call { callee := .builtin .append, args := #[s, y], argTypes := #[52, 52] }) (hs : a.eval s = v)
    (h : w.ownsRow B 2 1 v n (ints xs)) (hn : n ≤ 1000000) (hB : B ≤ w.heap.size) (ad : Addr) (c : Nat) (x : Int) (hy : a.eval y = .slice (some ad) 1 c) (hx : ∀ j u, (int1 x)[j]? = some u → w.cell? (ad.add j) = some u)
    (hK : ∀ A' c' w', w'.ownsRow B 2 1 (.slice A' (n + 1) c') (n + 1) (ints (xs ++ [x])) → w.grownBy w' v.ownBlock → wpList Try.prog ops Q rest (a.put o.dst (.slice A' (n + 1) c')) w') : wpList Try.prog ops Q (o :: rest) a w :=
  wpList_plain hgd fun _ hK' => wp_one_I s y ho hs h hn hB ad c x hy hx fun A' c' w' h1 h2 => hK' _ _ (hK A' c' w' h1 h2)
end
theorem run_one_P {w : World} {B n : Nat} {v : Value} {xs : List Pl} (h : w.ownsRow B 27 3 v n (flatP xs)) (hn : n ≤ 1000000) (hB : B ≤ w.heap.size) (ty : TypeId) (ad : Addr) (c : Nat) (x : Pl) (hx : ∀ j u, (x.cs)[j]? = some u → w.cell? (ad.add j) = some u) :
    ∃ A' c' w', (Builtin.append_ #[59, 59] ty #[v, .slice (some ad) 1 c]).run Try.prog w = .ok (.slice A' (n + 1) c') w' ∧ w'.ownsRow B 27 3 (.slice A' (n + 1) c') (n + 1) (flatP (xs ++ [x])) ∧ w.grownBy w' v.ownBlock := by
  obtain ⟨i0, hi, hz0, hz1, hz2⟩ := info_parts info27
  obtain ⟨v', w', hr, ho, hg, _⟩ := run_append_own (P := Try.prog) w B 59 ty 27 i0 (.agg noP.cs.toArray) 3 24 Try.underlying59 hi hz0 hz1 hz2 rfl (by decide) v n (flatP xs) h ad 1 c (x.cs) rfl hx x.one (by unfold maxLen; omega) (by omega) hB
  obtain ⟨A', c', rfl⟩ := own_form ho
  rw [← flatP_snoc] at ho
  exact ⟨A', c', w', hr, ho, hg⟩
section
variable {w : World} {o : Oper} {a : Act} {B n : Nat} {v : Value} {xs : List Pl}
theorem wp_one_P {K : Act → World → Prop} {Q : Exit → Act → World → Prop} (s y : Operand) (ho : o.op = .call { callee := .builtin .append, args := #[s, y], argTypes := #[59, 59] }) (hs : a.eval s = v)
    (h : w.ownsRow B 27 3 v n (flatP xs)) (hn : n ≤ 1000000) (hB : B ≤ w.heap.size) (ad : Addr) (c : Nat) (x : Pl) (hy : a.eval y = .slice (some ad) 1 c) (hx : ∀ j u, (x.cs)[j]? = some u → w.cell? (ad.add j) = some u)
    (hK : ∀ A' c' w', w'.ownsRow B 27 3 (.slice A' (n + 1) c') (n + 1) (flatP (xs ++ [x])) → w.grownBy w' v.ownBlock → K (a.put o.dst (.slice A' (n + 1) c')) w') : o.wp Try.prog a w K Q := by
  obtain ⟨A', c', w', hrun, r1, r2⟩ := run_one_P h hn hB o.type ad c x hx
  unfold Oper.wp
  simp [execOp, ho, resolve, invoke, builtin, hs, hy, hrun, Result.andThen]
  exact hK A' c' w' r1 r2
theorem wpList_one_P {ops : Array Oper} {rest : List Oper} {Q : Exit → Act → World → Prop} (hgd : o.guard = none) (s y : Operand) (ho : o.op = .call { callee := .builtin .append, args := #[s, y], argTypes := #[59, 59] }) (hs : a.eval s = v)
    (h : w.ownsRow B 27 3 v n (flatP xs)) (hn : n ≤ 1000000) (hB : B ≤ w.heap.size) (ad : Addr) (c : Nat) (x : Pl) (hy : a.eval y = .slice (some ad) 1 c) (hx : ∀ j u, (x.cs)[j]? = some u → w.cell? (ad.add j) = some u)
    (hK : ∀ A' c' w', w'.ownsRow B 27 3 (.slice A' (n + 1) c') (n + 1) (flatP (xs ++ [x])) → w.grownBy w' v.ownBlock → wpList Try.prog ops Q rest (a.put o.dst (.slice A' (n + 1) c')) w') : wpList Try.prog ops Q (o :: rest) a w :=
  wpList_plain hgd fun _ hK' => wp_one_P s y ho hs h hn hB ad c x hy hx fun A' c' w' h1 h2 => hK' _ _ (hK A' c' w' h1 h2)
end
theorem grown_blocks {w w' : World} {B n k : Nat} {t : TypeId} {v : Value} {vs : List Value} (h : w.ownsRow B t k v n vs) (hg : w.grownBy w' v.ownBlock) (hB : B ≤ w.heap.size) : Below B w w' :=
  (kept_grown hg).under B hB (fun g e => (h.lt g e).1)
end Go.Proofs.Ytlajjadpcaobiaa
