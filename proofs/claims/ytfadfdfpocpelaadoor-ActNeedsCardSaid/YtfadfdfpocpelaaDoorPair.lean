/- Two lists of bagged cells of the call's own, side by side. Conditions: none. -/
import Derived.Test.YtfadfdfpocpelaaDoorBase
namespace Go.Proofs.YtfadfdfpocpelaaDoor
open Go.RowKit Go.ChangeShapes Go.WideShapes

theorem own_base {w : World} {B B' n k : Nat} {A : Option Addr} {cap : Nat} {t : TypeId} {vs : List Value} (h : w.ownsRow B t k (.slice A n cap) n vs) (hB : ∀ g, lies A g → B' ≤ g) : w.ownsRow B' t k (.slice A n cap) n vs := by
  refine ⟨h.1, ?_⟩
  rcases h.2 with h0 | ⟨g, c, cur, e, hb, rest⟩
  · exact .inl h0
  · injection e with e1 e2 e3
    subst e1
    exact .inr ⟨g, c, cur, by rw [e3], hB g rfl, rest⟩
theorem own_mono {w : World} {B B' n k : Nat} {A : Option Addr} {cap : Nat} {t : TypeId} {vs : List Value} (h : w.ownsRow B t k (.slice A n cap) n vs) (hB : B' ≤ B) : w.ownsRow B' t k (.slice A n cap) n vs := own_base h fun g hg => Nat.le_trans hB (own_new h g hg)
/-- A list of bagged cells of the call's own. -/
def OwnB (B : Nat) (w : World) (A : Option Addr) (n c : Nat) (l : List Bg) : Prop := w.ownsRow B 98 3 (.slice A n c) n (flatB l)
theorem OwnB.on {B : Nat} {w w' : World} {A : Option Addr} {n c : Nat} {l : List Bg} (h : OwnB B w A n c l) (hb : Below w.heap.size w w') : OwnB B w' A n c l := ownB_below h hb
/-- Two lists of the call's own, apart. -/
structure Pair (B : Nat) (w0 w : World) (A1 : Option Addr) (n1 c1 : Nat) (A2 : Option Addr) (n2 c2 : Nat) (F K : List Bg) : Prop where
  f : w.ownsRow B 98 3 (.slice A1 n1 c1) n1 (flatB F)
  k : w.ownsRow B 98 3 (.slice A2 n2 c2) n2 (flatB K)
  ne : ∀ g, lies A1 g → ¬ lies A2 g
  below : Below B w0 w
section
variable {B n1 c1 n2 c2 c3 : Nat} {w0 w w3 : World} {A1 A2 A3 : Option Addr} {F K : List Bg} {x : Bg}
theorem own_len {B n c : Nat} {A : Option Addr} {F : List Bg} (h : w.ownsRow B 98 3 (.slice A n c) n (flatB F)) : F.length = n := (own_seesB h).len
theorem lies_lt {v : World} {B n cap : Nat} {A : Option Addr} {vs : List Value} (h : v.ownsRow B 98 3 (.slice A n cap) n vs) {g : Nat} (hg : lies A g) : g < v.heap.size := (h.lt g ((own_lies A n cap g).2 hg)).2
theorem Pair.symm (h : Pair B w0 w A1 n1 c1 A2 n2 c2 F K) : Pair B w0 w A2 n2 c2 A1 n1 c1 K F := ⟨h.k, h.f, fun g h1 h2 => h.ne g h2 h1, h.below⟩
theorem Pair.on (h : Pair B w0 w A1 n1 c1 A2 n2 c2 F K) (hB : B ≤ w.heap.size) (hb : Below w.heap.size w w3) : Pair B w0 w3 A1 n1 c1 A2 n2 c2 F K :=
  ⟨ownB_below h.f hb, ownB_below h.k hb, h.ne, h.below.trans (hb.mono hB)⟩
theorem pair_nil (B : Nat) (w : World) : Pair B w w none 0 0 none 0 0 [] [] := ⟨World.ownsRow_nil _ _ _ _, World.ownsRow_nil _ _ _ _, fun g h => (by cases h), Below.refl _ _⟩
/-- One more in the second. -/
theorem Pair.add (h : Pair B w0 w A1 n1 c1 A2 n2 c2 F K) (ho : w3.ownsRow B 98 3 (.slice A3 (n2 + 1) c3) (n2 + 1) (flatB (K ++ [x]))) (hg : w.grownBy w3 (Value.slice A2 n2 c2).ownBlock) (hl : ∀ g, lies A3 g → lies A2 g ∨ w.heap.size ≤ g) (hB : B ≤ w.heap.size) :
    Pair B w0 w3 A1 n1 c1 A3 (n2 + 1) c3 F (K ++ [x]) := by
  refine ⟨h.f.kept hg ?_, ho, fun g h1 h2 => ?_, h.below.trans ((kept_grown hg).under B hB (fun g e => own_new h.k g ((own_lies A2 n2 c2 g).1 e)))⟩
  · cases hw : (Value.slice A1 n1 c1).ownBlock with
    | none => exact .inl rfl
    | some g => exact .inr (fun e => h.ne g ((own_lies A1 n1 c1 g).1 hw) ((own_lies A2 n2 c2 g).1 e.symm))
  · rcases hl g h2 with e | e
    · exact h.ne g h1 e
    · have := lies_lt h.f h1
      omega
end
/-- 'append(l, x)', x just laid. -/
theorem wpList_one {w : World} {ops : Array Oper} {rest : List Oper} {o : Oper} {a : Act} {Q : Exit → Act → World → Prop} (hgd : o.guard = none) (s x : Operand)
    (ho : o.op = .call { callee := .builtin .append, args := #[s, x], argTypes := #[44, 44] })
    {B n cap : Nat} {A : Option Addr} {xs : List Bg} (hs : a.eval s = .slice A n cap) (h : w.ownsRow B 98 3 (.slice A n cap) n (flatB xs)) (hn : n ≤ 1000000) (hB : B ≤ w.heap.size)
    (ad : Nat) (y : Bg) (hx : a.eval x = .slice (some ⟨ad, 0, none⟩) 1 1) (hb : Blk w ad 98 #[.int .i64 y.c, .int .i64 y.g, .int .i64 y.n])
    (hK : ∀ A' c' w', w'.ownsRow B 98 3 (.slice A' (n + 1) c') (n + 1) (flatB (xs ++ [y])) → w.grownBy w' (Value.slice A n cap).ownBlock → (∀ g, lies A' g → lies A g ∨ w.heap.size ≤ g) → wpList Tryd.prog ops Q rest (a.put o.dst (.slice A' (n + 1) c')) w') :
    wpList Tryd.prog ops Q (o :: rest) a w := by
  obtain ⟨i0, hi, hz0, hz1, hz2⟩ := info_parts info98
  refine wpList_app hgd s x 44 ho B 98 i0 (.agg noB.cs.toArray) 3 24 Tryd.underlying44 hi hz0 hz1 hz2 rfl (by decide) A n cap (flatB xs) hs h (some ⟨ad, 0, none⟩) 1 1 y.cs hx ⟨by rw [Bg.len], Nat.le_refl _, by unfold maxLen; omega, fun e => (by cases e), fun ad' e _ => by
    cases e
    exact ⟨ad, 0, rfl, hb.lt, range_blk (cs := y.cs) hb⟩⟩ y.one (by unfold maxLen; omega) (by omega) hB ?_
  intro A' c' w' ho' hg hl
  rw [← flatB_snoc] at ho'
  exact hK A' c' w' ho' hg hl

theorem take_next {l : List Bg} {k : Nat} {x : Bg} (hx : l[k]? = some x) : l.take (k + 1) = l.take k ++ [x] := by
  rw [List.take_add_one, hx]
  rfl
end Go.Proofs.YtfadfdfpocpelaaDoor
