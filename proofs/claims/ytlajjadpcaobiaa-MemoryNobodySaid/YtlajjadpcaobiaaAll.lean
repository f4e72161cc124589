/- All answers a program's places, rising, in memory of its own. Conditions: none. -/
import Derived.Test.YtlajjadpcaobiaaEach
import Derived.Maps.AppendAt
namespace Go.Proofs.Ytlajjadpcaobiaa
open Go.RowKit Go.Shelf Go.ChangeShapes Go.WideShapes
attribute [local go_sem] Oper.semAt_some

theorem blk_ownF (B : Nat) (g : Nat) (t : TypeId) (cs : Array Value) : OwnFrom B (fun (_ : Unit) W => Blk W g t cs) := by
  intro _ X Y row hs hg hr
  refine blk_grown hs hg fun e => ?_
  obtain ⟨_, o, ho, hc⟩ := hr g e.symm
  rw [show X.heap[g]? = _ from hs] at ho
  cases ho
  cases hc
/-- A block of another type is not the list's. -/
theorem not_own {W : World} {B k n : Nat} {t t' : TypeId} {v : Value} {vs : List Value} {g : Nat} {cs : Array Value} (h : W.ownsRow B t k v n vs) (hg : Blk W g t' cs) (ht : t' ≠ t) : v.ownBlock ≠ some g := by
  intro e
  rcases h.2 with ⟨rfl, _⟩ | ⟨g', cap, cur, rfl, _, hh, _⟩
  · simp [Value.ownBlock] at e
  · obtain rfl : g' = g := by simpa [Value.ownBlock] using e
    exact hg.ne hh ht rfl
def prgA (r c s : Int) (A : Option Addr) (n cap : Nat) : Array Value := #[.int .i64 r, .int .i64 c, .int .i64 s, .slice A n cap]
/-- What the assignment of a round leaves: the round's variable, the frame. -/
def AxP (P : Array Value) (b0 : Nat) (x : Pl) (a : Act) (W : World) : Prop := ∃ Bx, Blk W Bx 27 x.cs.toArray ∧ a = { tmps := #[.agg P, .pointer (some ⟨b0, 0, none⟩), .slice none 0 0, .pointer (some ⟨b0 + 1, 0, none⟩), .pointer (some ⟨Bx, 0, none⟩), .agg P, .func (.func 40) #[] #[.pointer (some ⟨b0 + 1 + 1, 0, none⟩)], .agg #[.int .i64 x.k, .int .i64 x.i, .int .i64 x.j], undef, undef, undef, undef, undef], defers := [] }
theorem axP_own (P : Array Value) (b0 B : Nat) (x : Pl) (a : Act) : OwnFrom B (fun (_ : Unit) W => AxP P b0 x a W) := by
  rintro _ X Y row ⟨Bx, hb, rfl⟩ hg hr
  exact ⟨Bx, blk_ownF B Bx 27 _ () X Y row hb hg hr, rfl⟩

set_option maxRecDepth 100000 in
set_option maxHeartbeats 4000000 in
theorem all_any' (r c s : Int) (A : Option Addr) (n cap : Nat) (hp : Pg.Ok ⟨r, c, s, A, n, cap⟩) (w : World) :
    Calls Try.prog 22 #[.agg #[.int .i64 r, .int .i64 c, .int .i64 s, .slice A n cap]] w fun e w' => ∃ v, e = .returned v ∧ w'.ownsRow w.heap.size 27 3 v (allP ⟨r, c, s, A, n, cap⟩).length (flatP (allP ⟨r, c, s, A, n, cap⟩)) ∧ Below w.heap.size w w' := by
  refine (callsIn_wide (n := 9)).1 ?_
  obtain ⟨i0, hi, hz0, hz1, hz2⟩ := info_parts info27
  refine callsIn_of_wp_marks Try.func22 rfl trivial ?_ rfl
  simp only [Try.ntmps22, List.size_toArray, List.length_cons, List.length_nil, Nat.reduceAdd, Nat.reduceSub, Array.replicate_succ, Array.replicate_zero, List.push_toArray, List.append_toArray, List.nil_append, List.cons_append]
  have hE : ∀ W, CallsIn Fence.wide 8 Try.prog 36 #[.agg #[.int .i64 r, .int .i64 c, .int .i64 s, .slice A n cap]] W fun e w' => e = .returned (.func (.func 40) #[] #[.pointer (some ⟨W.heap.size, 0, none⟩)]) ∧ w' = W.alloc (.cells #[.int .i64 r, .int .i64 c, .int .i64 s, .slice A n cap] 24) := fun W => each_any 8 ⟨r, c, s, A, n, cap⟩ W
  gi_wp2_with (refine ⟨trivial, ?_⟩; gi_at_call 36; refine (hE _).mono ?_; rintro e w' ⟨rfl, rfl⟩)
  obtain ⟨W0, hW0⟩ : ∃ W, ((w.alloc (.cells #[.int .i64 r, .int .i64 c, .int .i64 s, .slice A n cap] 24)).alloc (.cells #[.slice none 0 0] 59)).alloc (.cells #[.int .i64 r, .int .i64 c, .int .i64 s, .slice A n cap] 24) = W := ⟨_, rfl⟩
  have hB0 : Below w.heap.size w W0 := by rw [← hW0]; exact (((Below.refl _ w).alloc (Nat.le_refl _) _).alloc (by simp) _).alloc (by simp; omega) _
  have hsz : W0.heap.size = w.heap.size + 3 := by rw [← hW0]; simp
  have bO : Boxed W0 (w.heap.size + 1) 59 (.slice none 0 0) := by
    rw [← hW0]
    have := (Boxed.new (w.alloc (.cells #[.int .i64 r, .int .i64 c, .int .i64 s, .slice A n cap] 24)) 59 (.slice none 0 0)).alloc (.cells #[.int .i64 r, .int .i64 c, .int .i64 s, .slice A n cap] 24)
    simpa using this
  have bP : Blk W0 (w.heap.size + 1 + 1) 24 #[.int .i64 r, .int .i64 c, .int .i64 s, .slice A n cap] := by rw [← hW0]; exact blk_new _ _ 24 _ (by simp)
  rw [hW0]
  clear hW0 hE
  refine wpIn_rangeFunc_ownH rfl (by decide) (gf := 40) (lb := #[.pointer (some ⟨w.heap.size + 1 + 1, 0, none⟩)]) rfl trivial (enters_of Try.func40 (by kernel_rfl) rfl)
    (each_stops 8 (by decide) (w.heap.size + 1 + 1) w.heap.size ⟨r, c, s, A, n, cap⟩ hp W0 bP) keeps_t (keeps_b (by omega)) (Below.refl _ _) (fun _ => rfl)
    (fun pre W => (∃ v, Boxed W (w.heap.size + 1) 59 v ∧ W.ownsRow w.heap.size 27 3 v pre.length (flatP pre) ∧ True) ∧ Below w.heap.size w W)
    (fun _ _ _ => False)
    (OwnFrom.and (Own.from (holdsRow_own w.heap.size (w.heap.size + 1) 59 27 3 (fun pre => pre.length) (fun pre => flatP pre) (fun _ _ => True)) _) (ownFrom_below (Nat.le_refl _) (by omega)))
    (fun _ _ _ _ _ hs _ _ => hs)
    ⟨⟨_, bO, World.ownsRow_nil _ _ _ _, trivial⟩, hB0⟩
    (fun x a' W => AxP (prgA r c s A n cap) w.heap.size x a' W)
    (fun x a' => axP_own _ _ _ x a')
    ?assign ?body ?done ?stop
  case assign =>
    rintro l pre x W K ⟨⟨v, hv, hrow, _⟩, hB⟩ hK
    gi_wp2
    have hn : Blk (W.alloc (.cells #[.int .i64 x.k, .int .i64 x.i, .int .i64 x.j] 27)) W.heap.size 27 x.cs.toArray := heap_alloc_new W _
    have hb1 : Below W.heap.size W (W.alloc (.cells #[.int .i64 x.k, .int .i64 x.i, .int .i64 x.j] 27)) := (Below.refl _ W).alloc (Nat.le_refl _) _
    exact hK _ _ ((KeepsOthers.alloc _ _).from _) ⟨hb1.mono hB.size, hb1.size, fun g t cs _ _ h => h.on hb1⟩ ⟨⟨v, hv.alloc _, hrow.alloc _, trivial⟩, hB.trans (hb1.mono hB.size)⟩ ⟨W.heap.size, hn, rfl⟩
  case body =>
    rintro l pre x a' W hl hr ⟨⟨v, hv, hrow, _⟩, hB⟩ ⟨Bx, hX, rfl⟩ hlt
    have hc := hv.cell
    have x0 : W.cell? ⟨Bx, 0, none⟩ = some (.int .i64 x.k) := hX.cell 0
    have x1 : W.cell? ⟨Bx, 1, none⟩ = some (.int .i64 x.i) := hX.cell 1
    have x2 : W.cell? ⟨Bx, 2, none⟩ = some (.int .i64 x.j) := hX.cell 2
    have hnw : Blk (W.alloc (.cells #[.int .i64 x.k, .int .i64 x.i, .int .i64 x.j] 27)) W.heap.size 27 #[.int .i64 x.k, .int .i64 x.i, .int .i64 x.j] := heap_alloc_new W _
    gi_wp2_with (gi_at_builtin; refine wpListIn_append_own _ rfl _ _ 59 rfl w.heap.size 27 i0 (.agg noP.cs.toArray) 3 24 Try.underlying59 hi hz0 hz1 hz2 rfl (by decide) _ _ _ rfl (hrow.alloc _) ⟨W.heap.size, 0, none⟩ 1 1 [.int .i64 x.k, .int .i64 x.i, .int .i64 x.j] rfl rfl (World.news_of_block (cs := #[.int .i64 x.k, .int .i64 x.i, .int .i64 x.j]) (t := 27) (fr := (0, 0)) hnw) x.one (by unfold maxLen; omega) (by omega) (by have := hB.size; simp; omega) ?_; intro v' w2 hown' hgrow _; obtain ⟨g', cap', rfl⟩ := ownsRow_succ hown'; obtain ⟨hv1, hv2, hr2, hk2, hb2⟩ := hv.appended (by decide) hrow hB.size (by omega) hown' hgrow; have hc1 := hv1.cell; have hf1 := hv1.frozen)
    replace hgrow : (W.alloc (.cells #[.int .i64 x.k, .int .i64 x.i, .int .i64 x.j] 27)).grownBy w2 v.ownBlock := hgrow
    refine ⟨hk2.from _, ⟨hb2, hb2.size, fun g t cs h1 h2 hg => ?_⟩, ⟨_, hv2, ?_, trivial⟩, hB.trans hb2⟩
    · refine blk_far (blk_grown (hg.on ((Below.refl _ W).alloc (Nat.le_refl _) _)) hgrow fun e => ?_) (hg.ne (show Blk W (w.heap.size + 1) 59 #[v] from hv) h2) 0 _
      exact not_own hrow hg h1 e.symm
    · rw [flatP_snoc, List.length_append]
      exact hr2
  case done =>
    rintro D ys W hD rfl ⟨⟨v, hv, hrow, _⟩, hB⟩ hK
    have hc := hv.cell
    gi_wp2
    refine ⟨by simp, .inl ⟨_, _, rfl, run_takeDeferred hK, ?_⟩⟩
    exact ⟨_, results_tmp rfl _ _ _, v, rfl, ownsRow_putObj hrow _ hK rfl, hB.trans (belowK_b (w := w) (Nat.le_refl _) W D _ _ (by omega) hK rfl rfl)⟩
  case stop =>
    rintro D c pre W _ _ h _
    exact h.elim
theorem all_any (p : Pg) (hp : p.Ok) (w : World) :
    Calls Try.prog 22 #[.agg p.cs.toArray] w fun e w' => ∃ v, e = .returned v ∧ w'.ownsRow w.heap.size 27 3 v (allP p).length (flatP (allP p)) ∧ Below w.heap.size w w' := all_any' p.r p.c p.s p.A p.n p.cap hp w
end Go.Proofs.Ytlajjadpcaobiaa
