/- What Split and Words answer: a text's pieces, in memory of the call's own. Conditions: texts of at most 100000 octets. -/
import Derived.Test.YtmkdmnaonddghaaDoorParts
import Derived.Shelf.RegionOpen
namespace Go.Proofs.YtmkdmnaonddghaaDoor
open Go.RowKit Go.Shelf Nine
attribute [local go_sem] Oper.semAt_some

theorem ownsRow_less {W : World} {base base' : Nat} {e : TypeId} {size : Nat} {v : Value} {k : Nat} {xs : List Value} (h : W.ownsRow base e size v k xs) (hb : base' ≤ base) : W.ownsRow base' e size v k xs := by
  refine ⟨h.1, ?_⟩
  rcases h.2 with hn | ⟨g, cap, cur, hv, hbg, rest⟩
  · exact .inl hn
  · exact .inr ⟨g, cap, cur, hv, Nat.le_trans hb hbg, rest⟩
theorem ownsRow_on {W W' : World} {base : Nat} {e : TypeId} {size : Nat} {v : Value} {k : Nat} {xs : List Value} (h : W.ownsRow base e size v k xs) (hb : Below W.heap.size W W') : W'.ownsRow base e size v k xs := by
  refine h.kept (grown_below hb none) ?_
  rcases h.2 with ⟨rfl, _⟩ | ⟨g, cap, cur, rfl, _⟩
  · exact .inl rfl
  · exact .inr (by simp [Value.ownBlock])
/-- An append to a list in a box, the list's rows being younger than the boxes. -/
theorem appended2 {W w1 : World} {n₀ base B Bb : Nat} {v v' : Value} {k m : Nat} {xs ys : List Value} {tmp : Obj} {c : UInt8}
    (hv : Boxed W B 48 v) (hrow : W.ownsRow base 9 1 v k xs) (hb : base ≤ W.heap.size) (h0 : n₀ ≤ B) (h1 : n₀ ≤ base) (h2 : Bb < base) (h3 : Bb ≠ B)
    (hown' : w1.ownsRow base 9 1 v' m ys) (hgrow : (W.alloc tmp).grownBy w1 v.ownBlock) :
    Boxed w1 B 48 v ∧ Boxed (w1.setCell ⟨B, 0, none⟩ v') B 48 v' ∧ (w1.setCell ⟨B, 0, none⟩ v').ownsRow base 9 1 v' m ys ∧ KeepsOthers W (w1.setCell ⟨B, 0, none⟩ v') ∧ Keeps n₀ Bb c W (w1.setCell ⟨B, 0, none⟩ v') := by
  have hv1 : Boxed w1 B 48 v := (hv.alloc tmp).kept hgrow (hv.not_row (by decide) hrow)
  have hrb : ∀ j, v.ownBlock = some j → base ≤ j := fun j ej => by
    rcases hrow.2 with ⟨rfl, _⟩ | ⟨g, cap, cur, rfl, hb, _, _⟩
    · simp [Value.ownBlock] at ej
    · obtain rfl : g = j := by simpa [Value.ownBlock] using ej
      exact hb
  refine ⟨hv1, hv1.set v', hown'.kept (grownBy_setCell' w1 B v') (.inr (hv1.not_row (by decide) hown').symm), ?_, ?_, fun hk => ?_⟩
  · refine ((KeepsOthers.alloc W tmp).trans (KeepsOthers.of_grownBy hgrow fun j o ej hj => ?_)).trans (KeepsOthers.setCell _ _ _)
    rcases (hrow.alloc tmp).2 with ⟨rfl, _⟩ | ⟨g, cap, cur, rfl, _, hgb, _⟩
    · simp [Value.ownBlock] at ej
    · obtain rfl : g = j := by simpa [Value.ownBlock] using ej
      rw [hgb] at hj; cases hj; rfl
  · refine (((Below.refl n₀ W).alloc (by omega) tmp).grown hgrow (by simp; omega) fun j ej => ?_).setCell (p := ⟨B, 0, none⟩) h0 v'
    have := hrb j ej
    omega
  · exact ((hk.alloc tmp).kept hgrow fun e => by have := hrb _ e.symm; omega).kept (grownBy_setCell' w1 B v') fun e => h3 (by injection e)

theorem behind {W W1 W2 : World} {n₀ Bb : Nat} {c : UInt8} (hb1 : Below W.drew.heap.size W.drew W1) (hn : n₀ ≤ W.heap.size) (hk : KeepsOthers W1 W2) (hb : Keeps n₀ Bb c W1 W2) : KeepsOthers W W2 ∧ Keeps n₀ Bb c W W2 := by
  have hb0 : Below W.heap.size W W1 := ⟨hb1.os, hb1.tape, hb1.output, hb1.size, hb1.block⟩
  exact ⟨(KeepsOthers.of_grownBy (grown_below hb0 none) (fun j o e => by cases e)).trans hk, keeps_t ⟨hb0.mono hn, fun h => h.kept (grown_below hb0 none) (by simp)⟩ hb⟩
/-- append, as one step of a region that draws, within a round. -/
theorem stepIn_append {F : Fence} {n : Nat} {P : Program} {ops : Array Oper} {o : Oper} {a : Act} {w w' : World} {K : Act → World → Prop} {Q : Exit → Act → World → Prop} {E : Prop}
    (hg : o.guard = none) (s x : Operand) (t : TypeId) (hop : o.op = Op.call { callee := Callee.builtin Builtin.append, args := #[s, x], argTypes := #[t, t] })
    (v v' : Value) (ad : Addr) (m c : Nat) (hs : a.eval s = v) (hx : a.eval x = .slice (some ad) m c) (hrun : (Builtin.append_ #[t, t] o.type #[v, .slice (some ad) m c]).run P w = .ok v' w')
    (hK : K (a.put o.dst v') w') : if Region.wanted o (yielded ops a.tmps) = true then Oper.wpIn F n P o a w K Q else E := by
  have hw : Region.wanted o (yielded ops a.tmps) = true := by simp [Region.wanted, hg]
  rw [if_pos hw]
  unfold Oper.wpIn
  refine ⟨?_, ?_⟩
  · simp [Oper.about, hop, resolve, Target.leads, Sem.run_pure]
  · rw [Oper.semAt_plain F _ _ (by rw [hop]; intro c hc'; cases hc')]
    simp [execOp, hop, resolve, invoke, builtin, hs, hx, hrun, Result.andThen]
    exact hK

set_option maxRecDepth 100000 in
set_option maxHeartbeats 2000000 in
theorem words_any (s : ByteArray) (hs : s.size ≤ 100000) (w : World) :
    Calls Tryd.prog 37 #[.string s] w fun e w' => ∃ v, e = .returned v ∧ w'.ownsRow w.heap.size 9 1 v (wordsL (oct s)).length (vals (wordsL (oct s))) ∧ Below w.heap.size w w' := by
  refine (callsIn_wide (n := 9)).1 ?_
  obtain ⟨i0, hi, hz0, hz1, hz2⟩ := info_parts info9
  refine callsIn_of_wp_marks Tryd.func37 rfl trivial ?_ rfl
  simp only [Tryd.ntmps37, List.size_toArray, List.length_cons, List.length_nil, Nat.reduceAdd, Nat.reduceSub, Array.replicate_succ, Array.replicate_zero, List.push_toArray, List.append_toArray, List.nil_append, List.cons_append]
  gi_wp2_with (refine ⟨trivial, ?_⟩; gi_at_call 53; refine (parts_any _ _ _ _).mono ?_; rintro e w' ⟨rfl, rfl⟩)
  obtain ⟨W0, hW0⟩ : ∃ W0, ((w.alloc (.cells #[.slice none 0 0] 48)).alloc (.cells #[.string s] 9)).alloc (.cells #[.string ⟨#[32]⟩] 9) = W0 := ⟨_, rfl⟩
  have hsz : W0.heap.size = w.heap.size + 3 := by rw [← hW0]; simp
  have bO : Boxed W0 w.heap.size 48 (.slice none 0 0) := by rw [← hW0]; exact ((Boxed.new w 48 (.slice none 0 0)).alloc _).alloc _
  have bS : Boxed W0 (w.heap.size + 1) 9 (.string s) := by rw [← hW0]; have := (Boxed.new (w.alloc (.cells #[.slice none 0 0] 48)) 9 (.string s)).alloc (.cells #[.string ⟨#[32]⟩] 9); simpa using this
  have bB : Boxed W0 (w.heap.size + 2) 9 (.string (txt [32])) := by rw [← hW0]; have := Boxed.new ((w.alloc (.cells #[.slice none 0 0] 48)).alloc (.cells #[.string s] 9)) 9 (.string (txt [32])); rw [World.size_alloc, World.size_alloc] at this; exact this
  have hB0 : Below w.heap.size w W0 := by rw [← hW0]; exact (((Below.refl _ w).alloc (Nat.le_refl _) _).alloc (by simp) _).alloc (by simp; omega) _
  rw [hW0]
  refine wpIn_rangeFunc_ownG rfl (by decide) (gf := 63) (lb := #[.pointer (some ⟨w.heap.size + 1, 0, none⟩), .pointer (some ⟨w.heap.size + 1 + 1, 0, none⟩)]) rfl trivial (enters_of Tryd.func63 (by kernel_rfl) rfl)
    (parts_stops 8 (by decide) (w.heap.size + 1) (w.heap.size + 2) w.heap.size 32 s hs W0 bS bB) keeps_t (keeps_b (by omega)) (Below.refl _ _) (fun _ => rfl)
    (fun pre W => (∃ v, Boxed W w.heap.size 48 v ∧ W.ownsRow (w.heap.size + 3) 9 1 v ((raw pre).filter full).length (vals ((raw pre).filter full)) ∧ True) ∧ Below w.heap.size w W ∧ w.heap.size + 3 ≤ W.heap.size)
    (fun _ _ _ => False)
    (OwnFrom.and (Own.from (holdsRow_own (w.heap.size + 3) w.heap.size 48 9 1 (fun pre => ((raw pre).filter full).length) (fun pre => vals ((raw pre).filter full)) (fun _ _ => True)) _) (OwnFrom.and (ownFrom_below (Nat.le_refl _) (by omega)) (fun _ _ _ _ h hg _ => Nat.le_trans h hg.size)))
    (fun _ _ _ _ _ hs _ _ => hs)
    ⟨⟨_, bO, World.ownsRow_nil _ _ _ _, trivial⟩, hB0, by omega⟩
    (fun x : Pc => { tmps := #[.string s, undef, .slice none 0 0, .pointer (some ⟨w.heap.size, 0, none⟩), .string (txt x.1), .string s, .func (.func 63) #[] #[.pointer (some ⟨w.heap.size + 1, 0, none⟩), .pointer (some ⟨w.heap.size + 1 + 1, 0, none⟩)], .string (txt x.1), undef, undef, undef, undef, undef, undef, undef, undef], defers := [] }) ?assign ?body ?done ?stop
  case assign =>
    intro l x W K hK
    gi_wp2
    exact hK
  case body =>
    rintro l pre ⟨x, hx⟩ W ⟨⟨v, hv, hrow, _⟩, hB, hWz⟩ hlt
    have hlt : pre.length < 100000 := hlt
    have hc := hv.cell
    have hd : 1 ≤ 9 - 1 - 1 := by omega
    have hmx : Tryd.prog.follows .mixedOrders = true := by kernel_rfl
    have hxs : (txt x).size ≤ 140737488355328 := by rw [txt_size]; omega
    have hvd : Boxed W.drew w.heap.size 48 v := hv
    have hrowd : W.drew.ownsRow (w.heap.size + 3) 9 1 v ((raw pre).filter full).length (vals ((raw pre).filter full)) := hrow
    have hWd : w.heap.size + 3 ≤ W.drew.heap.size := hWz
    have hfl : ((raw pre).filter full).length < 100000 := Nat.lt_of_le_of_lt (List.length_filter_le _ _) (by rw [raw_len]; exact hlt)
    by_cases h0 : x = []
    · have t1 := (txt_nil_eq x).trans (decide_eq_true h0)
      have HF : Hid ((raw (pre ++ [(⟨x, hx⟩ : Pc)])).filter full = (raw pre).filter full) := Lib.hid (by rw [raw_snoc, List.filter_append]; simp [full, h0])
      clear h0
      gi_wp2
      refine ⟨(KeepsOthers.refl _).from _, ⟨Below.refl _ _, fun h => h⟩, ⟨v, hv, by rw [HF.out]; exact hrow, trivial⟩, hB, hWz⟩
    · have t1 := (txt_nil_eq x).trans (decide_eq_false h0)
      have HF : Hid ((raw (pre ++ [(⟨x, hx⟩ : Pc)])).filter full = (raw pre).filter full ++ [x]) := Lib.hid (by rw [raw_snoc, List.filter_append]; simp [full, h0])
      clear h0
      gi_wp2
      refine wpIn_region_any hmx ?_
      try (change wpAnyIn _ _ _ _ _ _ _ _ _ (World.drew _))
      refine wpAnyIn_ready (rs := [0, 1]) (by kernel_rfl) (by simp) ?_
      refine AllReadyIn.cons rfl (fun K hK => ?_) (AllReadyIn.cons rfl (fun K hK => ?_) AllReadyIn.nil)
      · go_simp
        refine hK _ _ ?_; clear hK K
        refine wpAnyIn_ready (rs := [1]) (by kernel_rfl) (by simp) ?_
        refine AllReadyIn.cons rfl (fun K hK => ?_) AllReadyIn.nil
        go_simp
        refine hK _ _ ?_; clear hK K
        refine wpAnyIn_ready (rs := [2]) (by kernel_rfl) (by simp) ?_
        refine AllReadyIn.cons rfl (fun K hK => ?_) AllReadyIn.nil
        go_simp
        gi_wp2_with (refine ⟨trivial, ?_⟩; gi_at_call 46; refine (CallsIn.inRound l (callsIn_wide.2 (clone_any _ hxs _))).mono ?_; rintro e W1 ⟨rfl, hb1⟩; have hv1 := hvd.kept (grown_below hb1 none) (by simp); have hc1 := hv1.cell; have hc3 := (hv1.alloc (.cells #[.string (txt x)] 9)).cell; have hrow1 := ownsRow_on hrowd hb1; have hzz : w.heap.size + 3 ≤ W1.heap.size := Nat.le_trans hWd hb1.size; obtain ⟨v', w2, hrun, hown', hgrow, _⟩ := run_append_own (P := Tryd.prog) (W1.alloc (.cells #[.string (txt x)] 9)) (w.heap.size + 3) 48 48 9 i0 (.string ⟨#[]⟩) 1 16 Tryd.underlying48 hi hz0 hz1 hz2 rfl (by decide) v ((raw pre).filter full).length (vals ((raw pre).filter full)) (hrow1.alloc _) ⟨W1.heap.size, 0, none⟩ 1 1 [.string (txt x)] rfl (cell_one_new _ _ _) (by simp [Value.oneCell']) (by unfold maxLen; omega) (by omega) (by simp; omega); obtain ⟨g', cap', rfl⟩ := ownsRow_succ hown'; obtain ⟨hv2, hv3, hr2, hk2, hb2⟩ := appended2 (c := 32) (n₀ := w.heap.size) (Bb := w.heap.size + 2) hv1 hrow1 hzz (Nat.le_refl _) (by omega) (by omega) (by omega) hown' hgrow; have hc2 := hv2.cell; have hf2 := hv2.frozen; obtain ⟨hk4, hb4⟩ := behind hb1 hB.size hk2 hb2)
        refine wpAnyIn_ready (rs := [3]) (by kernel_rfl) (by simp) ?_
        refine AllReadyIn.cons rfl (fun K hK => ?_) AllReadyIn.nil
        go_simp
        refine hK _ _ ?_; clear hK K
        refine wpAnyIn_ready (rs := [4]) (by kernel_rfl) (by simp) ?_
        refine AllReadyIn.cons rfl (fun K hK => ?_) AllReadyIn.nil
        refine stepIn_append rfl (.tmp 10) (.tmp 13) 48 rfl _ _ _ _ _ rfl rfl hrun ?_
        refine hK _ _ ?_; clear hK K
        refine wpAnyIn_ready (rs := [5]) (by kernel_rfl) (by simp) ?_
        refine AllReadyIn.cons rfl (fun K hK => ?_) AllReadyIn.nil
        go_simp
        refine hK _ _ ?_; clear hK K
        refine wpAnyIn_done (by kernel_rfl) ?_ _
        exact ⟨hk4.from _, hb4, ⟨_, hv3, by rw [HF.out, vals_snoc]; simpa using hr2, trivial⟩, hB.trans hb4.1, Nat.le_trans hWz hk4.size⟩
      · go_simp
        refine hK _ _ ?_; clear hK K
        refine wpAnyIn_ready (rs := [0, 2]) (by kernel_rfl) (by simp) ?_
        refine AllReadyIn.cons rfl (fun K hK => ?_) (AllReadyIn.cons rfl (fun K hK => ?_) AllReadyIn.nil)
        · go_simp
          refine hK _ _ ?_; clear hK K
          refine wpAnyIn_ready (rs := [2]) (by kernel_rfl) (by simp) ?_
          refine AllReadyIn.cons rfl (fun K hK => ?_) AllReadyIn.nil
          go_simp
          gi_wp2_with (refine ⟨trivial, ?_⟩; gi_at_call 46; refine (CallsIn.inRound l (callsIn_wide.2 (clone_any _ hxs _))).mono ?_; rintro e W1 ⟨rfl, hb1⟩; have hv1 := hvd.kept (grown_below hb1 none) (by simp); have hc1 := hv1.cell; have hc3 := (hv1.alloc (.cells #[.string (txt x)] 9)).cell; have hrow1 := ownsRow_on hrowd hb1; have hzz : w.heap.size + 3 ≤ W1.heap.size := Nat.le_trans hWd hb1.size; obtain ⟨v', w2, hrun, hown', hgrow, _⟩ := run_append_own (P := Tryd.prog) (W1.alloc (.cells #[.string (txt x)] 9)) (w.heap.size + 3) 48 48 9 i0 (.string ⟨#[]⟩) 1 16 Tryd.underlying48 hi hz0 hz1 hz2 rfl (by decide) v ((raw pre).filter full).length (vals ((raw pre).filter full)) (hrow1.alloc _) ⟨W1.heap.size, 0, none⟩ 1 1 [.string (txt x)] rfl (cell_one_new _ _ _) (by simp [Value.oneCell']) (by unfold maxLen; omega) (by omega) (by simp; omega); obtain ⟨g', cap', rfl⟩ := ownsRow_succ hown'; obtain ⟨hv2, hv3, hr2, hk2, hb2⟩ := appended2 (c := 32) (n₀ := w.heap.size) (Bb := w.heap.size + 2) hv1 hrow1 hzz (Nat.le_refl _) (by omega) (by omega) (by omega) hown' hgrow; have hc2 := hv2.cell; have hf2 := hv2.frozen; obtain ⟨hk4, hb4⟩ := behind hb1 hB.size hk2 hb2)
          refine wpAnyIn_ready (rs := [3]) (by kernel_rfl) (by simp) ?_
          refine AllReadyIn.cons rfl (fun K hK => ?_) AllReadyIn.nil
          go_simp
          refine hK _ _ ?_; clear hK K
          refine wpAnyIn_ready (rs := [4]) (by kernel_rfl) (by simp) ?_
          refine AllReadyIn.cons rfl (fun K hK => ?_) AllReadyIn.nil
          refine stepIn_append rfl (.tmp 10) (.tmp 13) 48 rfl _ _ _ _ _ rfl rfl hrun ?_
          refine hK _ _ ?_; clear hK K
          refine wpAnyIn_ready (rs := [5]) (by kernel_rfl) (by simp) ?_
          refine AllReadyIn.cons rfl (fun K hK => ?_) AllReadyIn.nil
          go_simp
          refine hK _ _ ?_; clear hK K
          refine wpAnyIn_done (by kernel_rfl) ?_ _
          exact ⟨hk4.from _, hb4, ⟨_, hv3, by rw [HF.out, vals_snoc]; simpa using hr2, trivial⟩, hB.trans hb4.1, Nat.le_trans hWz hk4.size⟩
        · go_simp
          gi_wp2_with (refine ⟨trivial, ?_⟩; gi_at_call 46; refine (CallsIn.inRound l (callsIn_wide.2 (clone_any _ hxs _))).mono ?_; rintro e W1 ⟨rfl, hb1⟩; have hv1 := hvd.kept (grown_below hb1 none) (by simp); have hc1 := hv1.cell; have hc3 := (hv1.alloc (.cells #[.string (txt x)] 9)).cell; have hrow1 := ownsRow_on hrowd hb1; have hzz : w.heap.size + 3 ≤ W1.heap.size := Nat.le_trans hWd hb1.size; obtain ⟨v', w2, hrun, hown', hgrow, _⟩ := run_append_own (P := Tryd.prog) (W1.alloc (.cells #[.string (txt x)] 9)) (w.heap.size + 3) 48 48 9 i0 (.string ⟨#[]⟩) 1 16 Tryd.underlying48 hi hz0 hz1 hz2 rfl (by decide) v ((raw pre).filter full).length (vals ((raw pre).filter full)) (hrow1.alloc _) ⟨W1.heap.size, 0, none⟩ 1 1 [.string (txt x)] rfl (cell_one_new _ _ _) (by simp [Value.oneCell']) (by unfold maxLen; omega) (by omega) (by simp; omega); obtain ⟨g', cap', rfl⟩ := ownsRow_succ hown'; obtain ⟨hv2, hv3, hr2, hk2, hb2⟩ := appended2 (c := 32) (n₀ := w.heap.size) (Bb := w.heap.size + 2) hv1 hrow1 hzz (Nat.le_refl _) (by omega) (by omega) (by omega) hown' hgrow; have hc2 := hv2.cell; have hf2 := hv2.frozen; obtain ⟨hk4, hb4⟩ := behind hb1 hB.size hk2 hb2)
          refine wpAnyIn_ready (rs := [0, 3]) (by kernel_rfl) (by simp) ?_
          refine AllReadyIn.cons rfl (fun K hK => ?_) (AllReadyIn.cons rfl (fun K hK => ?_) AllReadyIn.nil)
          · go_simp
            refine hK _ _ ?_; clear hK K
            refine wpAnyIn_ready (rs := [3]) (by kernel_rfl) (by simp) ?_
            refine AllReadyIn.cons rfl (fun K hK => ?_) AllReadyIn.nil
            go_simp
            refine hK _ _ ?_; clear hK K
            refine wpAnyIn_ready (rs := [4]) (by kernel_rfl) (by simp) ?_
            refine AllReadyIn.cons rfl (fun K hK => ?_) AllReadyIn.nil
            refine stepIn_append rfl (.tmp 10) (.tmp 13) 48 rfl _ _ _ _ _ rfl rfl hrun ?_
            refine hK _ _ ?_; clear hK K
            refine wpAnyIn_ready (rs := [5]) (by kernel_rfl) (by simp) ?_
            refine AllReadyIn.cons rfl (fun K hK => ?_) AllReadyIn.nil
            go_simp
            refine hK _ _ ?_; clear hK K
            refine wpAnyIn_done (by kernel_rfl) ?_ _
            exact ⟨hk4.from _, hb4, ⟨_, hv3, by rw [HF.out, vals_snoc]; simpa using hr2, trivial⟩, hB.trans hb4.1, Nat.le_trans hWz hk4.size⟩
          · go_simp
            refine hK _ _ ?_; clear hK K
            refine wpAnyIn_ready (rs := [0]) (by kernel_rfl) (by simp) ?_
            refine AllReadyIn.cons rfl (fun K hK => ?_) AllReadyIn.nil
            go_simp
            refine hK _ _ ?_; clear hK K
            refine wpAnyIn_ready (rs := [4]) (by kernel_rfl) (by simp) ?_
            refine AllReadyIn.cons rfl (fun K hK => ?_) AllReadyIn.nil
            refine stepIn_append rfl (.tmp 10) (.tmp 13) 48 rfl _ _ _ _ _ rfl rfl hrun ?_
            refine hK _ _ ?_; clear hK K
            refine wpAnyIn_ready (rs := [5]) (by kernel_rfl) (by simp) ?_
            refine AllReadyIn.cons rfl (fun K hK => ?_) AllReadyIn.nil
            go_simp
            refine hK _ _ ?_; clear hK K
            refine wpAnyIn_done (by kernel_rfl) ?_ _
            exact ⟨hk4.from _, hb4, ⟨_, hv3, by rw [HF.out, vals_snoc]; simpa using hr2, trivial⟩, hB.trans hb4.1, Nat.le_trans hWz hk4.size⟩
  case done =>
    rintro D ys W hD hys ⟨⟨v, hv, hrow, _⟩, hB, hWz⟩ hK
    rw [hys] at hrow
    have hc := hv.cell
    gi_wp2
    refine ⟨by simp, .inl ⟨_, _, rfl, run_takeDeferred hK, ?_⟩⟩
    exact ⟨_, results_tmp rfl _ _ _, v, rfl, ownsRow_putObj (ownsRow_less hrow (by omega)) _ hK rfl, hB.trans (belowK_b (w := w) (Nat.le_refl _) W D _ _ (by omega) hK rfl rfl)⟩
  case stop =>
    rintro D c pre W _ _ h _
    exact h.elim
end Go.Proofs.YtmkdmnaonddghaaDoor
