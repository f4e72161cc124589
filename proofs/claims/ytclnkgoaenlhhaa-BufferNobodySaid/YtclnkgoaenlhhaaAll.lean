/- All stores of a buffer, as a list of the call's own: the row goes round once. Conditions: none. -/
import Derived.Test.YtclnkgoaenlhhaaCalls
import Derived.Maps.Range
import Derived.Below
import Derived.Deep.QuietTactic
import Derived.BigQuiet
namespace Go.Proofs.Ytclnkgoaenlhhaa
open Go.RowKit Go.Conc

/-- One entry further round. -/
theorem round_one (xs : List Ent) (k : Nat) (hk : k < xs.length) : xs.drop k ++ xs.take k = xs.getD k noE :: (xs.drop (k + 1) ++ xs.take k) ∧ (xs.drop (k + 1) ++ xs.take k) ++ [xs.getD k noE] = xs.drop (k + 1) ++ xs.take (k + 1) ∧ xs.take k ++ [xs.getD k noE] = xs.take (k + 1) := by
  have e : xs.getD k noE = xs[k] := by simp [List.getD, List.getElem?_eq_getElem hk]
  rw [e, List.drop_eq_getElem_cons hk, List.take_succ_eq_append_getElem hk]
  exact ⟨rfl, by simp, rfl⟩
theorem own_lower {w : World} {base base' k : Nat} {t : TypeId} {v : Value} {n : Nat} {vs : List Value} (h : w.ownsRow base t k v n vs) (hb : base' ≤ base) : w.ownsRow base' t k v n vs := by
  refine ⟨h.1, ?_⟩
  rcases h.2 with hn | ⟨g, cap, cur, hv, hg, rest⟩
  · exact .inl hn
  · exact .inr ⟨g, cap, cur, hv, Nat.le_trans hb hg, rest⟩
/-- How it stands behind k rounds. -/
structure Gone (w wr : World) (c cap : Nat) (xs : List Ent) (k : Nat) (v : Value) : Prop where
  own : wr.ownsRow w.heap.size 35 8 v k (flatE (xs.take k))
  holds : Holds wr c cap (xs.drop k ++ xs.take k)
  grown : w.grownBy wr (some c)
theorem Gone.far {w wr : World} {c cap k : Nat} {xs : List Ent} {v : Value} (h : Gone w wr c cap xs k v) (hc : c < w.heap.size) : v.ownBlock ≠ some c := fun e => by
  have := (h.own.lt c e).1
  omega

set_option maxRecDepth 100000 in
set_option maxHeartbeats 4000000 in
theorem all_row (c cap : Nat) (xs : List Ent) (w : World) (h : Holds w c cap xs) (hm : cap ≤ 4) :
    Calls Try.prog 31 #[.chan (some c)] w fun e w' => ∃ v, e = .returned v ∧ w'.ownsRow w.heap.size 35 8 v xs.length (flatE xs) ∧ Holds w' c cap xs ∧ w.grownBy w' (some c) := by
  obtain ⟨i0, hi, hz0, hz1, hz2⟩ := info_parts info35
  have hlt := h.lt
  have hf := h.fits
  obtain ⟨n, hn⟩ : ∃ n, n = xs.length := ⟨_, rfl⟩
  have hl : ∀ w, Holds w c cap xs → Calls Try.prog 30 #[.chan (some c)] w fun e w' => e = .returned (.int .i64 (n : Int)) ∧ w = w' := by
    rw [hn]
    exact fun w h => length_any c cap xs w h
  have hn256 : (n : Int) ≤ 4 := by omega
  have HN := Lib.hid hn
  have HF := Lib.hid hf
  have HM := Lib.hid hm
  clear hn hf hm
  have HI := Lib.hid hi
  have HZ0 := Lib.hid hz0
  have HZ1 := Lib.hid hz1
  have HZ2 := Lib.hid hz2
  clear hi hz0 hz1 hz2
  go_enter Try.func31, Try.ntmps31
  go_wp2_with fail
  refine (hl _ h).mono ?_
  rintro e w' ⟨rfl, rfl⟩
  go_wp2_with (first
    | (at_make; refine wpList_make_own _ rfl _ _ 27 rfl w.heap.size 35 i0 (.agg noE.cs.toArray) 8 Try.underlying27 HI.out HZ0.out HZ1.out .i64 .i64 _ n rfl rfl (by omega) (by rw [HZ2.out]; omega) (by unfold maxLen; omega) (by omega) ?_; intro w2 hown2 hg2))
  have hh2 := h.kept hg2 (by simp)
  refine (hl _ hh2).mono ?_
  rintro e w' ⟨rfl, rfl⟩
  have H0 : Gone w w2 c cap xs 0 (.slice (some ⟨w.heap.size, 0, none⟩) 0 n) :=
    ⟨by simpa [flatE] using hown2, by simpa using hh2, hg2.but _⟩
  clear hown2 hg2 hh2
  go_wp2_with fail
  go_loopw [3, 11] (fun v i wr => ∃ k : Nat, k ≤ n ∧ i = .int .i64 k ∧ Gone w wr c cap xs k v) (fun _ i _ => n - (intOf i).toNat)
  case atStart => exact ⟨0, Nat.zero_le _, rfl, H0⟩
  case round =>
    obtain ⟨k, hk, rfl, HG⟩ := hrel
    clear H0
    by_cases hlk : k < n
    · obtain ⟨e1, e2, e3⟩ := round_one xs k (by rw [← HN.out]; exact hlk)
      have hh := HG.holds
      rw [e1] at hh
      have E2 := Lib.hid e2
      have E3 := Lib.hid e3
      clear e1 e2 e3
      obtain ⟨x, hxx⟩ : ∃ x, x = xs.getD k noE := ⟨_, rfl⟩
      rw [← hxx] at hh E2 E3
      have HX := Lib.hid hxx
      clear hxx
      have hln : (xs.drop (k + 1) ++ xs.take k).length < cap := by
        have := hh.fits
        simp only [List.length_cons] at this
        omega
      have hcr := hh.lt
      go_wp2_with fail
      refine (take_first c cap x _ wr hh).mono ?_
      rintro e w4 ⟨rfl, hh4, hg4⟩
      have hs4 := hg4.size
      obtain ⟨w5, ew5⟩ : ∃ W, (w4.alloc (.cells #[.int .i64 0, .int .i64 0, .int .i64 0, .int .i64 0, .int .i64 0, .int .i64 0, .int .i64 0, .int .i64 0] 35)).setRow w4.heap.size x.cs.toArray = W := ⟨_, rfl⟩
      have hx4 : Blk (w4.alloc (.cells #[.int .i64 0, .int .i64 0, .int .i64 0, .int .i64 0, .int .i64 0, .int .i64 0, .int .i64 0, .int .i64 0] 35)) w4.heap.size 35 noE.cs.toArray := blk_new _ _ _ _ rfl
      have hx5 : Blk w5 w4.heap.size 35 x.cs.toArray := by rw [← ew5]; exact setRow_heap _ _ _ _ _ _ hx4
      have hb5 : Below w4.heap.size w4 w5 := by rw [← ew5]; exact below_setRow ((Below.refl _ _).alloc (Nat.le_refl _) _) (Nat.le_refl _) _
      have hh5 := hh4.below hb5
      have hput := put_room c cap x _ w5 hh5 hln
      rw [E2.out] at hput
      have ho5 : w5.ownsRow w.heap.size 35 8 u3 k (flatE (xs.take k)) := ownB_below (HG.own.kept hg4 (.inr (HG.far hlt))) hb5
      have hf5 : u3.ownBlock ≠ some c := HG.far hlt
      have hg5 : w.grownBy w5 (some c) := HG.grown.trans (hg4.trans (grown_below hb5 _))
      have hs5 : w4.heap.size < w5.heap.size := hx5.lt
      have hwr : w.heap.size ≤ wr.heap.size := HG.grown.size
      have hxo : u3.ownBlock ≠ some w4.heap.size := fun e => by
        have := (HG.own.lt _ e).2
        omega
      go_wp2_with (first
        | (refine wpList_store_row rfl 35 (.tmp 4) (.tmp 16) rfl w4.heap.size x.cs.toArray rfl rfl 35 noE.cs.toArray hx4 (load35 x) rfl x.onea ?_; rw [ew5])
        | (refine wpList_load_mid rfl 35 (.tmp 4) rfl w4.heap.size 0 rfl x.cs _ (range_blk hx5) Try.underlying35 rfl (load35 x) ?_))
      clear ew5 hx4
      generalize w4.heap.size = z at *
      refine hput.mono ?_
      rintro e w6 ⟨rfl, hh6, hg6⟩
      have hx6 : Blk w6 z 35 x.cs.toArray := blk_grown hx5 hg6 (by intro e; injection e with e; omega)
      have ho6 := ho5.kept hg6 (.inr hf5)
      have hg6' := hg5.trans hg6
      go_wp2_with (first
        | (refine wpList_load_mid rfl 35 (.tmp 4) rfl z 0 rfl [.int .i64 x.x.k, .int .i64 x.x.i, .int .i64 x.x.j, .int .i64 x.v.n, .int .i64 x.v.c, .int .i64 x.v.g, .int .i64 x.g, .int .i64 x.p] _ (range_blk hx6) Try.underlying35 rfl (load35 x) ?_)
        | (at_builtin; refine wpList_append_own _ rfl (.tmp 21) (.tmp 23) 27 rfl w.heap.size 35 i0 (.agg noE.cs.toArray) 8 64 Try.underlying27 HI.out HZ0.out HZ1.out HZ2.out rfl (by decide) _ _ _ rfl (ho6.alloc _) ⟨w6.heap.size, 0, none⟩ 1 1 [.int .i64 x.x.k, .int .i64 x.x.i, .int .i64 x.x.j, .int .i64 x.v.n, .int .i64 x.v.c, .int .i64 x.v.g, .int .i64 x.g, .int .i64 x.p] rfl rfl (World.news_of_block (cs := #[.int .i64 x.x.k, .int .i64 x.x.i, .int .i64 x.x.j, .int .i64 x.v.n, .int .i64 x.v.c, .int .i64 x.v.g, .int .i64 x.g, .int .i64 x.p]) (t := 35) (fr := (0, 0)) (heap_alloc_new w6 _)) x.one (by unfold maxLen; omega) (by omega) (by have := hg6'.size; simp; omega) ?_; intro v7 w7 ho7 hg7 _))
      replace hg7 : (w6.alloc (.cells #[.int .i64 x.x.k, .int .i64 x.x.i, .int .i64 x.x.j, .int .i64 x.v.n, .int .i64 x.v.c, .int .i64 x.v.g, .int .i64 x.g, .int .i64 x.p] 35)).grownBy w7 u3.ownBlock := hg7
      have eX : flatE (xs.take k) ++ [.int .i64 x.x.k, .int .i64 x.x.i, .int .i64 x.x.j, .int .i64 x.v.n, .int .i64 x.v.c, .int .i64 x.v.g, .int .i64 x.g, .int .i64 x.p] = flatE (xs.take k ++ [x]) := (flatE_snoc _ _).symm
      rw [eX, E3.out] at ho7
      have HG7 : Gone w w7 c cap xs (k + 1) v7 :=
        ⟨ho7, (hh6.kept (World.grownBy_alloc w6 _ none) (by simp)).kept hg7 (fun e => hf5 e.symm), (hg6'.trans (World.grownBy_alloc w6 _ _)).andThen hg7 (fun j hj => by
          have := (ho6.lt j hj).1
          left
          omega)⟩
      clear hg7 ho7 hh6 ho6 hx6 hg6' HG eX
      go_roundw
      case rel => exact ⟨k + 1, by omega, by go_num, HG7⟩
      case measure => simp [intOf]; omega
    · have ek : k = n := by omega
      subst ek
      go_wp2
      go_ret
      have hl := HN.out
      have e1 : xs.take k = xs := List.take_of_length_le (by omega)
      have e2 : xs.drop k = [] := List.drop_eq_nil_of_le (by omega)
      have ho := HG.own
      have hh := HG.holds
      rw [e1] at ho hh
      rw [e2] at hh
      refine ⟨_, rfl, ?_, by simpa using hh, HG.grown⟩
      rw [← hl]
      exact ho
theorem all_buf (p c cap : Nat) (xs : List Ent) (w : World) (h : Buf w p c cap xs) :
    Calls Try.prog 16 #[.pointer (some ⟨p, 0, none⟩)] w fun e w' => ∃ A cp, e = .returned (.slice A xs.length cp) ∧ w'.ownsRow w.heap.size 35 8 (.slice A xs.length cp) xs.length (flatE xs) ∧ Buf w' p c cap xs ∧ w.grownBy w' (some c) := by
  have hr := all_row c cap xs w h.holds h.most
  generalize xs.length = n at hr ⊢
  go_enter Try.func16, Try.ntmps16
  go_wp2_with (first
    | (go_at_call 23; refine h.row.mono ?_; rintro e w1 ⟨rfl, rfl⟩)
    | (go_at_call 31; refine hr.mono ?_; rintro e w2 ⟨v, rfl, ho2, h2, hg2⟩))
  go_ret
  rcases id ho2.2 with ⟨rfl, h0⟩ | ⟨g, cp, cur, rfl, _⟩
  · rw [h0] at ho2 ⊢
    exact ⟨none, 0, rfl, ho2, h.turned hg2 h2, hg2⟩
  · exact ⟨_, cp, rfl, ho2, h.turned hg2 h2, hg2⟩
end Go.Proofs.Ytclnkgoaenlhhaa
