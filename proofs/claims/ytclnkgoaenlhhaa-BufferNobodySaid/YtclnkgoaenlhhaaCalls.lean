/- The small calls of a buffer, and a new one: contracts. Conditions: none. -/
import Derived.Test.YtclnkgoaenlhhaaChan
import Derived.WalkSpells
import Derived.Conc.LoneSelectN
import Derived.Conc.SmallLaws
namespace Go.Proofs.Ytclnkgoaenlhhaa
open Go.RowKit Go.Conc

theorem len_chan (w : World) (c cap : Nat) (xs : List Ent) (h : Holds w c cap xs) (ty : TypeId) : (Builtin.len_ #[43] ty #[.chan (some c)]).run Try.prog w = .ok (.int .i64 (xs.length : Int)) w := by
  obtain ⟨s, r, hc⟩ := h.block
  have := run_len_chan (P := Try.prog) (w := w) 43 ty Try.underlying43 hc
  simpa [ents, goInt] using this
theorem cap_chan (w : World) (c cap : Nat) (xs : List Ent) (h : Holds w c cap xs) (ty : TypeId) : (Builtin.cap_ #[43] ty #[.chan (some c)]).run Try.prog w = .ok (.int .i64 (cap : Int)) w := by
  obtain ⟨s, r, hc⟩ := h.block
  have := run_cap_chan (P := Try.prog) (w := w) 43 ty Try.underlying43 hc
  simpa [goInt] using this
theorem len_nil (w : World) (ty : TypeId) : (Builtin.len_ #[43] ty #[.chan none]).run Try.prog w = .ok (.int .i64 0) w := by
  simp [Builtin.len_, run_underlying Try.underlying43, goInt]
theorem cap_nil (w : World) (ty : TypeId) : (Builtin.cap_ #[43] ty #[.chan none]).run Try.prog w = .ok (.int .i64 0) w := by
  simp [Builtin.cap_, run_underlying Try.underlying43, goInt]

theorem length_any (c cap : Nat) (xs : List Ent) (w : World) (h : Holds w c cap xs) :
    Calls Try.prog 30 #[.chan (some c)] w fun e w' => e = .returned (.int .i64 (xs.length : Int)) ∧ w = w' := by
  have hl := len_chan w c cap xs h
  go_enter Try.func30, Try.ntmps30
  go_wp2
  go_ret
  exact ⟨rfl, rfl⟩
theorem size_any (c cap : Nat) (xs : List Ent) (w : World) (h : Holds w c cap xs) :
    Calls Try.prog 25 #[.chan (some c)] w fun e w' => e = .returned (.int .i64 (cap : Int)) ∧ w = w' := by
  have hl := cap_chan w c cap xs h
  go_enter Try.func25, Try.ntmps25
  go_wp2
  go_ret
  exact ⟨rfl, rfl⟩
theorem length_nil (w : World) :
    Calls Try.prog 30 #[.chan none] w fun e w' => e = .returned (.int .i64 0) ∧ w = w' := by
  have hl := len_nil
  go_enter Try.func30, Try.ntmps30
  go_wp2
  go_ret
  exact ⟨rfl, rfl⟩
theorem size_nil (w : World) :
    Calls Try.prog 25 #[.chan none] w fun e w' => e = .returned (.int .i64 0) ∧ w = w' := by
  have hl := cap_nil
  go_enter Try.func25, Try.ntmps25
  go_wp2
  go_ret
  exact ⟨rfl, rfl⟩
theorem neq_chan (o : Option Nat) (w : World) : (binOp .neq 43 (.chan o) (.chan none)).run Try.prog w = .ok (.bool o.isSome) w := by
  have he : ∀ d, (Op.equalIn (d + 1) 43 (.chan o) (.chan none)).run Try.prog w = .ok (o.isNone) w := by
    intro d
    cases o <;> simp [Op.equalIn, run_underlying Try.underlying43]
  have he' : (Op.equal 43 (.chan o) (.chan none)).run Try.prog w = .ok (o.isNone) w := by
    unfold Op.equal
    exact he _
  cases o <;> simp_all [binOp, go_sem]
theorem made_any (c : Nat) (w : World) :
    Calls Try.prog 24 #[.chan (some c)] w fun e w' => e = .returned (.bool true) ∧ w = w' := by
  have hn := neq_chan (some c)
  simp only [Option.isSome_some] at hn
  go_enter Try.func24, Try.ntmps24
  go_wp2
  go_ret
  exact ⟨rfl, rfl⟩
theorem made_nil (w : World) :
    Calls Try.prog 24 #[.chan none] w fun e w' => e = .returned (.bool false) ∧ w = w' := by
  have hn := neq_chan none
  simp only [Option.isSome_none] at hn
  go_enter Try.func24, Try.ntmps24
  go_wp2
  go_ret
  exact ⟨rfl, rfl⟩
theorem row_nil (w : World) :
    Calls Try.prog 23 #[.pointer none] w fun e w' => e = .returned (.chan none) ∧ w = w' := by
  go_enter Try.func23, Try.ntmps23
  go_wp2
  go_ret
  exact ⟨rfl, rfl⟩
theorem row_any (p : Nat) (o : Option Nat) (w : World) (h : w.cell? ⟨p, 0, none⟩ = some (.chan o)) :
    Calls Try.prog 23 #[.pointer (some ⟨p, 0, none⟩)] w fun e w' => e = .returned (.chan o) ∧ w = w' := by
  have hlt := World.block_lt_of_cell? w _ h
  go_enter Try.func23, Try.ntmps23
  go_wp2
  go_ret
  exact ⟨rfl, rfl⟩

/-- The buffer at block p has room for cap stores in the channel c, and xs wait in it. -/
structure Buf (w : World) (p c cap : Nat) (xs : List Ent) : Prop where
  box : Blk w p 45 #[.chan (some c)]
  holds : Holds w c cap xs
  most : cap ≤ 4
section
variable {w w' : World} {p c cap : Nat} {xs : List Ent}
theorem Buf.lt (h : Buf w p c cap xs) : p < w.heap.size := h.box.lt
theorem Buf.apart (h : Buf w p c cap xs) : p ≠ c := by
  intro e
  obtain ⟨s, r, hc⟩ := h.holds.block
  have hb := h.box
  unfold Blk at hb
  rw [← e, hb] at hc
  cases hc
theorem Buf.kept {row : Option Nat} (h : Buf w p c cap xs) (hg : w.grownBy w' row) (hp : some p ≠ row) (hc : some c ≠ row) : Buf w' p c cap xs :=
  ⟨blk_grown h.box hg hp, h.holds.kept hg hc, h.most⟩
theorem Buf.below (h : Buf w p c cap xs) (hb : Below w.heap.size w w') : Buf w' p c cap xs := h.kept (grown_below hb none) (by simp) (by simp)
theorem Buf.turned {ys : List Ent} (h : Buf w p c cap xs) (hg : w.grownBy w' (some c)) (hh : Holds w' c cap ys) : Buf w' p c cap ys :=
  ⟨blk_grown h.box hg (by simpa using h.apart), hh, h.most⟩
theorem Buf.row (h : Buf w p c cap xs) : Calls Try.prog 23 #[.pointer (some ⟨p, 0, none⟩)] w fun e w' => e = .returned (.chan (some c)) ∧ w = w' :=
  row_any p (some c) w (h.box.cell 0)
theorem Buf.len (h : Buf w p c cap xs) : xs.length ≤ 4 := Nat.le_trans h.holds.fits h.most
end
theorem below_grown {a b c : World} {row : Option Nat} (h : Below a.heap.size a b) (k : b.grownBy c row) : a.grownBy c row := (grown_below h row).trans k

set_option maxHeartbeats 4000000 in
theorem pop_buf (p c cap : Nat) (xs : List Ent) (w : World) (h : Buf w p c cap xs) :
    Calls Try.prog 12 #[.pointer (some ⟨p, 0, none⟩)] w fun e w' => e = .returned (.tuple #[.agg (xs.headD noE).cs.toArray, .bool (!xs.isEmpty)]) ∧ Buf w' p c cap xs.tail ∧ w.grownBy w' (some c) := by
  have hb0 : Below w.heap.size w (w.alloc (.cells noE.cs.toArray 35)) := (Below.refl _ w).alloc (Nat.le_refl _) _
  have h0 := h.below hb0
  have ht := take_any c cap xs _ h0.holds
  have hr := h0.row
  have hx0 : Blk (w.alloc (.cells noE.cs.toArray 35)) w.heap.size 35 noE.cs.toArray := blk_new w _ _ _ rfl
  obtain ⟨Y, hY⟩ : ∃ Y, xs.headD noE = Y := ⟨_, rfl⟩
  obtain ⟨t, hte⟩ : ∃ t, (!xs.isEmpty) = t := ⟨_, rfl⟩
  obtain ⟨tl, htl⟩ : ∃ tl, xs.tail = tl := ⟨_, rfl⟩
  rw [hY, hte, htl] at ht
  rw [hY, hte, htl]
  clear hY hte htl
  have hcl := h0.holds.lt
  have hcw := h.holds.lt
  go_enter Try.func12, Try.ntmps12
  go_wp2_with fail
  refine hr.mono ?_
  rintro e w1 ⟨rfl, rfl⟩
  go_wp2_with fail
  refine ht.mono ?_
  rintro e w2 ⟨rfl, h2, hg2⟩
  have hx2 : Blk w2 w.heap.size 35 noE.cs.toArray := blk_grown hx0 hg2 (by intro e; injection e with e; omega)
  go_wp2_with (refine wpList_store_row rfl 35 (.tmp 2) (.tmp 7) rfl w.heap.size Y.cs.toArray rfl rfl 35 noE.cs.toArray hx2 (load35 Y) rfl Y.onea ?_)
  have hx3 : Blk (w2.setRow w.heap.size Y.cs.toArray) w.heap.size 35 Y.cs.toArray := setRow_heap _ _ _ _ _ _ hx2
  have hb3 : Below w.heap.size w2 (w2.setRow w.heap.size Y.cs.toArray) := below_setRow (Below.refl _ _) (Nat.le_refl _) _
  have hg3 : w.grownBy (w2.setRow w.heap.size Y.cs.toArray) (some c) := grown_then (below_grown hb0 hg2) hb3
  have h3 : Holds (w2.setRow w.heap.size Y.cs.toArray) c cap tl := by
    obtain ⟨s', r', hc'⟩ := h2.block
    exact ⟨⟨s', r', (hb3.block c hcw).trans hc'⟩, h2.fits⟩
  have hres := run_loadVar_row (P := Try.prog) _ w.heap.size 35 35 _ (0, 0) _ hx3 Try.underlying35 rfl (load35 Y)
  refine bodyPost_ret (v := .tuple #[.agg Y.cs.toArray, .bool t]) (by simp [results, Try.f12, asAddr, hres]) rfl ?_
  exact ⟨rfl, ⟨(blk_grown h.box hg3 (by simpa using h.apart)), h3, h.most⟩, hg3⟩
theorem len_buf (p c cap : Nat) (xs : List Ent) (w : World) (h : Buf w p c cap xs) :
    Calls Try.prog 15 #[.pointer (some ⟨p, 0, none⟩)] w fun e w' => e = .returned (.int .i64 (xs.length : Int)) ∧ w = w' := by
  go_enter Try.func15, Try.ntmps15
  go_wp2_with (first
    | (go_at_call 23; refine h.row.mono ?_; rintro e w1 ⟨rfl, rfl⟩)
    | (go_at_call 30; refine (length_any c cap xs _ h.holds).mono ?_; rintro e w2 ⟨rfl, rfl⟩))
  go_ret
  exact ⟨rfl, rfl⟩
theorem full_buf (p c cap : Nat) (xs : List Ent) (w : World) (h : Buf w p c cap xs) (b : Bool) (hb : ((xs.length : Int) == (cap : Int)) = b) :
    Calls Try.prog 17 #[.pointer (some ⟨p, 0, none⟩)] w fun e w' => e = .returned (.bool b) ∧ w = w' := by
  have hl := length_any c cap xs w h.holds
  generalize (xs.length : Int) = n at hl hb
  have hs := size_any c cap xs w h.holds
  generalize (cap : Int) = m at hs hb
  go_enter Try.func17, Try.ntmps17
  go_wp2_with (first
    | (go_at_call 23; refine h.row.mono ?_; rintro e w1 ⟨rfl, rfl⟩)
    | (go_at_call 25; refine hs.mono ?_; rintro e w1 ⟨rfl, rfl⟩)
    | (go_at_call 30; refine hl.mono ?_; rintro e w2 ⟨rfl, rfl⟩))
  go_ret
  exact ⟨rfl, rfl⟩
set_option maxHeartbeats 4000000 in
theorem push_buf (p c cap : Nat) (x : Ent) (xs : List Ent) (w : World) (h : Buf w p c cap xs) :
    Calls Try.prog 14 #[.pointer (some ⟨p, 0, none⟩), .agg x.cs.toArray] w fun e w' => e = .returned (.bool (decide (xs.length < cap))) ∧ Buf w' p c cap (putN cap xs x) ∧ w.grownBy w' (some c) := by
  obtain ⟨W0, eW0⟩ : ∃ W, W = w.alloc (.cells x.cs.toArray 35) := ⟨_, rfl⟩
  have hb0 : Below w.heap.size w W0 := by rw [eW0]; exact (Below.refl _ w).alloc (Nat.le_refl _) _
  have hx0 : Blk W0 w.heap.size 35 x.cs.toArray := by rw [eW0]; exact blk_new w _ _ _ rfl
  have h0 := h.below hb0
  have hcw := h.holds.lt
  obtain ⟨t, ht⟩ : ∃ t, decide (xs.length < cap) = t := ⟨_, rfl⟩
  have hput := fun W (hW : Buf W p c cap xs) => put_any c cap x xs W hW.holds
  rw [ht] at hput
  rw [ht]
  have HT := Lib.hid ht
  clear ht
  go_enter Try.func14, Try.ntmps14
  go_wp2_with fail
  rw [← eW0]
  have hgw : w.grownBy W0 (some c) := grown_below hb0 _
  generalize w.heap.size = z at hx0 hcw hb0 ⊢
  refine wp_region_noPanic ?_
  refine wp_region_held_drew (S := (fun W => Blk W z 35 x.cs.toArray)) (by kernel_rfl) hx0 (fun hHeld => ?_)
  have h1 : Buf W0.drew p c cap xs := h0.below (Below.refl _ _).drew
  have hgr : Below W0.heap.size W0 W0.drew := (Below.refl _ _).drew
  have hS1 : Blk W0.drew z 35 x.cs.toArray := hx0.on hgr
  generalize W0.drew = W1 at hHeld h1 hgr hS1 ⊢
  refine wpAnyH_take (i := 0) (oi := ⟨some 5, _, _, _, _, _⟩) (v := ?_) rfl (by kernel_rfl) (by kernel_rfl) (by kernel_rfl) (fun _ _ _ h => h) (Or.inl ⟨by rfl, ?_⟩) (by assumption) ?_
  rotate_left 1
  · (intro W hSw; go_simp <;> with_reducible rfl)
  try simp only [Act.put, List.setIfInBounds_toArray, List.set_cons_zero, List.set_cons_succ]
  refine wpAnyH_take (i := 2) (oi := ⟨some 7, _, _, _, _, _⟩) (v := .agg (List.toArray (x.cs))) rfl (by kernel_rfl) (by kernel_rfl) (by kernel_rfl) (fun _ _ _ h => h) (yieldsIf_load_mid (by rfl) 35 (.tmp 3) rfl z (0) rfl (x.cs) _ (fun W hW => range_blk hW) Try.underlying35 rfl (load35 x)) (by assumption) ?_
  try simp only [Act.put, List.setIfInBounds_toArray, List.set_cons_zero, List.set_cons_succ]
  refine wpAnyH_ready (rs := [1]) (by kernel_rfl) (by simp) ?_
  refine AllReadyH.cons rfl (fun K hK => ?_) AllReadyH.nil
  go_simp
  refine (h1.row).mono ?_
  rintro e W2 ⟨rfl, rfl⟩
  have hKeep := hS1
  refine hK.out _ _ ?_ (fun hHeld1 => ?_)
  · exact hKeep
  clear hHeld hK K hKeep
  try simp only [Act.put, List.setIfInBounds_toArray, List.set_cons_zero, List.set_cons_succ]
  have hput1 := hput W1 h1
  refine wpAnyH_ready (rs := [3]) (by kernel_rfl) (by simp) ?_
  refine AllReadyH.cons rfl (fun K hK => ?_) AllReadyH.nil
  go_simp
  refine (hput1).mono ?_
  rintro e W2 ⟨rfl, h2, hg2⟩
  have hKeep : Blk W2 z 35 x.cs.toArray := blk_grown hS1 hg2 (by intro e; injection e with e; omega)
  refine hK.out _ _ ?_ (fun hHeld2 => ?_)
  · exact hKeep
  clear hHeld1 hK K hKeep
  try simp only [Act.put, List.setIfInBounds_toArray, List.set_cons_zero, List.set_cons_succ]
  refine wpAnyH_take (i := 4) (oi := ⟨some 4, _, _, _, _, _⟩) (v := ?_) rfl (by kernel_rfl) (by kernel_rfl) (by kernel_rfl) (fun _ _ _ h => h) (Or.inl ⟨by rfl, ?_⟩) (by assumption) ?_
  rotate_left 1
  · (intro W hSw; go_simp <;> with_reducible rfl)
  try simp only [Act.put, List.setIfInBounds_toArray, List.set_cons_zero, List.set_cons_succ]
  refine wpAnyH_done (by kernel_rfl) ?_ _
  refine NoPanic.normal ?_
  go_wp2
  go_ret
  exact ⟨rfl, h1.turned hg2 h2, hgw.trans ((grown_below hgr _).trans hg2)⟩

/-- The nearest number from 0 to 4. -/
def near (n : Int) : Nat := if n < 0 then 0 else if 4 < n then 4 else n.toNat
theorem near_le (n : Int) : near n ≤ 4 := by
  unfold near
  split
  · omega
  · split <;> omega
theorem clamp_any (n : Int) (w : World) : Calls Try.prog 20 #[.int .i64 n, .int .i64 0, .int .i64 4] w fun e w' => e = .returned (.int .i64 (near n : Int)) ∧ w = w' := by
  by_cases h1 : n < 0
  · have e : (near n : Int) = 0 := by simp [near, h1]
    rw [e]
    go_enter Try.func20, Try.ntmps20
    go_wp2
    go_ret
    exact ⟨rfl, rfl⟩
  · by_cases h2 : 4 < n
    · have e : (near n : Int) = 4 := by simp [near, h1, h2]
      rw [e]
      have h3 : decide (n < 0) = false := by simp; omega
      clear h1
      go_enter Try.func20, Try.ntmps20
      go_wp2
      go_ret
      exact ⟨rfl, rfl⟩
    · have e : (near n : Int) = n := by simp [near, h1, h2]; omega
      rw [e]
      have h3 : decide (n < 0) = false := by simp; omega
      have h4 : decide (4 < n) = false := by simp; omega
      clear h1 h2
      go_enter Try.func20, Try.ntmps20
      go_wp2
      go_ret
      exact ⟨rfl, rfl⟩
theorem near_any (n : Int) (w : World) : Calls Try.prog 8 #[.int .i64 n, .int .i64 0, .int .i64 4] w fun e w' => e = .returned (.int .i64 (near n : Int)) ∧ w = w' := by
  by_cases h1 : n < 0
  · have e : (near n : Int) = 0 := by simp [near, h1]
    rw [e]
    go_enter Try.func8, Try.ntmps8
    go_wp2
    go_ret
    exact ⟨rfl, rfl⟩
  · by_cases h2 : 4 < n
    · have e : (near n : Int) = 4 := by simp [near, h1, h2]
      rw [e]
      have h3 : decide (n < 0) = false := by simp; omega
      clear h1
      go_enter Try.func8, Try.ntmps8
      go_wp2
      go_ret
      exact ⟨rfl, rfl⟩
    · have e : (near n : Int) = n := by simp [near, h1, h2]; omega
      rw [e]
      have h3 : decide (n < 0) = false := by simp; omega
      have h4 : decide (4 < n) = false := by simp; omega
      clear h1 h2
      go_enter Try.func8, Try.ntmps8
      go_wp2
      go_ret
      exact ⟨rfl, rfl⟩

theorem make_chan (k : Nat) (hk : k ≤ 4) (w : World) : (Instr.makeChan 43 (.int .i64 (k : Int))).run Try.prog w = .ok (.chan (some w.heap.size)) (w.alloc (.chan k #[] false 0 0 false)) := by
  have h : (Try.prog.info? 35).map (·.bytes) = some 64 := by kernel_rfl
  obtain ⟨i, hi, hb⟩ := Option.map_eq_some_iff.1 h
  exact run_makeChan (P := Try.prog) (w := w) Try.underlying43 hi .i64 k (by omega) (by rw [hb]; omega)

theorem newRow_any (k : Nat) (hk : k ≤ 4) (w : World) : Calls Try.prog 19 #[.int .i64 (k : Int)] w fun e w' => ∃ c, e = .returned (.chan (some c)) ∧ Holds w' c k [] ∧ w.heap.size ≤ c ∧ Below w.heap.size w w' := by
  have hmc := make_chan k hk
  go_enter Try.func19, Try.ntmps19
  go_wp2
  go_ret
  refine ⟨w.heap.size, rfl, ⟨⟨0, 0, ?_⟩, Nat.zero_le _⟩, Nat.le_refl _, (Below.refl _ w).alloc (Nat.le_refl _) _⟩
  have := heap_alloc_new w (.chan k #[] false 0 0 false)
  simpa [ents] using this

theorem new_any (n : Int) (w : World) : Calls Try.prog 7 #[.int .i64 n] w fun e w' => ∃ p c, e = .returned (.pointer (some ⟨p, 0, none⟩)) ∧ Buf w' p c (near n) [] ∧ w.heap.size ≤ p ∧ w.heap.size ≤ c ∧ Below w.heap.size w w' := by
  have hk := near_le n
  go_enter Try.func7, Try.ntmps7
  go_wp2_with (first
    | (go_at_call 20; refine (clamp_any n _).mono ?_; rintro e w' ⟨rfl, rfl⟩)
    | (go_at_call 19; refine (newRow_any _ hk _).mono ?_; rintro e w1 ⟨c, rfl, h1, hc1, hb1⟩))
  go_ret
  have hs := hb1.size
  have hb2 := (Below.refl w1.heap.size w1).alloc (Nat.le_refl _) (.cells #[.chan (some c)] 45)
  exact ⟨w1.heap.size, c, rfl, ⟨blk_new w1 _ _ _ rfl, h1.below hb2, hk⟩, hs, hc1, hb1.trans (hb2.mono hs)⟩
/-- An entry of root 0 with a number; the plain word. -/
def atE (n : Int) : Ent := ⟨⟨1, 0, 0⟩, ⟨n, 0, 0⟩, 0, 0⟩
theorem at_any (n : Int) (w : World) : Calls Try.prog 18 #[.int .i64 n] w fun e w' => e = .returned (.agg (atE n).cs.toArray) ∧ Below w.heap.size w w' := by
  go_enter Try.func18, Try.ntmps18
  go_wp2
  refine bodyPost_ret (results_cell_row (cs := (atE n).cs.toArray) rfl _ _ w.heap.size 35 (0, 0) _ rfl (heap_alloc_new w _) Try.underlying35 rfl (by kernel_rfl)) rfl ?_
  exact ⟨rfl, (Below.refl _ w).alloc (Nat.le_refl _) _⟩
theorem plain_any (n : Int) (w : World) : Calls Try.prog 28 #[.int .i64 n] w fun e w' => e = .returned (.agg #[.int .i64 n, .int .i64 0, .int .i64 0]) ∧ Below w.heap.size w w' := by
  go_enter Try.func28, Try.ntmps28
  go_wp2
  refine bodyPost_ret (results_cell_row (cs := #[.int .i64 n, .int .i64 0, .int .i64 0]) rfl _ _ w.heap.size 33 (0, 0) _ rfl (heap_alloc_new w _) Try.underlying33 rfl (by kernel_rfl)) rfl ?_
  exact ⟨rfl, (Below.refl _ w).alloc (Nat.le_refl _) _⟩
end Go.Proofs.Ytclnkgoaenlhhaa
