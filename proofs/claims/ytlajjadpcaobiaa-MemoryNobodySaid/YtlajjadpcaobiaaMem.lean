/- A memory: where it lies, what it tells, what a call leaves of it; its smallest functions. Conditions: none. -/
import Derived.Test.YtlajjadpcaobiaaPast
import Derived.Test.YtlajjadpcaobiaaOwn
import Derived.Test.YtlajjadpcaobiaaSmall
import Derived.Deep.RegionHeld3
namespace Go.Proofs.Ytlajjadpcaobiaa
open Go.RowKit Go.ChangeShapes Go.WideShapes

/-- A slice. -/
structure Sl where
  A : Option Addr
  n : Nat
  cap : Nat
def Sl.v (s : Sl) : Value := .slice s.A s.n s.cap
/-- What lies at m: a memory of p's places that tells f, with such changes. -/
structure MemG (w : World) (m h b : Nat) (sp sq : Sl) (p : Pg) (f : Pl → Option Wd) (P : List Ch) : Prop where
  mem : Blk w m 46 #[.pointer (some ⟨h, 0, none⟩)]
  held : Blk w h 62 #[sp.v, .map (some b), sq.v]
  map : MP w b 100 f
  places : w.ownsRow 0 27 3 sp.v sp.n (flatP (placesM p))
  past : Own 74 w 0 sq.A sq.n sq.cap P
/-- What lies at m is a memory of p behind such Puts. -/
structure Mem (w : World) (m h b : Nat) (sp sq : Sl) (p : Pg) (L : List Ch) : Prop where
  g : MemG w m h b sp sq p (memF p L) (pastP L)
  all : ∀ e ∈ L, thereP p e.x = true
/-- The blocks in which it lies; those that a call turns. -/
def foot (m h b : Nat) (sp sq : Sl) (g : Nat) : Prop := g = m ∨ g = h ∨ g = b ∨ lies sp.A g ∨ blk sq.A = some g
def turned (h b : Nat) (sq : Sl) (g : Nat) : Prop := g = h ∨ g = b ∨ blk sq.A = some g
section
variable {w w' w2 W : World} {m h b : Nat} {sp sq : Sl} {p : Pg} {f f' : Pl → Option Wd} {P P' : List Ch} {S : Nat → Prop}
theorem MemG.kept (q : MemG w m h b sp sq p f P) (hk : Kept S w w') (hS : ∀ g, foot m h b sp sq g → ¬ S g) : MemG w' m h b sp sq p f P :=
  ⟨q.mem.kept hk (hS m (.inl rfl)), q.held.kept hk (hS h (.inr (.inl rfl))), q.map.kept hk (hS b (.inr (.inr (.inl rfl)))),
    own_kept q.places hk (fun g hg => hS g (.inr (.inr (.inr (.inl hg))))), q.past.keeps hk (fun g hg => hS g (.inr (.inr (.inr (.inr hg)))))⟩
theorem MemG.on (q : MemG w m h b sp sq p f P) (hb : Below w.heap.size w w') : MemG w' m h b sp sq p f P := q.kept (kept_below (fun _ => False) hb) (fun _ _ h => h)
theorem MemG.lt (q : MemG w m h b sp sq p f P) {g : Nat} (hg : foot m h b sp sq g) : g < w.heap.size := by
  rcases hg with rfl | rfl | rfl | hg | hg
  · exact q.mem.lt
  · exact q.held.lt
  · exact q.map.lt
  · exact (q.places.lt g ((own_lies _ _ _ g).2 hg)).2
  · exact (q.past.lt hg).2
/-- No row of another type is one of its blocks. -/
theorem MemG.off (q : MemG w m h b sp sq p f P) {g : Nat} {t : TypeId} {cs : Array Value} (hg : Blk w g t cs) (h1 : t ≠ 46) (h2 : t ≠ 62) (h3 : t ≠ 27) (h4 : t ≠ 74) : ¬ foot m h b sp sq g := by
  rintro (rfl | rfl | rfl | h5 | h5)
  · exact hg.ne q.mem h1 rfl
  · exact hg.ne q.held h2 rfl
  · exact q.map.ne hg rfl
  · exact own_off q.places hg h3.symm h5
  · exact q.past.box hg h4 h5.symm
theorem turned_foot {g : Nat} (hg : turned h b sq g) : foot m h b sp sq g := hg.elim (fun e => .inr (.inl e)) (fun e => e.elim (fun e => .inr (.inr (.inl e))) (fun e => .inr (.inr (.inr (.inr e)))))
theorem kept_set {g i : Nat} {v : Value} (e : w.setCell ⟨g, i, none⟩ v = W) : Kept (fun k => k = g) w W := by
  subst e
  exact kept_cell w ⟨g, i, none⟩ v
/-- Another list of changes. -/
theorem MemG.push (q : MemG w m h b sp sq p f P) (hk : Kept (fun g => blk sq.A = some g) w w2) {A' : Option Addr} {n' c' : Nat} (ho : Own 74 w2 0 A' n' c' P') (e : w2.setCell ⟨h, 2, none⟩ (.slice A' n' c') = W) :
    MemG W m h b sp ⟨A', n', c'⟩ p f P' ∧ Kept (fun g => g = h ∨ blk sq.A = some g) w W := by
  have hm2 := q.mem.kept hk (fun e => q.past.box q.mem (by decide) e.symm)
  have hh2 := q.held.kept hk (fun e => q.past.box q.held (by decide) e.symm)
  have hb2 := q.map.kept hk (fun e => by
    rcases hA : sq.A with _ | ad
    · rw [hA] at e
      cases e
    · obtain ⟨g', o, cur, rfl, _, hcu, _⟩ := q.past.own _ hA
      rw [hA] at e
      injection e with e
      exact q.map.ne hcu e)
  have hp2 := own_kept q.places hk (fun g h1 h2 => by
    obtain ⟨cs, hcs⟩ := own_blk q.places h1
    exact q.past.box hcs (by decide) h2.symm)
  have ks := kept_set e
  refine ⟨⟨hm2.kept ks (hm2.ne hh2 (by decide)), set_named hh2 e rfl, hb2.kept ks (fun e => hb2.ne hh2 e.symm), own_kept hp2 ks (fun g h1 h2 => ?_), ho.keeps ks (fun g h1 h2 => ?_)⟩, (hk.more (fun g h => .inr h)).next ks (fun g h => .inl (.inl h))⟩
  · subst h2
    exact own_off hp2 hh2 (by decide) h1
  · subst h2
    exact ho.box hh2 (by decide) h1.symm
/-- The map turned. -/
theorem MemG.turn (q : MemG w m h b sp sq p f P) (hm : MP w' b 100 f') (hg : w.grownBy w' (some b)) : MemG w' m h b sp sq p f' P := by
  have hk : Kept (fun g => some b = some g) w w' := kept_grown hg
  refine ⟨q.mem.kept hk (fun e => ?_), q.held.kept hk (fun e => ?_), hm, own_kept q.places hk (fun g h1 e => ?_), q.past.keeps hk (fun g h1 e => ?_)⟩
  · injection e with e
    exact q.map.ne q.mem e.symm
  · injection e with e
    exact q.map.ne q.held e.symm
  · injection e with e
    obtain ⟨cs, hcs⟩ := own_blk q.places h1
    exact q.map.ne hcs e.symm
  · injection e with e
    rcases hA : sq.A with _ | ad
    · rw [hA] at h1
      cases h1
    · obtain ⟨g', o, cur, rfl, _, hcu, _⟩ := q.past.own _ hA
      rw [hA] at h1
      injection h1 with h1
      exact q.map.ne hcu (h1.trans e.symm)
end
section
variable {w w' : World} {m h b : Nat} {sp sq : Sl} {p : Pg} {L : List Ch} {S : Nat → Prop}
theorem Mem.mem (q : Mem w m h b sp sq p L) : Blk w m 46 #[.pointer (some ⟨h, 0, none⟩)] := q.g.mem
theorem Mem.held (q : Mem w m h b sp sq p L) : Blk w h 62 #[sp.v, .map (some b), sq.v] := q.g.held
theorem Mem.map (q : Mem w m h b sp sq p L) : MP w b 100 (memF p L) := q.g.map
theorem Mem.places (q : Mem w m h b sp sq p L) : w.ownsRow 0 27 3 sp.v sp.n (flatP (placesM p)) := q.g.places
theorem Mem.past (q : Mem w m h b sp sq p L) : Own 74 w 0 sq.A sq.n sq.cap (pastP L) := q.g.past
theorem Mem.kept (q : Mem w m h b sp sq p L) (hk : Kept S w w') (hS : ∀ g, foot m h b sp sq g → ¬ S g) : Mem w' m h b sp sq p L := ⟨q.g.kept hk hS, q.all⟩
theorem Mem.on (q : Mem w m h b sp sq p L) (hb : Below w.heap.size w w') : Mem w' m h b sp sq p L := ⟨q.g.on hb, q.all⟩
theorem Mem.len (q : Mem w m h b sp sq p L) : L.length = sq.n := by
  rw [← past_len]
  exact SeesC.len q.past.sees
theorem Mem.lt (q : Mem w m h b sp sq p L) {g : Nat} (hg : foot m h b sp sq g) : g < w.heap.size := q.g.lt hg
theorem Mem.row {g : Nat} {t : TypeId} {cs cs' : Array Value} (q : Mem w m h b sp sq p L) (hg : Blk w g t cs) (ht : t ≠ 46 ∧ t ≠ 62 ∧ t ≠ 27 ∧ t ≠ 74) (e : w.setRow g cs' = w') : Mem w' m h b sp sq p L := by
  have nf : ¬ foot m h b sp sq g := q.g.off hg ht.1 ht.2.1 ht.2.2.1 ht.2.2.2
  subst e
  exact q.kept (kept_row _ _ _) (fun g' hg' e => nf (by rw [← e]; exact hg'))
theorem Mem.set {g i : Nat} {v : Value} {t : TypeId} {cs : Array Value} (q : Mem w m h b sp sq p L) (hg : Blk w g t cs) (ht : t ≠ 46 ∧ t ≠ 62 ∧ t ≠ 27 ∧ t ≠ 74) (e : w.setCell ⟨g, i, none⟩ v = w') : Mem w' m h b sp sq p L := by
  have nf : ¬ foot m h b sp sq g := q.g.off hg ht.1 ht.2.1 ht.2.2.1 ht.2.2.2
  exact q.kept (kept_set e) (fun g' hg' e => nf (by rw [← e]; exact hg'))
theorem Mem.noturn {g : Nat} {t : TypeId} {cs : Array Value} (q : Mem w m h b sp sq p L) (hg : Blk w g t cs) (ht : t ≠ 62 ∧ t ≠ 74) : ¬ (g = h ∨ blk sq.A = some g) := fun e => e.elim (fun e => hg.ne q.g.held ht.1 e) (fun e => q.g.past.box hg ht.2 e.symm)
theorem Mem.off (q : Mem w m h b sp sq p L) {g : Nat} {t : TypeId} {cs : Array Value} (hg : Blk w g t cs) (h1 : t ≠ 46) (h2 : t ≠ 62) (h3 : t ≠ 27) (h4 : t ≠ 74) : ¬ foot m h b sp sq g := q.g.off hg h1 h2 h3 h4
end
section
variable {ops : Array Oper} {S : World → Prop} {o : Oper} {a : Act}
/-- 'm[x]' in a region that draws. -/
theorem yieldsIf_look (hw : Region.wanted o (yielded ops a.tmps) = true) (m x : Operand) (c : Bool) (ho : o.op = .lookup 58 m x c) (b : Nat) (k : Pl) (v : Value) (hm : a.eval m = .map (some b)) (hx : a.eval x = .agg k.cs.toArray)
    (hS : ∀ w, S w → (Instr.lookup 58 (.map (some b)) (.agg k.cs.toArray) c).run Try.prog w = .ok v w) : YieldsIf Try.prog ops S o v a :=
  .inl ⟨hw, fun w hw' => by
    unfold execOp
    simp only [ho, hm, hx, Sem.run_bind, Sem.run_pure, Result.andThen_ok, hS w hw']⟩
variable {w : World} {K : Act → World → Prop} {Q : Exit → Act → World → Prop}
/-- 'm[x] = v' of a place that is there; of any place. -/
theorem wp_update (m x v : Operand) (ho : o.op = .mapUpdate 58 m x v) {b n : Nat} {f : Pl → Option Wd} {k : Pl} {u : Wd} (hm : a.eval m = .map (some b)) (hx : a.eval x = .agg k.cs.toArray) (hv : a.eval v = .agg u.cs.toArray)
    (h : MP w b n f) (hk : k.Wide) (hf : (f k).isSome = true) (hn : n < maxLen) (hK : ∀ w', MP w' b n (upd f k u) → w.grownBy w' (some b) → w'.heap.size = w.heap.size → K (a.put o.dst undef) w') : o.wp Try.prog a w K Q := by
  obtain ⟨w', hr, h1, h2, h3⟩ := h.put hk hf u hn
  unfold Oper.wp
  simp [execOp, ho, hm, hx, hv, hr, Result.andThen]
  exact hK w' h1 h2 h3
theorem wp_enter (m x v : Operand) (ho : o.op = .mapUpdate 58 m x v) {b n : Nat} {f : Pl → Option Wd} {k : Pl} {u : Wd} (hm : a.eval m = .map (some b)) (hx : a.eval x = .agg k.cs.toArray) (hv : a.eval v = .agg u.cs.toArray)
    (h : MP w b n f) (hk : k.Wide) (hn : n < maxLen) (hK : ∀ w', MP w' b (n + 1) (upd f k u) → w.grownBy w' (some b) → w'.heap.size = w.heap.size → K (a.put o.dst undef) w') : o.wp Try.prog a w K Q := by
  obtain ⟨w', hr, h1, h2, h3⟩ := h.add hk u hn
  unfold Oper.wp
  simp [execOp, ho, hm, hx, hv, hr, Result.andThen]
  exact hK w' h1 h2 h3
end
set_option maxRecDepth 100000 in
set_option maxHeartbeats 4000000 in
theorem made_any {w : World} {m h : Nat} (hm : Blk w m 46 #[.pointer (some ⟨h, 0, none⟩)]) : Calls Try.prog 28 #[.pointer (some ⟨m, 0, none⟩)] w fun e w' => e = .returned (.bool true) ∧ w = w' := by
  have c0 : w.cell? ⟨m, 0, none⟩ = some (.pointer (some ⟨h, 0, none⟩)) := hm.cell 0
  go_enter Try.func28, Try.ntmps28
  go_wp2
  go_ret
  exact ⟨rfl, rfl⟩
set_option maxRecDepth 100000 in
set_option maxHeartbeats 4000000 in
theorem made_nil (w : World) : Calls Try.prog 28 #[.pointer none] w fun e w' => e = .returned (.bool false) ∧ w = w' := by
  go_enter Try.func28, Try.ntmps28
  go_wp2
  go_ret
  exact ⟨rfl, rfl⟩
set_option maxRecDepth 100000 in
set_option maxHeartbeats 4000000 in
theorem made_odd {w : World} {m : Nat} (hm : Blk w m 46 #[.pointer none]) : Calls Try.prog 28 #[.pointer (some ⟨m, 0, none⟩)] w fun e w' => e = .returned (.bool false) ∧ w = w' := by
  have c0 : w.cell? ⟨m, 0, none⟩ = some (.pointer none) := hm.cell 0
  go_enter Try.func28, Try.ntmps28
  go_wp2
  go_ret
  exact ⟨rfl, rfl⟩
set_option maxRecDepth 100000 in
set_option maxHeartbeats 4000000 in
theorem plain_any (n : Int) (w : World) : Calls Try.prog 24 #[.int .i64 n] w fun e w' => e = .returned (.agg (Wd.mk n 0 0).cs.toArray) ∧ Below w.heap.size w w' := by
  obtain ⟨p1, f1⟩ : ∃ p, w.heap.size = p := ⟨_, rfl⟩
  obtain ⟨W1, ea1⟩ : ∃ W, w.alloc (.cells #[.int .i64 0, .int .i64 0, .int .i64 0] 35) = W := ⟨_, rfl⟩
  have ka1 : Below w.heap.size w W1 := by rw [← ea1]; exact (Below.refl _ w).alloc (Nat.le_refl _) _
  have b1 : Blk W1 p1 35 #[.int .i64 0, .int .i64 0, .int .i64 0] := by rw [← ea1]; exact blk_new w _ 35 _ f1
  have kk : Below w.heap.size w W1 := ka1
  have hp1 : w.heap.size ≤ p1 := Nat.le_of_eq f1
  clear ka1
  obtain ⟨W2, es2⟩ : ∃ W, W1.setRow p1 (Wd.mk n 0 0).cs.toArray = W := ⟨_, rfl⟩
  have bo1 := b1
  replace b1 : Blk W2 p1 35 (Wd.mk n 0 0).cs.toArray := row_named b1 es2
  replace kk := kk.trans (row_below es2 hp1 kk.size)
  go_enter Try.func24, Try.ntmps24
  go_wp2_with (((with_reducible refine at_store 35 (.tmp 2) (.tmp 4) ?_); refine wpList_store_row rfl 35 (.tmp 2) (.tmp 4) rfl p1 (Wd.mk n 0 0).cs.toArray rfl rfl 35 #[.int .i64 0, .int .i64 0, .int .i64 0] bo1 size35 rfl (Wd.onea _) ?_; rw [es2]))
  refine bodyPost_ret (results_cell_row (cs := (Wd.mk n 0 0).cs.toArray) rfl _ _ p1 35 (0, 0) _ rfl b1 Try.underlying35 rfl size35) rfl ?_
  exact ⟨rfl, kk⟩
set_option maxRecDepth 100000 in
set_option maxHeartbeats 4000000 in
theorem stands_any (x : Pl) (w : World) : Calls Try.prog 23 #[.agg x.cs.toArray] w fun e w' => e = .returned (.bool (standsB x)) ∧ Below w.heap.size w w' := by
  obtain ⟨p1, f1⟩ : ∃ p, w.heap.size = p := ⟨_, rfl⟩
  obtain ⟨W1, ea1⟩ : ∃ W, w.alloc (.cells x.cs.toArray 27) = W := ⟨_, rfl⟩
  have ka1 : Below w.heap.size w W1 := by rw [← ea1]; exact (Below.refl _ w).alloc (Nat.le_refl _) _
  have b1 : Blk W1 p1 27 x.cs.toArray := by rw [← ea1]; exact blk_new w _ 27 _ f1
  have kk : Below w.heap.size w W1 := ka1
  have hp1 : w.heap.size ≤ p1 := Nat.le_of_eq f1
  clear ka1
  have c1 := holds_any x W1
  have lb1 := b1
  obtain ⟨B, eB⟩ : ∃ B, standsB x = B := ⟨_, rfl⟩
  rw [eB]
  unfold standsB at eB
  cases hh : holdsK x.k with
  | false =>
    rw [hh] at c1 eB
    subst eB
    clear hh
    go_enter Try.func23, Try.ntmps23
    go_wp2_with (first | (go_at_call 37; refine (c1).mono ?_; rintro e w2 ⟨rfl, k2⟩) | ((with_reducible refine at_load 27 (.tmp 1) ?_); refine wpList_load_row rfl 27 (.tmp 1) rfl p1 rfl 27 x.cs.toArray (0, 0) _ lb1 Try.underlying27 rfl size27 ?_))
    go_ret
    exact ⟨rfl, kk.trans (k2.mono kk.size)⟩
  | true =>
    rw [hh] at c1 eB
    rw [Bool.true_and] at eB
    clear hh
    go_enter Try.func23, Try.ntmps23
    go_wp2_with (first | (go_at_call 37; refine (c1).mono ?_; rintro e w2 ⟨rfl, k2⟩; have y0 : w2.cell? ⟨p1, 0, none⟩ = some (.int .i64 x.k) := (b1.on k2).cell 0) | ((with_reducible refine at_load 27 (.tmp 1) ?_); refine wpList_load_row rfl 27 (.tmp 1) rfl p1 rfl 27 x.cs.toArray (0, 0) _ lb1 Try.underlying27 rfl size27 ?_))
    go_ret
    exact ⟨by rw [← eB]; rfl, kk.trans (k2.mono kk.size)⟩
set_option maxRecDepth 100000 in
set_option maxHeartbeats 4000000 in
theorem fit_any (x : Pl) (v : Wd) (hk : x.k ≤ 8) (w : World) : Calls Try.prog 33 #[.agg x.cs.toArray, .agg v.cs.toArray] w fun e w' => e = .returned (.agg (fitW x v).cs.toArray) ∧ Below w.heap.size w w' := by
  obtain ⟨p1, f1⟩ : ∃ p, w.heap.size = p := ⟨_, rfl⟩
  obtain ⟨W1, ea1⟩ : ∃ W, w.alloc (.cells x.cs.toArray 27) = W := ⟨_, rfl⟩
  have ka1 : Below w.heap.size w W1 := by rw [← ea1]; exact (Below.refl _ w).alloc (Nat.le_refl _) _
  have b1 : Blk W1 p1 27 x.cs.toArray := by rw [← ea1]; exact blk_new w _ 27 _ f1
  have kk : Below w.heap.size w W1 := ka1
  have hp1 : w.heap.size ≤ p1 := Nat.le_of_eq f1
  clear ka1
  obtain ⟨p2, f2⟩ : ∃ p, W1.heap.size = p := ⟨_, rfl⟩
  obtain ⟨W2, ea2⟩ : ∃ W, W1.alloc (.cells v.cs.toArray 35) = W := ⟨_, rfl⟩
  have ka2 : Below W1.heap.size W1 W2 := by rw [← ea2]; exact (Below.refl _ W1).alloc (Nat.le_refl _) _
  have b2 : Blk W2 p2 35 v.cs.toArray := by rw [← ea2]; exact blk_new W1 _ 35 _ f2
  have q1_2 : p1 < p2 := by rw [← f2]; exact b1.lt
  replace b1 := b1.on ka2
  have kk0 := kk
  replace kk := kk.trans (ka2.mono kk.size)
  have hp2 : w.heap.size ≤ p2 := by rw [← f2]; exact kk0.size
  clear ka2 kk0
  obtain ⟨p3, f3⟩ : ∃ p, W2.heap.size = p := ⟨_, rfl⟩
  obtain ⟨W3, ea3⟩ : ∃ W, W2.alloc (.cells #[.int .i64 0, .int .i64 0, .int .i64 0] 35) = W := ⟨_, rfl⟩
  have ka3 : Below W2.heap.size W2 W3 := by rw [← ea3]; exact (Below.refl _ W2).alloc (Nat.le_refl _) _
  have b3 : Blk W3 p3 35 #[.int .i64 0, .int .i64 0, .int .i64 0] := by rw [← ea3]; exact blk_new W2 _ 35 _ f3
  have q1_3 : p1 < p3 := by rw [← f3]; exact b1.lt
  replace b1 := b1.on ka3
  have q2_3 : p2 < p3 := by rw [← f3]; exact b2.lt
  replace b2 := b2.on ka3
  have kk0 := kk
  replace kk := kk.trans (ka3.mono kk.size)
  have hp3 : w.heap.size ≤ p3 := by rw [← f3]; exact kk0.size
  clear ka3 kk0
  have c3_1_0 : W3.cell? ⟨p1, 0, none⟩ = some (.int .i64 x.k) := b1.cell 0
  have c3_2_0 : W3.cell? ⟨p2, 0, none⟩ = some (.int .i64 v.n) := b2.cell 0
  obtain ⟨V, eV⟩ : ∃ V, fitW x v = V := ⟨_, rfl⟩
  rw [eV]
  unfold fitW at eV
  obtain ⟨xk, xi, xj⟩ := x
  simp only at *
  by_cases h6 : 6 ≤ xk
  · rw [if_pos h6] at eV
    have h678 : xk = 6 ∨ xk = 7 ∨ xk = 8 := by omega
    clear h6 hk
    have c1 := fun W => plain_any v.n W
    rw [eV] at c1
    clear eV
    rcases h678 with rfl | rfl | rfl
    · go_enter Try.func33, Try.ntmps33
      go_wp2_with fail
      refine (c1 _).mono ?_
      rintro e W4 ⟨rfl, k4⟩
      replace b1 := b1.on k4
      replace b2 := b2.on k4
      replace b3 := b3.on k4
      replace kk := kk.trans (k4.mono kk.size)
      clear k4
      obtain ⟨W5, es5⟩ : ∃ W, W4.setRow p3 V.cs.toArray = W := ⟨_, rfl⟩
      have bo3 := b3
      replace b1 := row_far b1 es5 (by omega)
      replace b2 := row_far b2 es5 (by omega)
      replace b3 : Blk W5 p3 35 V.cs.toArray := row_named b3 es5
      replace kk := kk.trans (row_below es5 hp3 kk.size)
      go_wp2_with (((with_reducible refine at_store 35 (.tmp 4) (.tmp 13) ?_); refine wpList_store_row rfl 35 (.tmp 4) (.tmp 13) rfl p3 V.cs.toArray rfl rfl 35 #[.int .i64 0, .int .i64 0, .int .i64 0] bo3 size35 rfl (Wd.onea _) ?_; rw [es5]))
      refine bodyPost_ret (results_cell_row (cs := V.cs.toArray) rfl _ _ p3 35 (0, 0) _ rfl b3 Try.underlying35 rfl size35) rfl ?_
      exact ⟨rfl, kk⟩
    · go_enter Try.func33, Try.ntmps33
      go_wp2_with fail
      refine (c1 _).mono ?_
      rintro e W4 ⟨rfl, k4⟩
      replace b1 := b1.on k4
      replace b2 := b2.on k4
      replace b3 := b3.on k4
      replace kk := kk.trans (k4.mono kk.size)
      clear k4
      obtain ⟨W5, es5⟩ : ∃ W, W4.setRow p3 V.cs.toArray = W := ⟨_, rfl⟩
      have bo3 := b3
      replace b1 := row_far b1 es5 (by omega)
      replace b2 := row_far b2 es5 (by omega)
      replace b3 : Blk W5 p3 35 V.cs.toArray := row_named b3 es5
      replace kk := kk.trans (row_below es5 hp3 kk.size)
      go_wp2_with (((with_reducible refine at_store 35 (.tmp 4) (.tmp 13) ?_); refine wpList_store_row rfl 35 (.tmp 4) (.tmp 13) rfl p3 V.cs.toArray rfl rfl 35 #[.int .i64 0, .int .i64 0, .int .i64 0] bo3 size35 rfl (Wd.onea _) ?_; rw [es5]))
      refine bodyPost_ret (results_cell_row (cs := V.cs.toArray) rfl _ _ p3 35 (0, 0) _ rfl b3 Try.underlying35 rfl size35) rfl ?_
      exact ⟨rfl, kk⟩
    · go_enter Try.func33, Try.ntmps33
      go_wp2_with fail
      refine (c1 _).mono ?_
      rintro e W4 ⟨rfl, k4⟩
      replace b1 := b1.on k4
      replace b2 := b2.on k4
      replace b3 := b3.on k4
      replace kk := kk.trans (k4.mono kk.size)
      clear k4
      obtain ⟨W5, es5⟩ : ∃ W, W4.setRow p3 V.cs.toArray = W := ⟨_, rfl⟩
      have bo3 := b3
      replace b1 := row_far b1 es5 (by omega)
      replace b2 := row_far b2 es5 (by omega)
      replace b3 : Blk W5 p3 35 V.cs.toArray := row_named b3 es5
      replace kk := kk.trans (row_below es5 hp3 kk.size)
      go_wp2_with (((with_reducible refine at_store 35 (.tmp 4) (.tmp 13) ?_); refine wpList_store_row rfl 35 (.tmp 4) (.tmp 13) rfl p3 V.cs.toArray rfl rfl 35 #[.int .i64 0, .int .i64 0, .int .i64 0] bo3 size35 rfl (Wd.onea _) ?_; rw [es5]))
      refine bodyPost_ret (results_cell_row (cs := V.cs.toArray) rfl _ _ p3 35 (0, 0) _ rfl b3 Try.underlying35 rfl size35) rfl ?_
      exact ⟨rfl, kk⟩
  · rw [if_neg h6] at eV
    subst eV
    obtain ⟨t6, t7, t8⟩ : (xk == 6) = false ∧ (xk == 7) = false ∧ (xk == 8) = false := by
      simp only [beq_eq_false_iff_ne]
      omega
    clear h6 hk
    have lb2 := b2
    go_enter Try.func33, Try.ntmps33
    obtain ⟨W4, es4⟩ : ∃ W, W3.setRow p3 v.cs.toArray = W := ⟨_, rfl⟩
    have bo3 := b3
    replace b1 := row_far b1 es4 (by omega)
    replace b2 := row_far b2 es4 (by omega)
    replace b3 : Blk W4 p3 35 v.cs.toArray := row_named b3 es4
    replace kk := kk.trans (row_below es4 hp3 kk.size)
    go_wp2_with (first | ((with_reducible refine at_load 35 (.tmp 3) ?_); refine wpList_load_row rfl 35 (.tmp 3) rfl p2 rfl 35 v.cs.toArray (0, 0) _ lb2 Try.underlying35 rfl size35 ?_) | ((with_reducible refine at_store 35 (.tmp 4) (.tmp 14) ?_); refine wpList_store_row rfl 35 (.tmp 4) (.tmp 14) rfl p3 v.cs.toArray rfl rfl 35 #[.int .i64 0, .int .i64 0, .int .i64 0] bo3 size35 rfl (Wd.onea _) ?_; rw [es4]))
    refine bodyPost_ret (results_cell_row (cs := v.cs.toArray) rfl _ _ p3 35 (0, 0) _ rfl b3 Try.underlying35 rfl size35) rfl ?_
    exact ⟨rfl, kk⟩
end Go.Proofs.Ytlajjadpcaobiaa
