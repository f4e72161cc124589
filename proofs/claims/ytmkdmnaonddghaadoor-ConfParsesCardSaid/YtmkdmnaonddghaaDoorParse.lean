/- What conf's Parse answers of any text. Conditions: the variables lie as they are laid; texts of at most 100000 octets. -/
import Derived.Test.YtmkdmnaonddghaaDoorNamed
import Derived.Test.YtmkdmnaonddghaaDoorGet
import Derived.Deep.DeepCutAuto
namespace Go.Proofs.YtmkdmnaonddghaaDoor
open Go.RowKit Nine

theorem cell_blk {w w' : World} (p : Addr) (h : w'.heap[p.block]? = w.heap[p.block]?) : w'.cell? p = w.cell? p := by
  unfold World.cell?
  simp only [h]
theorem parts_lens (c : UInt8) : ∀ (n : Nat) (l x : List UInt8), x ∈ partsF c n l → x.length ≤ l.length
  | 0, _, _, h => by simp [partsF] at h
  | n + 1, l, x, h => by
    by_cases e : l = []
    · simp [partsF, e] at h
    · simp only [partsF, e, if_false] at h
      rcases List.mem_cons.1 h with rfl | h
      · exact (List.takeWhile_sublist _).length_le
      · have h1 := parts_lens c n _ _ h
        have h2 := drop_len c l e
        omega
theorem words_len (l : List UInt8) : ∀ x ∈ wordsL l, x.length ≤ l.length := fun _ hx => parts_lens 32 _ _ _ (List.mem_filter.1 hx).1
/-- What instr answers. -/
theorem res17 (tmps : Array Value) (w : World) (g h : Nat) (cs ds : Array Value) (u : Value) (h2 : tmps[2]?.getD undef = .pointer (some ⟨g, 0, none⟩)) (h3 : tmps[3]?.getD undef = .pointer (some ⟨h, 0, none⟩)) (h4 : tmps[4]?.getD undef = u)
    (hg : Blk w g 23 cs) (hh : Blk w h 25 ds) (hc : cs.size = 5) (hd : ds.size = 3) :
    (results Tryd.f17 tmps).run Tryd.prog w = .ok (.tuple #[.agg cs, .agg ds, u]) w := by
  have hr : Tryd.f17.results = #[.cell 2 23, .cell 3 25, .tmp 4] := by kernel_rfl
  have l1 := run_loadVar_row w g 23 23 cs (0, 0) _ hg Tryd.underlying23 rfl (by rw [info23, hc])
  have l2 := run_loadVar_row w h 25 25 ds (0, 0) _ hh Tryd.underlying25 rfl (by rw [info25, hd])
  simp only [results, hr]
  simp [Sem.run_bind, Result.andThen, h2, h3, h4, asAddr, l1, l2]
/-- Within Parse: the results in C and C + 1, the words in G, whether all were good so far in F. -/
structure Ps (w : World) (G F : Nat) (cs : List Value) (b : Bool) (wr : World) : Prop where
  form : Blk wr F 4 #[.bool b]
  row : ∀ (j : Nat) (v : Value), cs[j]? = some v → wr.cell? ⟨G, j, none⟩ = some v
  glt : G < wr.heap.size
  cfg : Blk wr w.heap.size 23 #[.int .i64 0, .int .i64 0, .int .i64 0, .int .i64 0, .int .i64 0]
  ask : Blk wr (w.heap.size + 1) 25 #[.int .i64 0, .int .i64 0, .bool false]
  laid : Laid wr
  bel : Below w.heap.size w wr
  big : 6 ≤ w.heap.size
  cg : w.heap.size + 1 < G
  gF : G < F
theorem Ps.took {w wr w' : World} {G F : Nat} {cs : List Value} {b b' : Bool} (h : Ps w G F cs b wr) (hF : Blk w' F 4 #[.bool b']) (hg : wr.grownBy w' (some F)) : Ps w G F cs b' w' := by
  have h1 := h.cg
  have h2 := h.gF
  have h3 := h.big
  refine ⟨hF, fun j v hv => ?_, Nat.lt_of_lt_of_le h.glt hg.size, (hg.block _ h.cfg.lt (by simp; omega)).trans h.cfg, (hg.block _ h.ask.lt (by simp; omega)).trans h.ask, h.laid.below ((Below.refl 6 wr).grown hg (Nat.le_trans h3 h.bel.size) (fun j hj => by injection hj with hj; omega)) (Nat.le_refl _), h.bel.grown hg h.bel.size (fun j hj => by injection hj with hj; omega), h3, h1, h2⟩
  exact (cell_blk ⟨G, j, none⟩ (hg.block G h.glt (by simp; omega))).trans (h.row j v hv)
theorem Ps.more {w wr w' : World} {G F : Nat} {cs : List Value} {b : Bool} (h : Ps w G F cs b wr) (hb : Below wr.heap.size wr w') : Ps w G F cs b w' :=
  ⟨h.form.below hb h.form.lt, fun j v hv => (hb.cell (p := ⟨G, j, none⟩) h.glt).trans (h.row j v hv), Nat.lt_of_lt_of_le h.glt hb.size, h.cfg.below hb h.cfg.lt, h.ask.below hb h.ask.lt, h.laid.on hb, h.bel.trans (hb.mono h.bel.size), h.big, h.cg, h.gF⟩
theorem Ps.set_ {w wr : World} {G F P : Nat} {cs : List Value} {b : Bool} (h : Ps w G F cs b wr) (hP : F < P) (ds : Array Value) : Ps w G F cs b (wr.setRow P ds) := by
  have h1 := h.cg
  have h2 := h.gF
  have h3 := h.big
  have e : ∀ k, k ≠ P → (wr.setRow P ds).heap[k]? = wr.heap[k]? := fun k hk => setRow_other wr P k ds hk
  refine ⟨(e F (by omega)).trans h.form, fun j v hv => (cell_blk ⟨G, j, none⟩ (e G (by omega))).trans (h.row j v hv), by simpa using h.glt, (e _ (by omega)).trans h.cfg, (e _ (by omega)).trans h.ask, h.laid.below (below_setRow (Below.refl 6 wr) (by omega) ds) (Nat.le_refl _), below_setRow h.bel (by omega) ds, h3, h1, h2⟩
theorem row8 {w : World} {base : Nat} {v : Value} {xs : List Value} (h : w.ownsRow base 9 1 v 8 xs) : ∃ g cap, v = .slice (some ⟨g, 0, none⟩) 8 cap ∧ 8 ≤ cap ∧ cap ≤ maxLen ∧ base ≤ g ∧ g < w.heap.size ∧ ∀ (j : Nat) (u : Value), xs[j]? = some u → w.cell? ⟨g, j, none⟩ = some u := by
  rcases id h.2 with ⟨_, h0⟩ | ⟨g, cap, cur, rfl, hb, hg, hnc, hcm, hcs, ht⟩
  · cases h0
  · refine ⟨g, cap, rfl, hnc, hcm, hb, (Array.getElem?_eq_some_iff.1 hg).1, fun j u hu => ?_⟩
    have := h.cells (g := g) rfl j u hu
    rw [plain_add] at this
    simpa using this
def GoodW (ws : List (List UInt8)) : Prop := ws.length = 8 ∧ formP ws = true ∧ chkB (cfgP ws) (askP ws) = 0
/-- What Parse answers. -/
def Parsed (ws : List (List UInt8)) (w : World) (e : Ending) (w' : World) : Prop :=
  ((∃ y : Int, (y = 1 ∨ y = 3) ∧ ¬ GoodW ws ∧ e = .returned (.tuple #[.agg #[.int .i64 0, .int .i64 0, .int .i64 0, .int .i64 0, .int .i64 0], .agg #[.int .i64 0, .int .i64 0, .bool false], .int .i64 y])) ∨
   (GoodW ws ∧ e = .returned (.tuple #[.agg #[.int .i64 (cfgP ws).s, .int .i64 (cfgP ws).o, .int .i64 (cfgP ws).t, .int .i64 (cfgP ws).f, .int .i64 (cfgP ws).d], .agg #[.int .i64 (askP ws).m, .int .i64 (askP ws).b, .bool (askP ws).st], .int .i64 0]))) ∧ Below w.heap.size w w'
set_option maxRecDepth 100000 in
set_option maxHeartbeats 2000000 in
theorem parse_any (s : ByteArray) (hs : s.size ≤ 100000) (w : World) (hL : Laid w) : Calls Tryd.prog 17 #[.string s] w (Parsed (wordsL (oct s)) w) := by
  have hF := fun W => front_any s hs 9 (by omega) W
  have hbig := hL.big
  obtain ⟨fl, efl⟩ : ∃ l, frontL 9 (oct s) = l := ⟨_, rfl⟩
  have hfw := frontL_words 9 (oct s)
  have hfl : fl.length ≤ 100000 := by
    rw [← efl]
    unfold frontL
    rw [List.length_take, oct_len]
    omega
  rw [efl] at hF hfw
  have hWd := fun W => words_any (txt fl) (by rw [txt_size]; exact hfl) W
  rw [oct_txt, hfw] at hWd
  have hlen : ((wordsL (oct s)).take 9).length = 8 ↔ (wordsL (oct s)).length = 8 := by rw [List.length_take]; omega
  have hsh : ∀ x ∈ wordsL (oct s), x.length ≤ 100000 := fun x hx => by
    have h1 := words_len _ x hx
    rw [oct_len] at h1
    omega
  generalize wordsL (oct s) = ws at *
  clear hfw efl
  obtain ⟨W, eW⟩ : ∃ W, W = (w.alloc (.cells #[.int .i64 0, .int .i64 0, .int .i64 0, .int .i64 0, .int .i64 0] 23)).alloc (.cells #[.int .i64 0, .int .i64 0, .bool false] 25) := ⟨_, rfl⟩
  have hb : Below w.heap.size w W := by rw [eW]; exact ((Below.refl _ w).alloc (Nat.le_refl _) _).alloc (by simp) _
  have hC0 : Blk W w.heap.size 23 #[.int .i64 0, .int .i64 0, .int .i64 0, .int .i64 0, .int .i64 0] := by rw [eW]; exact Blk.below (heap_alloc_new w _) ((Below.refl _ _).alloc (Nat.le_refl _) _) (by simp)
  have hA0 : Blk W (w.heap.size + 1) 25 #[.int .i64 0, .int .i64 0, .bool false] := by rw [eW]; exact heap_alloc2_new w _ _
  have hsz : W.heap.size = w.heap.size + 2 := by rw [eW]; simp
  have hmf : ∀ (fn : Fn) (first cap : Array Value) (w : World), (Instr.makeFunc fn first cap).run Tryd.prog w = .ok (.func fn first cap) w := fun _ _ _ _ => rfl
  go_enter Tryd.func17, Tryd.ntmps17
  go_wp2_with fail
  rw [← eW]
  clear eW
  refine (hF W).mono ?_
  rintro e w1 ⟨rfl, hb1⟩
  go_wp2_with fail
  refine (hWd w1).mono ?_
  rintro e w2 ⟨v, rfl, hown, hb2⟩
  have hb12 := hb1.trans (hb2.mono hb1.size)
  have hC2 := hC0.below hb12 hC0.lt
  have hA2 := hA0.below hb12 hA0.lt
  have hq2 := hb.trans (hb12.mono hb.size)
  have hs2 := hb1.size
  by_cases h8 : ws.length = 8
  · have e9 : ws.take 9 = ws := List.take_of_length_le (by omega)
    rw [e9, h8] at hown
    obtain ⟨G, cap, rfl, hc1, hc2, hG1, hG2, hrow⟩ := row8 hown
    clear hown hlen e9
    obtain ⟨x0, x1, x2, x3, x4, x5, x6, x7, rfl⟩ : ∃ x0 x1 x2 x3 x4 x5 x6 x7, ws = [x0, x1, x2, x3, x4, x5, x6, x7] := by
      match ws, h8 with
      | [a, b, c, d, e, f, g, h], _ => exact ⟨a, b, c, d, e, f, g, h, rfl⟩
    have hx := fun (x : List UInt8) (h : x ∈ [x0, x1, x2, x3, x4, x5, x6, x7]) => hsh x h
    obtain ⟨F, eF⟩ : ∃ F, w2.heap.size = F := ⟨_, rfl⟩
    obtain ⟨V0, eV0⟩ : ∃ V, V = w2.alloc (.cells #[.bool true] 4) := ⟨_, rfl⟩
    have bV0 : Below w2.heap.size w2 V0 := by rw [eV0]; exact (Below.refl _ w2).alloc (Nat.le_refl _) _
    have hPs : Ps w G F (vals [x0, x1, x2, x3, x4, x5, x6, x7]) true V0 := by
      refine ⟨by rw [eV0, ← eF]; exact heap_alloc_new w2 _, fun j u hu => (bV0.cell (p := ⟨G, j, none⟩) hG2).trans (hrow j u hu), Nat.lt_of_lt_of_le hG2 bV0.size, hC2.below bV0 hC2.lt, hA2.below bV0 hA2.lt, (hL.on hq2).on bV0, hq2.trans (bV0.mono hq2.size), hbig, by omega, by omega⟩
    clear hrow hC2 hA2 hC0 hA0 hq2 hb12 hb1 hb2 bV0 hsh hF hWd hb
    obtain ⟨v0, ev0⟩ : ∃ v, (numK 0 x0).1 = v := ⟨_, rfl⟩
    obtain ⟨v1, ev1⟩ : ∃ v, (numK 1 x1).1 = v := ⟨_, rfl⟩
    obtain ⟨v2, ev2⟩ : ∃ v, boundI (numL x2).1 = v := ⟨_, rfl⟩
    obtain ⟨v3, ev3⟩ : ∃ v, boundI (numL x3).1 = v := ⟨_, rfl⟩
    obtain ⟨v4, ev4⟩ : ∃ v, boundI (numL x4).1 = v := ⟨_, rfl⟩
    obtain ⟨v5, ev5⟩ : ∃ v, (numK 2 x5).1 = v := ⟨_, rfl⟩
    obtain ⟨v6, ev6⟩ : ∃ v, boundI (numL x6).1 = v := ⟨_, rfl⟩
    obtain ⟨v7, ev7⟩ : ∃ v, (numK 3 x7).1 = v := ⟨_, rfl⟩
    have P0 := fun b W hL hB => pname_any 0 (by omega) x0 F b W hL hB
    have P1 := fun b W hL hB => pname_any 1 (by omega) x1 F b W hL hB
    have P2 := fun b W hL hB => pnum_any x2 (hx x2 (by simp)) F b W hL hB
    have P3 := fun b W hL hB => pnum_any x3 (hx x3 (by simp)) F b W hL hB
    have P4 := fun b W hL hB => pnum_any x4 (hx x4 (by simp)) F b W hL hB
    have P5 := fun b W hL hB => pname_any 2 (by omega) x5 F b W hL hB
    have P6 := fun b W hL hB => pnum_any x6 (hx x6 (by simp)) F b W hL hB
    have P7 := fun b W hL hB => pname_any 3 (by omega) x7 F b W hL hB
    rw [ev0] at P0
    rw [ev1] at P1
    rw [ev2] at P2
    rw [ev3] at P3
    rw [ev4] at P4
    rw [ev5] at P5
    rw [ev6] at P6
    rw [ev7] at P7
    have hcf : cfgP [x0, x1, x2, x3, x4, x5, x6, x7] = ⟨v0, v1, v2, v3, v4⟩ := by rw [← ev0, ← ev1, ← ev2, ← ev3, ← ev4]; rfl
    have haf : askP [x0, x1, x2, x3, x4, x5, x6, x7] = ⟨v5, v6, v7 == 1⟩ := by rw [← ev5, ← ev6, ← ev7]; rfl
    have hff : formP [x0, x1, x2, x3, x4, x5, x6, x7] = ((((((((true && (numK 0 x0).2) && (numK 1 x1).2) && (numL x2).2) && (numL x3).2) && (numL x4).2) && (numK 2 x5).2) && (numL x6).2) && (numK 3 x7).2) := rfl
    clear ev0 ev1 ev2 ev3 ev4 ev5 ev6 ev7
    generalize (numK 0 x0).2 = o0 at *
    generalize (numK 1 x1).2 = o1 at *
    generalize (numL x2).2 = o2 at *
    generalize (numL x3).2 = o3 at *
    generalize (numL x4).2 = o4 at *
    generalize (numK 2 x5).2 = o5 at *
    generalize (numL x6).2 = o6 at *
    generalize (numK 3 x7).2 = o7 at *
    have HGW : Hid (GoodW [x0, x1, x2, x3, x4, x5, x6, x7] ↔ (((((((((true && o0) && o1) && o2) && o3) && o4) && o5) && o6) && o7) = true ∧ chkB ⟨v0, v1, v2, v3, v4⟩ ⟨v5, v6, v7 == 1⟩ = 0)) := Lib.hid (by
      unfold GoodW
      rw [hcf, haf, hff]
      exact ⟨fun h => h.2, fun h => ⟨rfl, h⟩⟩)
    have HCF := Lib.hid hcf
    have HAF := Lib.hid haf
    clear hcf haf hff hx h8
    have hV : vals [x0, x1, x2, x3, x4, x5, x6, x7] = [.string (txt x0), .string (txt x1), .string (txt x2), .string (txt x3), .string (txt x4), .string (txt x5), .string (txt x6), .string (txt x7)] := rfl
    rw [hV] at hPs
    clear hV
    have hS : ∀ (b : Bool) (W : World), Ps w G F [.string (txt x0), .string (txt x1), .string (txt x2), .string (txt x3), .string (txt x4), .string (txt x5), .string (txt x6), .string (txt x7)] b W → (W.cell? ⟨G, 0, none⟩ = some (.string (txt x0)) ∧ W.cell? ⟨G, 1, none⟩ = some (.string (txt x1)) ∧ W.cell? ⟨G, 2, none⟩ = some (.string (txt x2)) ∧ W.cell? ⟨G, 3, none⟩ = some (.string (txt x3)) ∧ W.cell? ⟨G, 4, none⟩ = some (.string (txt x4)) ∧ W.cell? ⟨G, 5, none⟩ = some (.string (txt x5)) ∧ W.cell? ⟨G, 6, none⟩ = some (.string (txt x6)) ∧ W.cell? ⟨G, 7, none⟩ = some (.string (txt x7))) := fun b W h => ⟨h.row 0 _ rfl, h.row 1 _ rfl, h.row 2 _ rfl, h.row 3 _ rfl, h.row 4 _ rfl, h.row 5 _ rfl, h.row 6 _ rfl, h.row 7 _ rfl⟩
    have bd : ∀ W : World, Below W.heap.size W W.drew := fun W => ⟨rfl, rfl, rfl, Nat.le_refl _, fun _ _ => rfl⟩
    generalize hCS : ([.string (txt x0), .string (txt x1), .string (txt x2), .string (txt x3), .string (txt x4), .string (txt x5), .string (txt x6), .string (txt x7)] : List Value) = CS at *
    clear hCS
    have HS := Lib.hid hS
    clear hS
    go_wp2_with fail
    rw [← eV0]
    clear eV0
    go_cut [9] (fun s9 wx => ∃ P, s9 = .pointer (some ⟨P, 0, none⟩) ∧ F < P ∧ Blk wx P 23 #[.int .i64 v0, .int .i64 v1, .int .i64 v2, .int .i64 v3, .int .i64 v4] ∧ Ps w G F CS (((((true && o0) && o1) && o2) && o3) && o4) wx)
    case first =>
      refine wp_region_noPanic ?_
      refine wp_region_held_drew (S := fun W => W.cell? ⟨G, 0, none⟩ = some (.string (txt x0)) ∧ W.cell? ⟨G, 1, none⟩ = some (.string (txt x1)) ∧ W.cell? ⟨G, 2, none⟩ = some (.string (txt x2)) ∧ W.cell? ⟨G, 3, none⟩ = some (.string (txt x3)) ∧ W.cell? ⟨G, 4, none⟩ = some (.string (txt x4)) ∧ W.cell? ⟨G, 5, none⟩ = some (.string (txt x5)) ∧ W.cell? ⟨G, 6, none⟩ = some (.string (txt x6)) ∧ W.cell? ⟨G, 7, none⟩ = some (.string (txt x7))) (by kernel_rfl) (HS.out _ _ (hPs.more (bd V0))) (fun hHeld => ?_)
      have q0 := hPs.more (bd V0)
      clear hPs
      generalize V0.drew = y at *
      refine wpAnyH_take (i := 0) (oi := ⟨some 22, _, _, _, _, _⟩) (v := ?_) rfl (by kernel_rfl) (by kernel_rfl) (by kernel_rfl) (fun _ _ _ h => h) (Or.inl ⟨by rfl, ?_⟩) (by assumption) ?_
      rotate_left 1
      · (intro W hSw; go_simp <;> with_reducible rfl)
      try simp only [Act.put, List.setIfInBounds_toArray, List.set_cons_zero, List.set_cons_succ]
      refine wpAnyH_take (i := 1) (oi := ⟨some 23, _, _, _, _, _⟩) (v := ?_) rfl (by kernel_rfl) (by kernel_rfl) (by kernel_rfl) (fun _ _ _ h => h) (Or.inl ⟨by rfl, ?_⟩) (by assumption) ?_
      rotate_left 1
      · (intro W hSw; go_simp <;> with_reducible rfl)
      try simp only [Act.put, List.setIfInBounds_toArray, List.set_cons_zero, List.set_cons_succ]
      refine wpAnyH_take (i := 2) (oi := ⟨some 24, _, _, _, _, _⟩) (v := ?_) rfl (by kernel_rfl) (by kernel_rfl) (by kernel_rfl) (fun _ _ _ h => h) (Or.inl ⟨by rfl, ?_⟩) (by assumption) ?_
      rotate_left 1
      · (intro W hSw; go_simp <;> with_reducible rfl)
      try simp only [Act.put, List.setIfInBounds_toArray, List.set_cons_zero, List.set_cons_succ]
      refine wpAnyH_take (i := 3) (oi := ⟨some 25, _, _, _, _, _⟩) (v := ?_) rfl (by kernel_rfl) (by kernel_rfl) (by kernel_rfl) (fun _ _ _ h => h) (Or.inl ⟨by rfl, ?_⟩) (by assumption) ?_
      rotate_left 1
      · (intro W hSw; go_simp <;> with_reducible rfl)
      try simp only [Act.put, List.setIfInBounds_toArray, List.set_cons_zero, List.set_cons_succ]
      refine wpAnyH_take (i := 5) (oi := ⟨some 27, _, _, _, _, _⟩) (v := ?_) rfl (by kernel_rfl) (by kernel_rfl) (by kernel_rfl) (fun _ _ _ h => h) (Or.inl ⟨by rfl, ?_⟩) (by assumption) ?_
      rotate_left 1
      · (intro W hSw; go_simp <;> with_reducible rfl)
      try simp only [Act.put, List.setIfInBounds_toArray, List.set_cons_zero, List.set_cons_succ]
      refine wpAnyH_take (i := 6) (oi := ⟨some 28, _, _, _, _, _⟩) (v := ?_) rfl (by kernel_rfl) (by kernel_rfl) (by kernel_rfl) (fun _ _ _ h => h) (Or.inl ⟨by rfl, ?_⟩) (by assumption) ?_
      rotate_left 1
      · (intro W hSw; go_simp <;> with_reducible rfl)
      try simp only [Act.put, List.setIfInBounds_toArray, List.set_cons_zero, List.set_cons_succ]
      refine wpAnyH_take (i := 7) (oi := ⟨some 29, _, _, _, _, _⟩) (v := ?_) rfl (by kernel_rfl) (by kernel_rfl) (by kernel_rfl) (fun _ _ _ h => h) (Or.inl ⟨by rfl, ?_⟩) (by assumption) ?_
      rotate_left 1
      · (intro W hSw; go_simp <;> with_reducible rfl)
      try simp only [Act.put, List.setIfInBounds_toArray, List.set_cons_zero, List.set_cons_succ]
      refine wpAnyH_take (i := 8) (oi := ⟨some 30, _, _, _, _, _⟩) (v := ?_) rfl (by kernel_rfl) (by kernel_rfl) (by kernel_rfl) (fun _ _ _ h => h) (Or.inl ⟨by rfl, ?_⟩) (by assumption) ?_
      rotate_left 1
      · (intro W hSw; go_simp <;> with_reducible rfl)
      try simp only [Act.put, List.setIfInBounds_toArray, List.set_cons_zero, List.set_cons_succ]
      refine wpAnyH_take (i := 10) (oi := ⟨some 32, _, _, _, _, _⟩) (v := ?_) rfl (by kernel_rfl) (by kernel_rfl) (by kernel_rfl) (fun _ _ _ h => h) (Or.inl ⟨by rfl, ?_⟩) (by assumption) ?_
      rotate_left 1
      · (intro W hSw; go_simp <;> with_reducible rfl)
      try simp only [Act.put, List.setIfInBounds_toArray, List.set_cons_zero, List.set_cons_succ]
      refine wpAnyH_take (i := 11) (oi := ⟨some 33, _, _, _, _, _⟩) (v := ?_) rfl (by kernel_rfl) (by kernel_rfl) (by kernel_rfl) (fun _ _ _ h => h) (Or.inl ⟨by rfl, ?_⟩) (by assumption) ?_
      rotate_left 1
      · (intro W hSw; go_simp <;> with_reducible rfl)
      try simp only [Act.put, List.setIfInBounds_toArray, List.set_cons_zero, List.set_cons_succ]
      refine wpAnyH_take (i := 12) (oi := ⟨some 34, _, _, _, _, _⟩) (v := ?_) rfl (by kernel_rfl) (by kernel_rfl) (by kernel_rfl) (fun _ _ _ h => h) (Or.inl ⟨by rfl, ?_⟩) (by assumption) ?_
      rotate_left 1
      · (intro W hSw; go_simp <;> with_reducible rfl)
      try simp only [Act.put, List.setIfInBounds_toArray, List.set_cons_zero, List.set_cons_succ]
      refine wpAnyH_take (i := 13) (oi := ⟨some 35, _, _, _, _, _⟩) (v := ?_) rfl (by kernel_rfl) (by kernel_rfl) (by kernel_rfl) (fun _ _ _ h => h) (Or.inl ⟨by rfl, ?_⟩) (by assumption) ?_
      rotate_left 1
      · (intro W hSw; go_simp <;> with_reducible rfl)
      try simp only [Act.put, List.setIfInBounds_toArray, List.set_cons_zero, List.set_cons_succ]
      refine wpAnyH_take (i := 15) (oi := ⟨some 37, _, _, _, _, _⟩) (v := ?_) rfl (by kernel_rfl) (by kernel_rfl) (by kernel_rfl) (fun _ _ _ h => h) (Or.inl ⟨by rfl, ?_⟩) (by assumption) ?_
      rotate_left 1
      · (intro W hSw; go_simp <;> with_reducible rfl)
      try simp only [Act.put, List.setIfInBounds_toArray, List.set_cons_zero, List.set_cons_succ]
      refine wpAnyH_take (i := 16) (oi := ⟨some 38, _, _, _, _, _⟩) (v := ?_) rfl (by kernel_rfl) (by kernel_rfl) (by kernel_rfl) (fun _ _ _ h => h) (Or.inl ⟨by rfl, ?_⟩) (by assumption) ?_
      rotate_left 1
      · (intro W hSw; go_simp <;> with_reducible rfl)
      try simp only [Act.put, List.setIfInBounds_toArray, List.set_cons_zero, List.set_cons_succ]
      refine wpAnyH_take (i := 17) (oi := ⟨some 39, _, _, _, _, _⟩) (v := ?_) rfl (by kernel_rfl) (by kernel_rfl) (by kernel_rfl) (fun _ _ _ h => h) (Or.inl ⟨by rfl, ?_⟩) (by assumption) ?_
      rotate_left 1
      · (intro W hSw; go_simp <;> with_reducible rfl)
      try simp only [Act.put, List.setIfInBounds_toArray, List.set_cons_zero, List.set_cons_succ]
      refine wpAnyH_take (i := 18) (oi := ⟨some 40, _, _, _, _, _⟩) (v := ?_) rfl (by kernel_rfl) (by kernel_rfl) (by kernel_rfl) (fun _ _ _ h => h) (Or.inl ⟨by rfl, ?_⟩) (by assumption) ?_
      rotate_left 1
      · (intro W hSw; go_simp <;> with_reducible rfl)
      try simp only [Act.put, List.setIfInBounds_toArray, List.set_cons_zero, List.set_cons_succ]
      refine wpAnyH_take (i := 20) (oi := ⟨some 42, _, _, _, _, _⟩) (v := ?_) rfl (by kernel_rfl) (by kernel_rfl) (by kernel_rfl) (fun _ _ _ h => h) (Or.inl ⟨by rfl, ?_⟩) (by assumption) ?_
      rotate_left 1
      · (intro W hSw; go_simp <;> with_reducible rfl)
      try simp only [Act.put, List.setIfInBounds_toArray, List.set_cons_zero, List.set_cons_succ]
      refine wpAnyH_take (i := 21) (oi := ⟨some 43, _, _, _, _, _⟩) (v := ?_) rfl (by kernel_rfl) (by kernel_rfl) (by kernel_rfl) (fun _ _ _ h => h) (Or.inl ⟨by rfl, ?_⟩) (by assumption) ?_
      rotate_left 1
      · (intro W hSw; go_simp <;> with_reducible rfl)
      try simp only [Act.put, List.setIfInBounds_toArray, List.set_cons_zero, List.set_cons_succ]
      refine wpAnyH_take (i := 22) (oi := ⟨some 44, _, _, _, _, _⟩) (v := ?_) rfl (by kernel_rfl) (by kernel_rfl) (by kernel_rfl) (fun _ _ _ h => h) (Or.inl ⟨by rfl, ?_⟩) (by assumption) ?_
      rotate_left 1
      · (intro W hSw; go_simp <;> with_reducible rfl)
      try simp only [Act.put, List.setIfInBounds_toArray, List.set_cons_zero, List.set_cons_succ]
      refine wpAnyH_take (i := 23) (oi := ⟨some 45, _, _, _, _, _⟩) (v := ?_) rfl (by kernel_rfl) (by kernel_rfl) (by kernel_rfl) (fun _ _ _ h => h) (Or.inl ⟨by rfl, ?_⟩) (by assumption) ?_
      rotate_left 1
      · (intro W hSw; go_simp <;> with_reducible rfl)
      try simp only [Act.put, List.setIfInBounds_toArray, List.set_cons_zero, List.set_cons_succ]
      refine wpAnyH_ready (rs := [4, 26]) (by kernel_rfl) (by simp) ?_
      refine AllReadyH.cons rfl (fun K hK => ?_) (AllReadyH.cons rfl (fun K hK => ?_) AllReadyH.nil)
      · go_simp
        refine (P0 _ _ q0.laid q0.form).mono ?_
        rintro e y0 ⟨rfl, fy0, gy0⟩
        have qy0 := q0.took fy0 gy0
        refine hK.out _ _ (HS.out _ _ qy0) (fun hy0 => ?_)
        clear hHeld hK K
        try simp only [Act.put, List.setIfInBounds_toArray, List.set_cons_zero, List.set_cons_succ]
        refine wpAnyH_ready (rs := [9, 26]) (by kernel_rfl) (by simp) ?_
        refine AllReadyH.cons rfl (fun K hK => ?_) (AllReadyH.cons rfl (fun K hK => ?_) AllReadyH.nil)
        · go_simp
          refine (P1 _ _ qy0.laid qy0.form).mono ?_
          rintro e y01 ⟨rfl, fy01, gy01⟩
          have qy01 := qy0.took fy01 gy01
          refine hK.out _ _ (HS.out _ _ qy01) (fun hy01 => ?_)
          clear hy0 hK K
          try simp only [Act.put, List.setIfInBounds_toArray, List.set_cons_zero, List.set_cons_succ]
          refine wpAnyH_ready (rs := [14, 26]) (by kernel_rfl) (by simp) ?_
          refine AllReadyH.cons rfl (fun K hK => ?_) (AllReadyH.cons rfl (fun K hK => ?_) AllReadyH.nil)
          · go_simp
            refine (P2 _ _ qy01.laid qy01.form).mono ?_
            rintro e y012 ⟨rfl, fy012, gy012⟩
            have qy012 := qy01.took fy012 gy012
            refine hK.out _ _ (HS.out _ _ qy012) (fun hy012 => ?_)
            clear hy01 hK K
            try simp only [Act.put, List.setIfInBounds_toArray, List.set_cons_zero, List.set_cons_succ]
            refine wpAnyH_ready (rs := [19, 26]) (by kernel_rfl) (by simp) ?_
            refine AllReadyH.cons rfl (fun K hK => ?_) (AllReadyH.cons rfl (fun K hK => ?_) AllReadyH.nil)
            · go_simp
              refine (P3 _ _ qy012.laid qy012.form).mono ?_
              rintro e y0123 ⟨rfl, fy0123, gy0123⟩
              have qy0123 := qy012.took fy0123 gy0123
              refine hK.out _ _ (HS.out _ _ qy0123) (fun hy0123 => ?_)
              clear hy012 hK K
              try simp only [Act.put, List.setIfInBounds_toArray, List.set_cons_zero, List.set_cons_succ]
              refine wpAnyH_ready (rs := [24, 26]) (by kernel_rfl) (by simp) ?_
              refine AllReadyH.cons rfl (fun K hK => ?_) (AllReadyH.cons rfl (fun K hK => ?_) AllReadyH.nil)
              · go_simp
                refine (P4 _ _ qy0123.laid qy0123.form).mono ?_
                rintro e y01234 ⟨rfl, fy01234, gy01234⟩
                have qy01234 := qy0123.took fy01234 gy01234
                refine hK.out _ _ (HS.out _ _ qy01234) (fun hy01234 => ?_)
                clear hy0123 hK K
                try simp only [Act.put, List.setIfInBounds_toArray, List.set_cons_zero, List.set_cons_succ]
                refine wpAnyH_take (i := 25) (oi := ⟨some 47, _, _, _, _, _⟩) (v := ?_) rfl (by kernel_rfl) (by kernel_rfl) (by kernel_rfl) (fun _ _ _ h => h) (Or.inl ⟨by rfl, ?_⟩) (by assumption) ?_
                rotate_left 1
                · (intro W hSw; go_simp <;> with_reducible rfl)
                try simp only [Act.put, List.setIfInBounds_toArray, List.set_cons_zero, List.set_cons_succ]
                refine wpAnyH_ready (rs := [26]) (by kernel_rfl) (by simp) ?_
                refine AllReadyH.cons rfl (fun K hK => ?_) AllReadyH.nil
                go_simp
                obtain ⟨y01234a, ey01234a⟩ : ∃ zz, zz = y01234.alloc (.cells #[.int .i64 0, .int .i64 0, .int .i64 0, .int .i64 0, .int .i64 0] 23) := ⟨_, rfl⟩
                have by01234a : Below y01234.heap.size y01234 y01234a := by rw [ey01234a]; exact (Below.refl _ y01234).alloc (Nat.le_refl _) _
                have Ay01234a : Blk y01234a y01234.heap.size 23 #[.int .i64 0, .int .i64 0, .int .i64 0, .int .i64 0, .int .i64 0] := by rw [ey01234a]; exact heap_alloc_new y01234 _
                have qy01234a := qy01234.more by01234a
                have ly01234a : F < y01234.heap.size := qy01234.form.lt
                rw [← ey01234a]
                refine hK.out _ _ (HS.out _ _ qy01234a) (fun hy01234a => ?_)
                clear hy01234 hK K ey01234a
                try simp only [Act.put, List.setIfInBounds_toArray, List.set_cons_zero, List.set_cons_succ]
                generalize y01234.heap.size = Py01234a at *
                refine wpAnyH_ready (rs := [27]) (by kernel_rfl) (by simp) ?_
                refine AllReadyH.cons rfl (fun K hK => ?_) AllReadyH.nil
                rw [if_pos (by rfl)]
                refine wp_store_row 23 (.tmp 9) (.tmp 47) rfl Py01234a #[.int .i64 v0, .int .i64 v1, .int .i64 v2, .int .i64 v3, .int .i64 v4] rfl rfl 23 #[.int .i64 0, .int .i64 0, .int .i64 0, .int .i64 0, .int .i64 0] Ay01234a info23 rfl (by simp [Value.oneCell']) ?_
                refine hK.out _ _ (HS.out _ _ (qy01234a.set_ (by omega) #[.int .i64 v0, .int .i64 v1, .int .i64 v2, .int .i64 v3, .int .i64 v4])) (fun hz => ?_)
                clear hK K hy01234a
                try simp only [Act.put, List.setIfInBounds_toArray, List.set_cons_zero, List.set_cons_succ]
                refine wpAnyH_done (by kernel_rfl) ?_ _
                refine NoPanic.normal ?_
                go_wp2_with fail
                go_meet
                exact ⟨Py01234a, rfl, by omega, setRow_heap _ _ _ _ _ _ Ay01234a, qy01234a.set_ (by omega) _⟩
              · go_simp
                obtain ⟨y0123a, ey0123a⟩ : ∃ zz, zz = y0123.alloc (.cells #[.int .i64 0, .int .i64 0, .int .i64 0, .int .i64 0, .int .i64 0] 23) := ⟨_, rfl⟩
                have by0123a : Below y0123.heap.size y0123 y0123a := by rw [ey0123a]; exact (Below.refl _ y0123).alloc (Nat.le_refl _) _
                have Ay0123a : Blk y0123a y0123.heap.size 23 #[.int .i64 0, .int .i64 0, .int .i64 0, .int .i64 0, .int .i64 0] := by rw [ey0123a]; exact heap_alloc_new y0123 _
                have qy0123a := qy0123.more by0123a
                have ly0123a : F < y0123.heap.size := qy0123.form.lt
                rw [← ey0123a]
                refine hK.out _ _ (HS.out _ _ qy0123a) (fun hy0123a => ?_)
                clear hy0123 hK K ey0123a
                try simp only [Act.put, List.setIfInBounds_toArray, List.set_cons_zero, List.set_cons_succ]
                generalize y0123.heap.size = Py0123a at *
                refine wpAnyH_ready (rs := [24]) (by kernel_rfl) (by simp) ?_
                refine AllReadyH.cons rfl (fun K hK => ?_) AllReadyH.nil
                go_simp
                refine (P4 _ _ qy0123a.laid qy0123a.form).mono ?_
                rintro e y0123a4 ⟨rfl, fy0123a4, gy0123a4⟩
                have qy0123a4 := qy0123a.took fy0123a4 gy0123a4
                have Ay0123a4 : Blk y0123a4 Py0123a 23 #[.int .i64 0, .int .i64 0, .int .i64 0, .int .i64 0, .int .i64 0] := (gy0123a4.block _ Ay0123a.lt (by simp; omega)).trans Ay0123a
                refine hK.out _ _ (HS.out _ _ qy0123a4) (fun hy0123a4 => ?_)
                clear hy0123a hK K
                try simp only [Act.put, List.setIfInBounds_toArray, List.set_cons_zero, List.set_cons_succ]
                refine wpAnyH_take (i := 25) (oi := ⟨some 47, _, _, _, _, _⟩) (v := ?_) rfl (by kernel_rfl) (by kernel_rfl) (by kernel_rfl) (fun _ _ _ h => h) (Or.inl ⟨by rfl, ?_⟩) (by assumption) ?_
                rotate_left 1
                · (intro W hSw; go_simp <;> with_reducible rfl)
                try simp only [Act.put, List.setIfInBounds_toArray, List.set_cons_zero, List.set_cons_succ]
                refine wpAnyH_ready (rs := [27]) (by kernel_rfl) (by simp) ?_
                refine AllReadyH.cons rfl (fun K hK => ?_) AllReadyH.nil
                rw [if_pos (by rfl)]
                refine wp_store_row 23 (.tmp 9) (.tmp 47) rfl Py0123a #[.int .i64 v0, .int .i64 v1, .int .i64 v2, .int .i64 v3, .int .i64 v4] rfl rfl 23 #[.int .i64 0, .int .i64 0, .int .i64 0, .int .i64 0, .int .i64 0] Ay0123a4 info23 rfl (by simp [Value.oneCell']) ?_
                refine hK.out _ _ (HS.out _ _ (qy0123a4.set_ (by omega) #[.int .i64 v0, .int .i64 v1, .int .i64 v2, .int .i64 v3, .int .i64 v4])) (fun hz => ?_)
                clear hK K hy0123a4
                try simp only [Act.put, List.setIfInBounds_toArray, List.set_cons_zero, List.set_cons_succ]
                refine wpAnyH_done (by kernel_rfl) ?_ _
                refine NoPanic.normal ?_
                go_wp2_with fail
                go_meet
                exact ⟨Py0123a, rfl, by omega, setRow_heap _ _ _ _ _ _ Ay0123a4, qy0123a4.set_ (by omega) _⟩
            · go_simp
              obtain ⟨y012a, ey012a⟩ : ∃ zz, zz = y012.alloc (.cells #[.int .i64 0, .int .i64 0, .int .i64 0, .int .i64 0, .int .i64 0] 23) := ⟨_, rfl⟩
              have by012a : Below y012.heap.size y012 y012a := by rw [ey012a]; exact (Below.refl _ y012).alloc (Nat.le_refl _) _
              have Ay012a : Blk y012a y012.heap.size 23 #[.int .i64 0, .int .i64 0, .int .i64 0, .int .i64 0, .int .i64 0] := by rw [ey012a]; exact heap_alloc_new y012 _
              have qy012a := qy012.more by012a
              have ly012a : F < y012.heap.size := qy012.form.lt
              rw [← ey012a]
              refine hK.out _ _ (HS.out _ _ qy012a) (fun hy012a => ?_)
              clear hy012 hK K ey012a
              try simp only [Act.put, List.setIfInBounds_toArray, List.set_cons_zero, List.set_cons_succ]
              generalize y012.heap.size = Py012a at *
              refine wpAnyH_ready (rs := [19]) (by kernel_rfl) (by simp) ?_
              refine AllReadyH.cons rfl (fun K hK => ?_) AllReadyH.nil
              go_simp
              refine (P3 _ _ qy012a.laid qy012a.form).mono ?_
              rintro e y012a3 ⟨rfl, fy012a3, gy012a3⟩
              have qy012a3 := qy012a.took fy012a3 gy012a3
              have Ay012a3 : Blk y012a3 Py012a 23 #[.int .i64 0, .int .i64 0, .int .i64 0, .int .i64 0, .int .i64 0] := (gy012a3.block _ Ay012a.lt (by simp; omega)).trans Ay012a
              refine hK.out _ _ (HS.out _ _ qy012a3) (fun hy012a3 => ?_)
              clear hy012a hK K
              try simp only [Act.put, List.setIfInBounds_toArray, List.set_cons_zero, List.set_cons_succ]
              refine wpAnyH_ready (rs := [24]) (by kernel_rfl) (by simp) ?_
              refine AllReadyH.cons rfl (fun K hK => ?_) AllReadyH.nil
              go_simp
              refine (P4 _ _ qy012a3.laid qy012a3.form).mono ?_
              rintro e y012a34 ⟨rfl, fy012a34, gy012a34⟩
              have qy012a34 := qy012a3.took fy012a34 gy012a34
              have Ay012a34 : Blk y012a34 Py012a 23 #[.int .i64 0, .int .i64 0, .int .i64 0, .int .i64 0, .int .i64 0] := (gy012a34.block _ Ay012a3.lt (by simp; omega)).trans Ay012a3
              refine hK.out _ _ (HS.out _ _ qy012a34) (fun hy012a34 => ?_)
              clear hy012a3 hK K
              try simp only [Act.put, List.setIfInBounds_toArray, List.set_cons_zero, List.set_cons_succ]
              refine wpAnyH_take (i := 25) (oi := ⟨some 47, _, _, _, _, _⟩) (v := ?_) rfl (by kernel_rfl) (by kernel_rfl) (by kernel_rfl) (fun _ _ _ h => h) (Or.inl ⟨by rfl, ?_⟩) (by assumption) ?_
              rotate_left 1
              · (intro W hSw; go_simp <;> with_reducible rfl)
              try simp only [Act.put, List.setIfInBounds_toArray, List.set_cons_zero, List.set_cons_succ]
              refine wpAnyH_ready (rs := [27]) (by kernel_rfl) (by simp) ?_
              refine AllReadyH.cons rfl (fun K hK => ?_) AllReadyH.nil
              rw [if_pos (by rfl)]
              refine wp_store_row 23 (.tmp 9) (.tmp 47) rfl Py012a #[.int .i64 v0, .int .i64 v1, .int .i64 v2, .int .i64 v3, .int .i64 v4] rfl rfl 23 #[.int .i64 0, .int .i64 0, .int .i64 0, .int .i64 0, .int .i64 0] Ay012a34 info23 rfl (by simp [Value.oneCell']) ?_
              refine hK.out _ _ (HS.out _ _ (qy012a34.set_ (by omega) #[.int .i64 v0, .int .i64 v1, .int .i64 v2, .int .i64 v3, .int .i64 v4])) (fun hz => ?_)
              clear hK K hy012a34
              try simp only [Act.put, List.setIfInBounds_toArray, List.set_cons_zero, List.set_cons_succ]
              refine wpAnyH_done (by kernel_rfl) ?_ _
              refine NoPanic.normal ?_
              go_wp2_with fail
              go_meet
              exact ⟨Py012a, rfl, by omega, setRow_heap _ _ _ _ _ _ Ay012a34, qy012a34.set_ (by omega) _⟩
          · go_simp
            obtain ⟨y01a, ey01a⟩ : ∃ zz, zz = y01.alloc (.cells #[.int .i64 0, .int .i64 0, .int .i64 0, .int .i64 0, .int .i64 0] 23) := ⟨_, rfl⟩
            have by01a : Below y01.heap.size y01 y01a := by rw [ey01a]; exact (Below.refl _ y01).alloc (Nat.le_refl _) _
            have Ay01a : Blk y01a y01.heap.size 23 #[.int .i64 0, .int .i64 0, .int .i64 0, .int .i64 0, .int .i64 0] := by rw [ey01a]; exact heap_alloc_new y01 _
            have qy01a := qy01.more by01a
            have ly01a : F < y01.heap.size := qy01.form.lt
            rw [← ey01a]
            refine hK.out _ _ (HS.out _ _ qy01a) (fun hy01a => ?_)
            clear hy01 hK K ey01a
            try simp only [Act.put, List.setIfInBounds_toArray, List.set_cons_zero, List.set_cons_succ]
            generalize y01.heap.size = Py01a at *
            refine wpAnyH_ready (rs := [14]) (by kernel_rfl) (by simp) ?_
            refine AllReadyH.cons rfl (fun K hK => ?_) AllReadyH.nil
            go_simp
            refine (P2 _ _ qy01a.laid qy01a.form).mono ?_
            rintro e y01a2 ⟨rfl, fy01a2, gy01a2⟩
            have qy01a2 := qy01a.took fy01a2 gy01a2
            have Ay01a2 : Blk y01a2 Py01a 23 #[.int .i64 0, .int .i64 0, .int .i64 0, .int .i64 0, .int .i64 0] := (gy01a2.block _ Ay01a.lt (by simp; omega)).trans Ay01a
            refine hK.out _ _ (HS.out _ _ qy01a2) (fun hy01a2 => ?_)
            clear hy01a hK K
            try simp only [Act.put, List.setIfInBounds_toArray, List.set_cons_zero, List.set_cons_succ]
            refine wpAnyH_ready (rs := [19]) (by kernel_rfl) (by simp) ?_
            refine AllReadyH.cons rfl (fun K hK => ?_) AllReadyH.nil
            go_simp
            refine (P3 _ _ qy01a2.laid qy01a2.form).mono ?_
            rintro e y01a23 ⟨rfl, fy01a23, gy01a23⟩
            have qy01a23 := qy01a2.took fy01a23 gy01a23
            have Ay01a23 : Blk y01a23 Py01a 23 #[.int .i64 0, .int .i64 0, .int .i64 0, .int .i64 0, .int .i64 0] := (gy01a23.block _ Ay01a2.lt (by simp; omega)).trans Ay01a2
            refine hK.out _ _ (HS.out _ _ qy01a23) (fun hy01a23 => ?_)
            clear hy01a2 hK K
            try simp only [Act.put, List.setIfInBounds_toArray, List.set_cons_zero, List.set_cons_succ]
            refine wpAnyH_ready (rs := [24]) (by kernel_rfl) (by simp) ?_
            refine AllReadyH.cons rfl (fun K hK => ?_) AllReadyH.nil
            go_simp
            refine (P4 _ _ qy01a23.laid qy01a23.form).mono ?_
            rintro e y01a234 ⟨rfl, fy01a234, gy01a234⟩
            have qy01a234 := qy01a23.took fy01a234 gy01a234
            have Ay01a234 : Blk y01a234 Py01a 23 #[.int .i64 0, .int .i64 0, .int .i64 0, .int .i64 0, .int .i64 0] := (gy01a234.block _ Ay01a23.lt (by simp; omega)).trans Ay01a23
            refine hK.out _ _ (HS.out _ _ qy01a234) (fun hy01a234 => ?_)
            clear hy01a23 hK K
            try simp only [Act.put, List.setIfInBounds_toArray, List.set_cons_zero, List.set_cons_succ]
            refine wpAnyH_take (i := 25) (oi := ⟨some 47, _, _, _, _, _⟩) (v := ?_) rfl (by kernel_rfl) (by kernel_rfl) (by kernel_rfl) (fun _ _ _ h => h) (Or.inl ⟨by rfl, ?_⟩) (by assumption) ?_
            rotate_left 1
            · (intro W hSw; go_simp <;> with_reducible rfl)
            try simp only [Act.put, List.setIfInBounds_toArray, List.set_cons_zero, List.set_cons_succ]
            refine wpAnyH_ready (rs := [27]) (by kernel_rfl) (by simp) ?_
            refine AllReadyH.cons rfl (fun K hK => ?_) AllReadyH.nil
            rw [if_pos (by rfl)]
            refine wp_store_row 23 (.tmp 9) (.tmp 47) rfl Py01a #[.int .i64 v0, .int .i64 v1, .int .i64 v2, .int .i64 v3, .int .i64 v4] rfl rfl 23 #[.int .i64 0, .int .i64 0, .int .i64 0, .int .i64 0, .int .i64 0] Ay01a234 info23 rfl (by simp [Value.oneCell']) ?_
            refine hK.out _ _ (HS.out _ _ (qy01a234.set_ (by omega) #[.int .i64 v0, .int .i64 v1, .int .i64 v2, .int .i64 v3, .int .i64 v4])) (fun hz => ?_)
            clear hK K hy01a234
            try simp only [Act.put, List.setIfInBounds_toArray, List.set_cons_zero, List.set_cons_succ]
            refine wpAnyH_done (by kernel_rfl) ?_ _
            refine NoPanic.normal ?_
            go_wp2_with fail
            go_meet
            exact ⟨Py01a, rfl, by omega, setRow_heap _ _ _ _ _ _ Ay01a234, qy01a234.set_ (by omega) _⟩
        · go_simp
          obtain ⟨y0a, ey0a⟩ : ∃ zz, zz = y0.alloc (.cells #[.int .i64 0, .int .i64 0, .int .i64 0, .int .i64 0, .int .i64 0] 23) := ⟨_, rfl⟩
          have by0a : Below y0.heap.size y0 y0a := by rw [ey0a]; exact (Below.refl _ y0).alloc (Nat.le_refl _) _
          have Ay0a : Blk y0a y0.heap.size 23 #[.int .i64 0, .int .i64 0, .int .i64 0, .int .i64 0, .int .i64 0] := by rw [ey0a]; exact heap_alloc_new y0 _
          have qy0a := qy0.more by0a
          have ly0a : F < y0.heap.size := qy0.form.lt
          rw [← ey0a]
          refine hK.out _ _ (HS.out _ _ qy0a) (fun hy0a => ?_)
          clear hy0 hK K ey0a
          try simp only [Act.put, List.setIfInBounds_toArray, List.set_cons_zero, List.set_cons_succ]
          generalize y0.heap.size = Py0a at *
          refine wpAnyH_ready (rs := [9]) (by kernel_rfl) (by simp) ?_
          refine AllReadyH.cons rfl (fun K hK => ?_) AllReadyH.nil
          go_simp
          refine (P1 _ _ qy0a.laid qy0a.form).mono ?_
          rintro e y0a1 ⟨rfl, fy0a1, gy0a1⟩
          have qy0a1 := qy0a.took fy0a1 gy0a1
          have Ay0a1 : Blk y0a1 Py0a 23 #[.int .i64 0, .int .i64 0, .int .i64 0, .int .i64 0, .int .i64 0] := (gy0a1.block _ Ay0a.lt (by simp; omega)).trans Ay0a
          refine hK.out _ _ (HS.out _ _ qy0a1) (fun hy0a1 => ?_)
          clear hy0a hK K
          try simp only [Act.put, List.setIfInBounds_toArray, List.set_cons_zero, List.set_cons_succ]
          refine wpAnyH_ready (rs := [14]) (by kernel_rfl) (by simp) ?_
          refine AllReadyH.cons rfl (fun K hK => ?_) AllReadyH.nil
          go_simp
          refine (P2 _ _ qy0a1.laid qy0a1.form).mono ?_
          rintro e y0a12 ⟨rfl, fy0a12, gy0a12⟩
          have qy0a12 := qy0a1.took fy0a12 gy0a12
          have Ay0a12 : Blk y0a12 Py0a 23 #[.int .i64 0, .int .i64 0, .int .i64 0, .int .i64 0, .int .i64 0] := (gy0a12.block _ Ay0a1.lt (by simp; omega)).trans Ay0a1
          refine hK.out _ _ (HS.out _ _ qy0a12) (fun hy0a12 => ?_)
          clear hy0a1 hK K
          try simp only [Act.put, List.setIfInBounds_toArray, List.set_cons_zero, List.set_cons_succ]
          refine wpAnyH_ready (rs := [19]) (by kernel_rfl) (by simp) ?_
          refine AllReadyH.cons rfl (fun K hK => ?_) AllReadyH.nil
          go_simp
          refine (P3 _ _ qy0a12.laid qy0a12.form).mono ?_
          rintro e y0a123 ⟨rfl, fy0a123, gy0a123⟩
          have qy0a123 := qy0a12.took fy0a123 gy0a123
          have Ay0a123 : Blk y0a123 Py0a 23 #[.int .i64 0, .int .i64 0, .int .i64 0, .int .i64 0, .int .i64 0] := (gy0a123.block _ Ay0a12.lt (by simp; omega)).trans Ay0a12
          refine hK.out _ _ (HS.out _ _ qy0a123) (fun hy0a123 => ?_)
          clear hy0a12 hK K
          try simp only [Act.put, List.setIfInBounds_toArray, List.set_cons_zero, List.set_cons_succ]
          refine wpAnyH_ready (rs := [24]) (by kernel_rfl) (by simp) ?_
          refine AllReadyH.cons rfl (fun K hK => ?_) AllReadyH.nil
          go_simp
          refine (P4 _ _ qy0a123.laid qy0a123.form).mono ?_
          rintro e y0a1234 ⟨rfl, fy0a1234, gy0a1234⟩
          have qy0a1234 := qy0a123.took fy0a1234 gy0a1234
          have Ay0a1234 : Blk y0a1234 Py0a 23 #[.int .i64 0, .int .i64 0, .int .i64 0, .int .i64 0, .int .i64 0] := (gy0a1234.block _ Ay0a123.lt (by simp; omega)).trans Ay0a123
          refine hK.out _ _ (HS.out _ _ qy0a1234) (fun hy0a1234 => ?_)
          clear hy0a123 hK K
          try simp only [Act.put, List.setIfInBounds_toArray, List.set_cons_zero, List.set_cons_succ]
          refine wpAnyH_take (i := 25) (oi := ⟨some 47, _, _, _, _, _⟩) (v := ?_) rfl (by kernel_rfl) (by kernel_rfl) (by kernel_rfl) (fun _ _ _ h => h) (Or.inl ⟨by rfl, ?_⟩) (by assumption) ?_
          rotate_left 1
          · (intro W hSw; go_simp <;> with_reducible rfl)
          try simp only [Act.put, List.setIfInBounds_toArray, List.set_cons_zero, List.set_cons_succ]
          refine wpAnyH_ready (rs := [27]) (by kernel_rfl) (by simp) ?_
          refine AllReadyH.cons rfl (fun K hK => ?_) AllReadyH.nil
          rw [if_pos (by rfl)]
          refine wp_store_row 23 (.tmp 9) (.tmp 47) rfl Py0a #[.int .i64 v0, .int .i64 v1, .int .i64 v2, .int .i64 v3, .int .i64 v4] rfl rfl 23 #[.int .i64 0, .int .i64 0, .int .i64 0, .int .i64 0, .int .i64 0] Ay0a1234 info23 rfl (by simp [Value.oneCell']) ?_
          refine hK.out _ _ (HS.out _ _ (qy0a1234.set_ (by omega) #[.int .i64 v0, .int .i64 v1, .int .i64 v2, .int .i64 v3, .int .i64 v4])) (fun hz => ?_)
          clear hK K hy0a1234
          try simp only [Act.put, List.setIfInBounds_toArray, List.set_cons_zero, List.set_cons_succ]
          refine wpAnyH_done (by kernel_rfl) ?_ _
          refine NoPanic.normal ?_
          go_wp2_with fail
          go_meet
          exact ⟨Py0a, rfl, by omega, setRow_heap _ _ _ _ _ _ Ay0a1234, qy0a1234.set_ (by omega) _⟩
      · go_simp
        obtain ⟨ya, eya⟩ : ∃ zz, zz = y.alloc (.cells #[.int .i64 0, .int .i64 0, .int .i64 0, .int .i64 0, .int .i64 0] 23) := ⟨_, rfl⟩
        have bya : Below y.heap.size y ya := by rw [eya]; exact (Below.refl _ y).alloc (Nat.le_refl _) _
        have Aya : Blk ya y.heap.size 23 #[.int .i64 0, .int .i64 0, .int .i64 0, .int .i64 0, .int .i64 0] := by rw [eya]; exact heap_alloc_new y _
        have qya := q0.more bya
        have lya : F < y.heap.size := q0.form.lt
        rw [← eya]
        refine hK.out _ _ (HS.out _ _ qya) (fun hya => ?_)
        clear hHeld hK K eya
        try simp only [Act.put, List.setIfInBounds_toArray, List.set_cons_zero, List.set_cons_succ]
        generalize y.heap.size = Pya at *
        refine wpAnyH_ready (rs := [4]) (by kernel_rfl) (by simp) ?_
        refine AllReadyH.cons rfl (fun K hK => ?_) AllReadyH.nil
        go_simp
        refine (P0 _ _ qya.laid qya.form).mono ?_
        rintro e ya0 ⟨rfl, fya0, gya0⟩
        have qya0 := qya.took fya0 gya0
        have Aya0 : Blk ya0 Pya 23 #[.int .i64 0, .int .i64 0, .int .i64 0, .int .i64 0, .int .i64 0] := (gya0.block _ Aya.lt (by simp; omega)).trans Aya
        refine hK.out _ _ (HS.out _ _ qya0) (fun hya0 => ?_)
        clear hya hK K
        try simp only [Act.put, List.setIfInBounds_toArray, List.set_cons_zero, List.set_cons_succ]
        refine wpAnyH_ready (rs := [9]) (by kernel_rfl) (by simp) ?_
        refine AllReadyH.cons rfl (fun K hK => ?_) AllReadyH.nil
        go_simp
        refine (P1 _ _ qya0.laid qya0.form).mono ?_
        rintro e ya01 ⟨rfl, fya01, gya01⟩
        have qya01 := qya0.took fya01 gya01
        have Aya01 : Blk ya01 Pya 23 #[.int .i64 0, .int .i64 0, .int .i64 0, .int .i64 0, .int .i64 0] := (gya01.block _ Aya0.lt (by simp; omega)).trans Aya0
        refine hK.out _ _ (HS.out _ _ qya01) (fun hya01 => ?_)
        clear hya0 hK K
        try simp only [Act.put, List.setIfInBounds_toArray, List.set_cons_zero, List.set_cons_succ]
        refine wpAnyH_ready (rs := [14]) (by kernel_rfl) (by simp) ?_
        refine AllReadyH.cons rfl (fun K hK => ?_) AllReadyH.nil
        go_simp
        refine (P2 _ _ qya01.laid qya01.form).mono ?_
        rintro e ya012 ⟨rfl, fya012, gya012⟩
        have qya012 := qya01.took fya012 gya012
        have Aya012 : Blk ya012 Pya 23 #[.int .i64 0, .int .i64 0, .int .i64 0, .int .i64 0, .int .i64 0] := (gya012.block _ Aya01.lt (by simp; omega)).trans Aya01
        refine hK.out _ _ (HS.out _ _ qya012) (fun hya012 => ?_)
        clear hya01 hK K
        try simp only [Act.put, List.setIfInBounds_toArray, List.set_cons_zero, List.set_cons_succ]
        refine wpAnyH_ready (rs := [19]) (by kernel_rfl) (by simp) ?_
        refine AllReadyH.cons rfl (fun K hK => ?_) AllReadyH.nil
        go_simp
        refine (P3 _ _ qya012.laid qya012.form).mono ?_
        rintro e ya0123 ⟨rfl, fya0123, gya0123⟩
        have qya0123 := qya012.took fya0123 gya0123
        have Aya0123 : Blk ya0123 Pya 23 #[.int .i64 0, .int .i64 0, .int .i64 0, .int .i64 0, .int .i64 0] := (gya0123.block _ Aya012.lt (by simp; omega)).trans Aya012
        refine hK.out _ _ (HS.out _ _ qya0123) (fun hya0123 => ?_)
        clear hya012 hK K
        try simp only [Act.put, List.setIfInBounds_toArray, List.set_cons_zero, List.set_cons_succ]
        refine wpAnyH_ready (rs := [24]) (by kernel_rfl) (by simp) ?_
        refine AllReadyH.cons rfl (fun K hK => ?_) AllReadyH.nil
        go_simp
        refine (P4 _ _ qya0123.laid qya0123.form).mono ?_
        rintro e ya01234 ⟨rfl, fya01234, gya01234⟩
        have qya01234 := qya0123.took fya01234 gya01234
        have Aya01234 : Blk ya01234 Pya 23 #[.int .i64 0, .int .i64 0, .int .i64 0, .int .i64 0, .int .i64 0] := (gya01234.block _ Aya0123.lt (by simp; omega)).trans Aya0123
        refine hK.out _ _ (HS.out _ _ qya01234) (fun hya01234 => ?_)
        clear hya0123 hK K
        try simp only [Act.put, List.setIfInBounds_toArray, List.set_cons_zero, List.set_cons_succ]
        refine wpAnyH_take (i := 25) (oi := ⟨some 47, _, _, _, _, _⟩) (v := ?_) rfl (by kernel_rfl) (by kernel_rfl) (by kernel_rfl) (fun _ _ _ h => h) (Or.inl ⟨by rfl, ?_⟩) (by assumption) ?_
        rotate_left 1
        · (intro W hSw; go_simp <;> with_reducible rfl)
        try simp only [Act.put, List.setIfInBounds_toArray, List.set_cons_zero, List.set_cons_succ]
        refine wpAnyH_ready (rs := [27]) (by kernel_rfl) (by simp) ?_
        refine AllReadyH.cons rfl (fun K hK => ?_) AllReadyH.nil
        rw [if_pos (by rfl)]
        refine wp_store_row 23 (.tmp 9) (.tmp 47) rfl Pya #[.int .i64 v0, .int .i64 v1, .int .i64 v2, .int .i64 v3, .int .i64 v4] rfl rfl 23 #[.int .i64 0, .int .i64 0, .int .i64 0, .int .i64 0, .int .i64 0] Aya01234 info23 rfl (by simp [Value.oneCell']) ?_
        refine hK.out _ _ (HS.out _ _ (qya01234.set_ (by omega) #[.int .i64 v0, .int .i64 v1, .int .i64 v2, .int .i64 v3, .int .i64 v4])) (fun hz => ?_)
        clear hK K hya01234
        try simp only [Act.put, List.setIfInBounds_toArray, List.set_cons_zero, List.set_cons_succ]
        refine wpAnyH_done (by kernel_rfl) ?_ _
        refine NoPanic.normal ?_
        go_wp2_with fail
        go_meet
        exact ⟨Pya, rfl, by omega, setRow_heap _ _ _ _ _ _ Aya01234, qya01234.set_ (by omega) _⟩
    case rest =>
    obtain ⟨P, rfl, hFP, hBP, hPs5⟩ := hcut
    clear hPs P0 P1 P2 P3 P4
    go_wp2_with fail
    go_cut [10] (fun s10 wx => ∃ Q, s10 = .pointer (some ⟨Q, 0, none⟩) ∧ F < Q ∧ P ≠ Q ∧ Blk wx Q 25 #[.int .i64 v5, .int .i64 v6, .bool (v7 == 1)] ∧ Blk wx P 23 #[.int .i64 v0, .int .i64 v1, .int .i64 v2, .int .i64 v3, .int .i64 v4] ∧ Ps w G F CS ((((((((true && o0) && o1) && o2) && o3) && o4) && o5) && o6) && o7) wx)
    case first =>
      refine wp_region_noPanic ?_
      refine wp_region_held_drew (S := fun W => W.cell? ⟨G, 0, none⟩ = some (.string (txt x0)) ∧ W.cell? ⟨G, 1, none⟩ = some (.string (txt x1)) ∧ W.cell? ⟨G, 2, none⟩ = some (.string (txt x2)) ∧ W.cell? ⟨G, 3, none⟩ = some (.string (txt x3)) ∧ W.cell? ⟨G, 4, none⟩ = some (.string (txt x4)) ∧ W.cell? ⟨G, 5, none⟩ = some (.string (txt x5)) ∧ W.cell? ⟨G, 6, none⟩ = some (.string (txt x6)) ∧ W.cell? ⟨G, 7, none⟩ = some (.string (txt x7))) (by kernel_rfl) (HS.out _ _ (hPs5.more (bd wc))) (fun hHeld => ?_)
      have q0 := hPs5.more (bd wc)
      have XX := hBP.below (bd wc) hBP.lt
      clear hPs5 hBP
      generalize wc.drew = y at *
      refine wpAnyH_take (i := 0) (oi := ⟨some 48, _, _, _, _, _⟩) (v := ?_) rfl (by kernel_rfl) (by kernel_rfl) (by kernel_rfl) (fun _ _ _ h => h) (Or.inl ⟨by rfl, ?_⟩) (by assumption) ?_
      rotate_left 1
      · (intro W hSw; go_simp <;> with_reducible rfl)
      try simp only [Act.put, List.setIfInBounds_toArray, List.set_cons_zero, List.set_cons_succ]
      refine wpAnyH_take (i := 1) (oi := ⟨some 49, _, _, _, _, _⟩) (v := ?_) rfl (by kernel_rfl) (by kernel_rfl) (by kernel_rfl) (fun _ _ _ h => h) (Or.inl ⟨by rfl, ?_⟩) (by assumption) ?_
      rotate_left 1
      · (intro W hSw; go_simp <;> with_reducible rfl)
      try simp only [Act.put, List.setIfInBounds_toArray, List.set_cons_zero, List.set_cons_succ]
      refine wpAnyH_take (i := 2) (oi := ⟨some 50, _, _, _, _, _⟩) (v := ?_) rfl (by kernel_rfl) (by kernel_rfl) (by kernel_rfl) (fun _ _ _ h => h) (Or.inl ⟨by rfl, ?_⟩) (by assumption) ?_
      rotate_left 1
      · (intro W hSw; go_simp <;> with_reducible rfl)
      try simp only [Act.put, List.setIfInBounds_toArray, List.set_cons_zero, List.set_cons_succ]
      refine wpAnyH_take (i := 3) (oi := ⟨some 51, _, _, _, _, _⟩) (v := ?_) rfl (by kernel_rfl) (by kernel_rfl) (by kernel_rfl) (fun _ _ _ h => h) (Or.inl ⟨by rfl, ?_⟩) (by assumption) ?_
      rotate_left 1
      · (intro W hSw; go_simp <;> with_reducible rfl)
      try simp only [Act.put, List.setIfInBounds_toArray, List.set_cons_zero, List.set_cons_succ]
      refine wpAnyH_take (i := 5) (oi := ⟨some 53, _, _, _, _, _⟩) (v := ?_) rfl (by kernel_rfl) (by kernel_rfl) (by kernel_rfl) (fun _ _ _ h => h) (Or.inl ⟨by rfl, ?_⟩) (by assumption) ?_
      rotate_left 1
      · (intro W hSw; go_simp <;> with_reducible rfl)
      try simp only [Act.put, List.setIfInBounds_toArray, List.set_cons_zero, List.set_cons_succ]
      refine wpAnyH_take (i := 6) (oi := ⟨some 54, _, _, _, _, _⟩) (v := ?_) rfl (by kernel_rfl) (by kernel_rfl) (by kernel_rfl) (fun _ _ _ h => h) (Or.inl ⟨by rfl, ?_⟩) (by assumption) ?_
      rotate_left 1
      · (intro W hSw; go_simp <;> with_reducible rfl)
      try simp only [Act.put, List.setIfInBounds_toArray, List.set_cons_zero, List.set_cons_succ]
      refine wpAnyH_take (i := 7) (oi := ⟨some 55, _, _, _, _, _⟩) (v := ?_) rfl (by kernel_rfl) (by kernel_rfl) (by kernel_rfl) (fun _ _ _ h => h) (Or.inl ⟨by rfl, ?_⟩) (by assumption) ?_
      rotate_left 1
      · (intro W hSw; go_simp <;> with_reducible rfl)
      try simp only [Act.put, List.setIfInBounds_toArray, List.set_cons_zero, List.set_cons_succ]
      refine wpAnyH_take (i := 8) (oi := ⟨some 56, _, _, _, _, _⟩) (v := ?_) rfl (by kernel_rfl) (by kernel_rfl) (by kernel_rfl) (fun _ _ _ h => h) (Or.inl ⟨by rfl, ?_⟩) (by assumption) ?_
      rotate_left 1
      · (intro W hSw; go_simp <;> with_reducible rfl)
      try simp only [Act.put, List.setIfInBounds_toArray, List.set_cons_zero, List.set_cons_succ]
      refine wpAnyH_take (i := 10) (oi := ⟨some 58, _, _, _, _, _⟩) (v := ?_) rfl (by kernel_rfl) (by kernel_rfl) (by kernel_rfl) (fun _ _ _ h => h) (Or.inl ⟨by rfl, ?_⟩) (by assumption) ?_
      rotate_left 1
      · (intro W hSw; go_simp <;> with_reducible rfl)
      try simp only [Act.put, List.setIfInBounds_toArray, List.set_cons_zero, List.set_cons_succ]
      refine wpAnyH_take (i := 11) (oi := ⟨some 59, _, _, _, _, _⟩) (v := ?_) rfl (by kernel_rfl) (by kernel_rfl) (by kernel_rfl) (fun _ _ _ h => h) (Or.inl ⟨by rfl, ?_⟩) (by assumption) ?_
      rotate_left 1
      · (intro W hSw; go_simp <;> with_reducible rfl)
      try simp only [Act.put, List.setIfInBounds_toArray, List.set_cons_zero, List.set_cons_succ]
      refine wpAnyH_take (i := 12) (oi := ⟨some 60, _, _, _, _, _⟩) (v := ?_) rfl (by kernel_rfl) (by kernel_rfl) (by kernel_rfl) (fun _ _ _ h => h) (Or.inl ⟨by rfl, ?_⟩) (by assumption) ?_
      rotate_left 1
      · (intro W hSw; go_simp <;> with_reducible rfl)
      try simp only [Act.put, List.setIfInBounds_toArray, List.set_cons_zero, List.set_cons_succ]
      refine wpAnyH_take (i := 13) (oi := ⟨some 61, _, _, _, _, _⟩) (v := ?_) rfl (by kernel_rfl) (by kernel_rfl) (by kernel_rfl) (fun _ _ _ h => h) (Or.inl ⟨by rfl, ?_⟩) (by assumption) ?_
      rotate_left 1
      · (intro W hSw; go_simp <;> with_reducible rfl)
      try simp only [Act.put, List.setIfInBounds_toArray, List.set_cons_zero, List.set_cons_succ]
      refine wpAnyH_ready (rs := [4, 17]) (by kernel_rfl) (by simp) ?_
      refine AllReadyH.cons rfl (fun K hK => ?_) (AllReadyH.cons rfl (fun K hK => ?_) AllReadyH.nil)
      · go_simp
        refine (P5 _ _ q0.laid q0.form).mono ?_
        rintro e y0 ⟨rfl, fy0, gy0⟩
        have qy0 := q0.took fy0 gy0
        have Xy0 : Blk y0 P 23 #[.int .i64 v0, .int .i64 v1, .int .i64 v2, .int .i64 v3, .int .i64 v4] := (gy0.block _ XX.lt (by simp; omega)).trans XX
        refine hK.out _ _ (HS.out _ _ qy0) (fun hy0 => ?_)
        clear hHeld hK K
        try simp only [Act.put, List.setIfInBounds_toArray, List.set_cons_zero, List.set_cons_succ]
        refine wpAnyH_ready (rs := [9, 17]) (by kernel_rfl) (by simp) ?_
        refine AllReadyH.cons rfl (fun K hK => ?_) (AllReadyH.cons rfl (fun K hK => ?_) AllReadyH.nil)
        · go_simp
          refine (P6 _ _ qy0.laid qy0.form).mono ?_
          rintro e y01 ⟨rfl, fy01, gy01⟩
          have qy01 := qy0.took fy01 gy01
          have Xy01 : Blk y01 P 23 #[.int .i64 v0, .int .i64 v1, .int .i64 v2, .int .i64 v3, .int .i64 v4] := (gy01.block _ Xy0.lt (by simp; omega)).trans Xy0
          refine hK.out _ _ (HS.out _ _ qy01) (fun hy01 => ?_)
          clear hy0 hK K
          try simp only [Act.put, List.setIfInBounds_toArray, List.set_cons_zero, List.set_cons_succ]
          refine wpAnyH_ready (rs := [14, 17]) (by kernel_rfl) (by simp) ?_
          refine AllReadyH.cons rfl (fun K hK => ?_) (AllReadyH.cons rfl (fun K hK => ?_) AllReadyH.nil)
          · go_simp
            refine (P7 _ _ qy01.laid qy01.form).mono ?_
            rintro e y012 ⟨rfl, fy012, gy012⟩
            have qy012 := qy01.took fy012 gy012
            have Xy012 : Blk y012 P 23 #[.int .i64 v0, .int .i64 v1, .int .i64 v2, .int .i64 v3, .int .i64 v4] := (gy012.block _ Xy01.lt (by simp; omega)).trans Xy01
            refine hK.out _ _ (HS.out _ _ qy012) (fun hy012 => ?_)
            clear hy01 hK K
            try simp only [Act.put, List.setIfInBounds_toArray, List.set_cons_zero, List.set_cons_succ]
            refine wpAnyH_take (i := 15) (oi := ⟨some 63, _, _, _, _, _⟩) (v := ?_) rfl (by kernel_rfl) (by kernel_rfl) (by kernel_rfl) (fun _ _ _ h => h) (Or.inl ⟨by rfl, ?_⟩) (by assumption) ?_
            rotate_left 1
            · (intro W hSw; go_simp <;> with_reducible rfl)
            try simp only [Act.put, List.setIfInBounds_toArray, List.set_cons_zero, List.set_cons_succ]
            refine wpAnyH_take (i := 16) (oi := ⟨some 64, _, _, _, _, _⟩) (v := ?_) rfl (by kernel_rfl) (by kernel_rfl) (by kernel_rfl) (fun _ _ _ h => h) (Or.inl ⟨by rfl, ?_⟩) (by assumption) ?_
            rotate_left 1
            · (intro W hSw; go_simp <;> with_reducible rfl)
            try simp only [Act.put, List.setIfInBounds_toArray, List.set_cons_zero, List.set_cons_succ]
            refine wpAnyH_ready (rs := [17]) (by kernel_rfl) (by simp) ?_
            refine AllReadyH.cons rfl (fun K hK => ?_) AllReadyH.nil
            go_simp
            obtain ⟨y012a, ey012a⟩ : ∃ zz, zz = y012.alloc (.cells #[.int .i64 0, .int .i64 0, .bool false] 25) := ⟨_, rfl⟩
            have by012a : Below y012.heap.size y012 y012a := by rw [ey012a]; exact (Below.refl _ y012).alloc (Nat.le_refl _) _
            have Ay012a : Blk y012a y012.heap.size 25 #[.int .i64 0, .int .i64 0, .bool false] := by rw [ey012a]; exact heap_alloc_new y012 _
            have qy012a := qy012.more by012a
            have ly012a : F < y012.heap.size := qy012.form.lt
            have Xy012a : Blk y012a P 23 #[.int .i64 v0, .int .i64 v1, .int .i64 v2, .int .i64 v3, .int .i64 v4] := Xy012.below by012a Xy012.lt
            have my012a : P < y012.heap.size := Xy012.lt
            rw [← ey012a]
            refine hK.out _ _ (HS.out _ _ qy012a) (fun hy012a => ?_)
            clear hy012 hK K ey012a
            try simp only [Act.put, List.setIfInBounds_toArray, List.set_cons_zero, List.set_cons_succ]
            generalize y012.heap.size = Py012a at *
            refine wpAnyH_ready (rs := [18]) (by kernel_rfl) (by simp) ?_
            refine AllReadyH.cons rfl (fun K hK => ?_) AllReadyH.nil
            rw [if_pos (by rfl)]
            refine wp_store_row 25 (.tmp 10) (.tmp 64) rfl Py012a #[.int .i64 v5, .int .i64 v6, .bool (v7 == 1)] rfl rfl 25 #[.int .i64 0, .int .i64 0, .bool false] Ay012a info25 rfl (by simp [Value.oneCell']) ?_
            refine hK.out _ _ (HS.out _ _ (qy012a.set_ (by omega) #[.int .i64 v5, .int .i64 v6, .bool (v7 == 1)])) (fun hz => ?_)
            clear hK K hy012a
            try simp only [Act.put, List.setIfInBounds_toArray, List.set_cons_zero, List.set_cons_succ]
            refine wpAnyH_done (by kernel_rfl) ?_ _
            refine NoPanic.normal ?_
            go_wp2_with fail
            go_meet
            exact ⟨Py012a, rfl, by omega, by omega, setRow_heap _ _ _ _ _ _ Ay012a, (setRow_other _ _ _ _ (by omega)).trans Xy012a, qy012a.set_ (by omega) _⟩
          · go_simp
            obtain ⟨y01a, ey01a⟩ : ∃ zz, zz = y01.alloc (.cells #[.int .i64 0, .int .i64 0, .bool false] 25) := ⟨_, rfl⟩
            have by01a : Below y01.heap.size y01 y01a := by rw [ey01a]; exact (Below.refl _ y01).alloc (Nat.le_refl _) _
            have Ay01a : Blk y01a y01.heap.size 25 #[.int .i64 0, .int .i64 0, .bool false] := by rw [ey01a]; exact heap_alloc_new y01 _
            have qy01a := qy01.more by01a
            have ly01a : F < y01.heap.size := qy01.form.lt
            have Xy01a : Blk y01a P 23 #[.int .i64 v0, .int .i64 v1, .int .i64 v2, .int .i64 v3, .int .i64 v4] := Xy01.below by01a Xy01.lt
            have my01a : P < y01.heap.size := Xy01.lt
            rw [← ey01a]
            refine hK.out _ _ (HS.out _ _ qy01a) (fun hy01a => ?_)
            clear hy01 hK K ey01a
            try simp only [Act.put, List.setIfInBounds_toArray, List.set_cons_zero, List.set_cons_succ]
            generalize y01.heap.size = Py01a at *
            refine wpAnyH_ready (rs := [14]) (by kernel_rfl) (by simp) ?_
            refine AllReadyH.cons rfl (fun K hK => ?_) AllReadyH.nil
            go_simp
            refine (P7 _ _ qy01a.laid qy01a.form).mono ?_
            rintro e y01a2 ⟨rfl, fy01a2, gy01a2⟩
            have qy01a2 := qy01a.took fy01a2 gy01a2
            have Ay01a2 : Blk y01a2 Py01a 25 #[.int .i64 0, .int .i64 0, .bool false] := (gy01a2.block _ Ay01a.lt (by simp; omega)).trans Ay01a
            have Xy01a2 : Blk y01a2 P 23 #[.int .i64 v0, .int .i64 v1, .int .i64 v2, .int .i64 v3, .int .i64 v4] := (gy01a2.block _ Xy01a.lt (by simp; omega)).trans Xy01a
            refine hK.out _ _ (HS.out _ _ qy01a2) (fun hy01a2 => ?_)
            clear hy01a hK K
            try simp only [Act.put, List.setIfInBounds_toArray, List.set_cons_zero, List.set_cons_succ]
            refine wpAnyH_take (i := 15) (oi := ⟨some 63, _, _, _, _, _⟩) (v := ?_) rfl (by kernel_rfl) (by kernel_rfl) (by kernel_rfl) (fun _ _ _ h => h) (Or.inl ⟨by rfl, ?_⟩) (by assumption) ?_
            rotate_left 1
            · (intro W hSw; go_simp <;> with_reducible rfl)
            try simp only [Act.put, List.setIfInBounds_toArray, List.set_cons_zero, List.set_cons_succ]
            refine wpAnyH_take (i := 16) (oi := ⟨some 64, _, _, _, _, _⟩) (v := ?_) rfl (by kernel_rfl) (by kernel_rfl) (by kernel_rfl) (fun _ _ _ h => h) (Or.inl ⟨by rfl, ?_⟩) (by assumption) ?_
            rotate_left 1
            · (intro W hSw; go_simp <;> with_reducible rfl)
            try simp only [Act.put, List.setIfInBounds_toArray, List.set_cons_zero, List.set_cons_succ]
            refine wpAnyH_ready (rs := [18]) (by kernel_rfl) (by simp) ?_
            refine AllReadyH.cons rfl (fun K hK => ?_) AllReadyH.nil
            rw [if_pos (by rfl)]
            refine wp_store_row 25 (.tmp 10) (.tmp 64) rfl Py01a #[.int .i64 v5, .int .i64 v6, .bool (v7 == 1)] rfl rfl 25 #[.int .i64 0, .int .i64 0, .bool false] Ay01a2 info25 rfl (by simp [Value.oneCell']) ?_
            refine hK.out _ _ (HS.out _ _ (qy01a2.set_ (by omega) #[.int .i64 v5, .int .i64 v6, .bool (v7 == 1)])) (fun hz => ?_)
            clear hK K hy01a2
            try simp only [Act.put, List.setIfInBounds_toArray, List.set_cons_zero, List.set_cons_succ]
            refine wpAnyH_done (by kernel_rfl) ?_ _
            refine NoPanic.normal ?_
            go_wp2_with fail
            go_meet
            exact ⟨Py01a, rfl, by omega, by omega, setRow_heap _ _ _ _ _ _ Ay01a2, (setRow_other _ _ _ _ (by omega)).trans Xy01a2, qy01a2.set_ (by omega) _⟩
        · go_simp
          obtain ⟨y0a, ey0a⟩ : ∃ zz, zz = y0.alloc (.cells #[.int .i64 0, .int .i64 0, .bool false] 25) := ⟨_, rfl⟩
          have by0a : Below y0.heap.size y0 y0a := by rw [ey0a]; exact (Below.refl _ y0).alloc (Nat.le_refl _) _
          have Ay0a : Blk y0a y0.heap.size 25 #[.int .i64 0, .int .i64 0, .bool false] := by rw [ey0a]; exact heap_alloc_new y0 _
          have qy0a := qy0.more by0a
          have ly0a : F < y0.heap.size := qy0.form.lt
          have Xy0a : Blk y0a P 23 #[.int .i64 v0, .int .i64 v1, .int .i64 v2, .int .i64 v3, .int .i64 v4] := Xy0.below by0a Xy0.lt
          have my0a : P < y0.heap.size := Xy0.lt
          rw [← ey0a]
          refine hK.out _ _ (HS.out _ _ qy0a) (fun hy0a => ?_)
          clear hy0 hK K ey0a
          try simp only [Act.put, List.setIfInBounds_toArray, List.set_cons_zero, List.set_cons_succ]
          generalize y0.heap.size = Py0a at *
          refine wpAnyH_ready (rs := [9]) (by kernel_rfl) (by simp) ?_
          refine AllReadyH.cons rfl (fun K hK => ?_) AllReadyH.nil
          go_simp
          refine (P6 _ _ qy0a.laid qy0a.form).mono ?_
          rintro e y0a1 ⟨rfl, fy0a1, gy0a1⟩
          have qy0a1 := qy0a.took fy0a1 gy0a1
          have Ay0a1 : Blk y0a1 Py0a 25 #[.int .i64 0, .int .i64 0, .bool false] := (gy0a1.block _ Ay0a.lt (by simp; omega)).trans Ay0a
          have Xy0a1 : Blk y0a1 P 23 #[.int .i64 v0, .int .i64 v1, .int .i64 v2, .int .i64 v3, .int .i64 v4] := (gy0a1.block _ Xy0a.lt (by simp; omega)).trans Xy0a
          refine hK.out _ _ (HS.out _ _ qy0a1) (fun hy0a1 => ?_)
          clear hy0a hK K
          try simp only [Act.put, List.setIfInBounds_toArray, List.set_cons_zero, List.set_cons_succ]
          refine wpAnyH_ready (rs := [14]) (by kernel_rfl) (by simp) ?_
          refine AllReadyH.cons rfl (fun K hK => ?_) AllReadyH.nil
          go_simp
          refine (P7 _ _ qy0a1.laid qy0a1.form).mono ?_
          rintro e y0a12 ⟨rfl, fy0a12, gy0a12⟩
          have qy0a12 := qy0a1.took fy0a12 gy0a12
          have Ay0a12 : Blk y0a12 Py0a 25 #[.int .i64 0, .int .i64 0, .bool false] := (gy0a12.block _ Ay0a1.lt (by simp; omega)).trans Ay0a1
          have Xy0a12 : Blk y0a12 P 23 #[.int .i64 v0, .int .i64 v1, .int .i64 v2, .int .i64 v3, .int .i64 v4] := (gy0a12.block _ Xy0a1.lt (by simp; omega)).trans Xy0a1
          refine hK.out _ _ (HS.out _ _ qy0a12) (fun hy0a12 => ?_)
          clear hy0a1 hK K
          try simp only [Act.put, List.setIfInBounds_toArray, List.set_cons_zero, List.set_cons_succ]
          refine wpAnyH_take (i := 15) (oi := ⟨some 63, _, _, _, _, _⟩) (v := ?_) rfl (by kernel_rfl) (by kernel_rfl) (by kernel_rfl) (fun _ _ _ h => h) (Or.inl ⟨by rfl, ?_⟩) (by assumption) ?_
          rotate_left 1
          · (intro W hSw; go_simp <;> with_reducible rfl)
          try simp only [Act.put, List.setIfInBounds_toArray, List.set_cons_zero, List.set_cons_succ]
          refine wpAnyH_take (i := 16) (oi := ⟨some 64, _, _, _, _, _⟩) (v := ?_) rfl (by kernel_rfl) (by kernel_rfl) (by kernel_rfl) (fun _ _ _ h => h) (Or.inl ⟨by rfl, ?_⟩) (by assumption) ?_
          rotate_left 1
          · (intro W hSw; go_simp <;> with_reducible rfl)
          try simp only [Act.put, List.setIfInBounds_toArray, List.set_cons_zero, List.set_cons_succ]
          refine wpAnyH_ready (rs := [18]) (by kernel_rfl) (by simp) ?_
          refine AllReadyH.cons rfl (fun K hK => ?_) AllReadyH.nil
          rw [if_pos (by rfl)]
          refine wp_store_row 25 (.tmp 10) (.tmp 64) rfl Py0a #[.int .i64 v5, .int .i64 v6, .bool (v7 == 1)] rfl rfl 25 #[.int .i64 0, .int .i64 0, .bool false] Ay0a12 info25 rfl (by simp [Value.oneCell']) ?_
          refine hK.out _ _ (HS.out _ _ (qy0a12.set_ (by omega) #[.int .i64 v5, .int .i64 v6, .bool (v7 == 1)])) (fun hz => ?_)
          clear hK K hy0a12
          try simp only [Act.put, List.setIfInBounds_toArray, List.set_cons_zero, List.set_cons_succ]
          refine wpAnyH_done (by kernel_rfl) ?_ _
          refine NoPanic.normal ?_
          go_wp2_with fail
          go_meet
          exact ⟨Py0a, rfl, by omega, by omega, setRow_heap _ _ _ _ _ _ Ay0a12, (setRow_other _ _ _ _ (by omega)).trans Xy0a12, qy0a12.set_ (by omega) _⟩
      · go_simp
        obtain ⟨ya, eya⟩ : ∃ zz, zz = y.alloc (.cells #[.int .i64 0, .int .i64 0, .bool false] 25) := ⟨_, rfl⟩
        have bya : Below y.heap.size y ya := by rw [eya]; exact (Below.refl _ y).alloc (Nat.le_refl _) _
        have Aya : Blk ya y.heap.size 25 #[.int .i64 0, .int .i64 0, .bool false] := by rw [eya]; exact heap_alloc_new y _
        have qya := q0.more bya
        have lya : F < y.heap.size := q0.form.lt
        have Xya : Blk ya P 23 #[.int .i64 v0, .int .i64 v1, .int .i64 v2, .int .i64 v3, .int .i64 v4] := XX.below bya XX.lt
        have mya : P < y.heap.size := XX.lt
        rw [← eya]
        refine hK.out _ _ (HS.out _ _ qya) (fun hya => ?_)
        clear hHeld hK K eya
        try simp only [Act.put, List.setIfInBounds_toArray, List.set_cons_zero, List.set_cons_succ]
        generalize y.heap.size = Pya at *
        refine wpAnyH_ready (rs := [4]) (by kernel_rfl) (by simp) ?_
        refine AllReadyH.cons rfl (fun K hK => ?_) AllReadyH.nil
        go_simp
        refine (P5 _ _ qya.laid qya.form).mono ?_
        rintro e ya0 ⟨rfl, fya0, gya0⟩
        have qya0 := qya.took fya0 gya0
        have Aya0 : Blk ya0 Pya 25 #[.int .i64 0, .int .i64 0, .bool false] := (gya0.block _ Aya.lt (by simp; omega)).trans Aya
        have Xya0 : Blk ya0 P 23 #[.int .i64 v0, .int .i64 v1, .int .i64 v2, .int .i64 v3, .int .i64 v4] := (gya0.block _ Xya.lt (by simp; omega)).trans Xya
        refine hK.out _ _ (HS.out _ _ qya0) (fun hya0 => ?_)
        clear hya hK K
        try simp only [Act.put, List.setIfInBounds_toArray, List.set_cons_zero, List.set_cons_succ]
        refine wpAnyH_ready (rs := [9]) (by kernel_rfl) (by simp) ?_
        refine AllReadyH.cons rfl (fun K hK => ?_) AllReadyH.nil
        go_simp
        refine (P6 _ _ qya0.laid qya0.form).mono ?_
        rintro e ya01 ⟨rfl, fya01, gya01⟩
        have qya01 := qya0.took fya01 gya01
        have Aya01 : Blk ya01 Pya 25 #[.int .i64 0, .int .i64 0, .bool false] := (gya01.block _ Aya0.lt (by simp; omega)).trans Aya0
        have Xya01 : Blk ya01 P 23 #[.int .i64 v0, .int .i64 v1, .int .i64 v2, .int .i64 v3, .int .i64 v4] := (gya01.block _ Xya0.lt (by simp; omega)).trans Xya0
        refine hK.out _ _ (HS.out _ _ qya01) (fun hya01 => ?_)
        clear hya0 hK K
        try simp only [Act.put, List.setIfInBounds_toArray, List.set_cons_zero, List.set_cons_succ]
        refine wpAnyH_ready (rs := [14]) (by kernel_rfl) (by simp) ?_
        refine AllReadyH.cons rfl (fun K hK => ?_) AllReadyH.nil
        go_simp
        refine (P7 _ _ qya01.laid qya01.form).mono ?_
        rintro e ya012 ⟨rfl, fya012, gya012⟩
        have qya012 := qya01.took fya012 gya012
        have Aya012 : Blk ya012 Pya 25 #[.int .i64 0, .int .i64 0, .bool false] := (gya012.block _ Aya01.lt (by simp; omega)).trans Aya01
        have Xya012 : Blk ya012 P 23 #[.int .i64 v0, .int .i64 v1, .int .i64 v2, .int .i64 v3, .int .i64 v4] := (gya012.block _ Xya01.lt (by simp; omega)).trans Xya01
        refine hK.out _ _ (HS.out _ _ qya012) (fun hya012 => ?_)
        clear hya01 hK K
        try simp only [Act.put, List.setIfInBounds_toArray, List.set_cons_zero, List.set_cons_succ]
        refine wpAnyH_take (i := 15) (oi := ⟨some 63, _, _, _, _, _⟩) (v := ?_) rfl (by kernel_rfl) (by kernel_rfl) (by kernel_rfl) (fun _ _ _ h => h) (Or.inl ⟨by rfl, ?_⟩) (by assumption) ?_
        rotate_left 1
        · (intro W hSw; go_simp <;> with_reducible rfl)
        try simp only [Act.put, List.setIfInBounds_toArray, List.set_cons_zero, List.set_cons_succ]
        refine wpAnyH_take (i := 16) (oi := ⟨some 64, _, _, _, _, _⟩) (v := ?_) rfl (by kernel_rfl) (by kernel_rfl) (by kernel_rfl) (fun _ _ _ h => h) (Or.inl ⟨by rfl, ?_⟩) (by assumption) ?_
        rotate_left 1
        · (intro W hSw; go_simp <;> with_reducible rfl)
        try simp only [Act.put, List.setIfInBounds_toArray, List.set_cons_zero, List.set_cons_succ]
        refine wpAnyH_ready (rs := [18]) (by kernel_rfl) (by simp) ?_
        refine AllReadyH.cons rfl (fun K hK => ?_) AllReadyH.nil
        rw [if_pos (by rfl)]
        refine wp_store_row 25 (.tmp 10) (.tmp 64) rfl Pya #[.int .i64 v5, .int .i64 v6, .bool (v7 == 1)] rfl rfl 25 #[.int .i64 0, .int .i64 0, .bool false] Aya012 info25 rfl (by simp [Value.oneCell']) ?_
        refine hK.out _ _ (HS.out _ _ (qya012.set_ (by omega) #[.int .i64 v5, .int .i64 v6, .bool (v7 == 1)])) (fun hz => ?_)
        clear hK K hya012
        try simp only [Act.put, List.setIfInBounds_toArray, List.set_cons_zero, List.set_cons_succ]
        refine wpAnyH_done (by kernel_rfl) ?_ _
        refine NoPanic.normal ?_
        go_wp2_with fail
        go_meet
        exact ⟨Pya, rfl, by omega, by omega, setRow_heap _ _ _ _ _ _ Aya012, (setRow_other _ _ _ _ (by omega)).trans Xya012, qya012.set_ (by omega) _⟩
    case rest =>
    obtain ⟨Q, rfl, hFQ, hPQ, hBQ, hBP, hPs8⟩ := hcut
    clear hPs5 P5 P6 P7
    obtain ⟨fb, efb⟩ : ∃ b, ((((((((true && o0) && o1) && o2) && o3) && o4) && o5) && o6) && o7) = b := ⟨_, rfl⟩
    have hgw := HGW.out
    rw [efb] at hPs8 hgw
    clear efb HGW
    have HG := Lib.hid hgw
    clear hgw
    have f0 : wc.cell? ⟨F, 0, none⟩ = some (.bool fb) := hPs8.form.cell 0
    have hcg := hPs8.cg
    have hgF := hPs8.gF
    cases fb with
    | false =>
      have c3 := hPs8.cfg
      have d3 : Blk (wc.setRow w.heap.size #[.int .i64 0, .int .i64 0, .int .i64 0, .int .i64 0, .int .i64 0]) (w.heap.size + 1) 25 #[.int .i64 0, .int .i64 0, .bool false] := (setRow_other _ _ _ _ (by omega)).trans hPs8.ask
      go_wp2_with (first
        | (refine wpList_store_row rfl 23 (.tmp 2) (.tmp 67) rfl w.heap.size #[.int .i64 0, .int .i64 0, .int .i64 0, .int .i64 0, .int .i64 0] rfl rfl 23 #[.int .i64 0, .int .i64 0, .int .i64 0, .int .i64 0, .int .i64 0] c3 info23 rfl one5 ?_)
        | (refine wpList_store_row rfl 25 (.tmp 3) (.tmp 68) rfl (w.heap.size + 1) #[.int .i64 0, .int .i64 0, .bool false] rfl rfl 25 #[.int .i64 0, .int .i64 0, .bool false] d3 info25 rfl one3 ?_))
      refine bodyPost_ret (res17 _ _ w.heap.size (w.heap.size + 1) #[.int .i64 0, .int .i64 0, .int .i64 0, .int .i64 0, .int .i64 0] #[.int .i64 0, .int .i64 0, .bool false] _ rfl rfl rfl ((setRow_other _ _ _ _ (by omega)).trans (setRow_heap _ _ _ _ _ _ c3)) (setRow_heap _ _ _ _ _ _ d3) rfl rfl) rfl ?_
      exact ⟨.inl ⟨_, .inl rfl, (fun h => by have hh := HG.out.1 h; simp at hh), rfl⟩, below_setRow (below_setRow hPs8.bel (Nat.le_refl _) _) (by omega) _⟩
    | true =>
      have p0 : wc.cell? ⟨P, 0, none⟩ = some (.int .i64 v0) := hBP.cell 0
      have p1 : wc.cell? ⟨P, 1, none⟩ = some (.int .i64 v1) := hBP.cell 1
      have p2 : wc.cell? ⟨P, 2, none⟩ = some (.int .i64 v2) := hBP.cell 2
      have p3 : wc.cell? ⟨P, 3, none⟩ = some (.int .i64 v3) := hBP.cell 3
      have p4 : wc.cell? ⟨P, 4, none⟩ = some (.int .i64 v4) := hBP.cell 4
      have q0 : wc.cell? ⟨Q, 0, none⟩ = some (.int .i64 v5) := hBQ.cell 0
      have q1 : wc.cell? ⟨Q, 1, none⟩ = some (.int .i64 v6) := hBQ.cell 1
      have q2 : wc.cell? ⟨Q, 2, none⟩ = some (.bool (v7 == 1)) := hBQ.cell 2
      have hBo := both_any ⟨v0, v1, v2, v3, v4⟩ ⟨v5, v6, v7 == 1⟩ wc hPs8.laid
      have hch : chkB ⟨v0, v1, v2, v3, v4⟩ ⟨v5, v6, v7 == 1⟩ = 0 ∨ chkB ⟨v0, v1, v2, v3, v4⟩ ⟨v5, v6, v7 == 1⟩ = 3 := by rw [chkB_of]; cases (okC ⟨v0, v1, v2, v3, v4⟩ && okA ⟨v5, v6, v7 == 1⟩) <;> simp
      obtain ⟨ck, eck⟩ : ∃ c, chkB ⟨v0, v1, v2, v3, v4⟩ ⟨v5, v6, v7 == 1⟩ = c := ⟨_, rfl⟩
      have hg2 := HG.out
      rw [eck] at hBo hch hg2
      clear HG eck
      have HG := Lib.hid hg2
      clear hg2
      simp only at hBo
      rcases hch with rfl | rfl
      · go_wp2_with fail
        refine hBo.mono ?_
        rintro e y1 ⟨rfl, hb3⟩
        have hP1 := hPs8.more hb3
        have hBP1 := hBP.below hb3 hBP.lt
        have hBQ1 := hBQ.below hb3 hBQ.lt
        clear p0 p1 p2 p3 p4 q0 q1 q2 f0 hBP hBQ hPs8 hBo
        go_wp2_with fail
        have bdy := bd y1
        have hP2 := hP1.more bdy
        have hBP2 := hBP1.below bdy hBP1.lt
        have hBQ2 := hBQ1.below bdy hBQ1.lt
        clear hP1 hBP1 hBQ1
        have hSS : ∀ W : World, Blk W P 23 #[.int .i64 v0, .int .i64 v1, .int .i64 v2, .int .i64 v3, .int .i64 v4] → Blk W Q 25 #[.int .i64 v5, .int .i64 v6, .bool (v7 == 1)] → (W.cell? ⟨P, 0, none⟩ = some (.int .i64 v0) ∧ W.cell? ⟨P, 1, none⟩ = some (.int .i64 v1) ∧ W.cell? ⟨P, 2, none⟩ = some (.int .i64 v2) ∧ W.cell? ⟨P, 3, none⟩ = some (.int .i64 v3) ∧ W.cell? ⟨P, 4, none⟩ = some (.int .i64 v4) ∧ W.cell? ⟨Q, 0, none⟩ = some (.int .i64 v5) ∧ W.cell? ⟨Q, 1, none⟩ = some (.int .i64 v6) ∧ W.cell? ⟨Q, 2, none⟩ = some (.bool (v7 == 1))) := fun W a b => ⟨a.cell 0, a.cell 1, a.cell 2, a.cell 3, a.cell 4, b.cell 0, b.cell 1, b.cell 2⟩
        have HS2 := Lib.hid hSS
        clear hSS
        refine wp_region_noPanic ?_
        refine wp_region_held_drew (S := fun W => W.cell? ⟨P, 0, none⟩ = some (.int .i64 v0) ∧ W.cell? ⟨P, 1, none⟩ = some (.int .i64 v1) ∧ W.cell? ⟨P, 2, none⟩ = some (.int .i64 v2) ∧ W.cell? ⟨P, 3, none⟩ = some (.int .i64 v3) ∧ W.cell? ⟨P, 4, none⟩ = some (.int .i64 v4) ∧ W.cell? ⟨Q, 0, none⟩ = some (.int .i64 v5) ∧ W.cell? ⟨Q, 1, none⟩ = some (.int .i64 v6) ∧ W.cell? ⟨Q, 2, none⟩ = some (.bool (v7 == 1))) (by kernel_rfl) (HS2.out _ hBP2 hBQ2) (fun hHeld => ?_)
        clear bdy
        generalize y1.drew = V at *
        have hC7 := hP2.cfg
        have hA7 : Blk (V.setRow w.heap.size #[.int .i64 v0, .int .i64 v1, .int .i64 v2, .int .i64 v3, .int .i64 v4]) (w.heap.size + 1) 25 #[.int .i64 0, .int .i64 0, .bool false] := (setRow_other _ _ _ _ (by omega)).trans hP2.ask
        have e1 : Blk (V.setRow w.heap.size #[.int .i64 v0, .int .i64 v1, .int .i64 v2, .int .i64 v3, .int .i64 v4]) P 23 #[.int .i64 v0, .int .i64 v1, .int .i64 v2, .int .i64 v3, .int .i64 v4] := (setRow_other _ _ _ _ (by omega)).trans hBP2
        have e2 : Blk (V.setRow w.heap.size #[.int .i64 v0, .int .i64 v1, .int .i64 v2, .int .i64 v3, .int .i64 v4]) Q 25 #[.int .i64 v5, .int .i64 v6, .bool (v7 == 1)] := (setRow_other _ _ _ _ (by omega)).trans hBQ2
        have e3 : Blk ((V.setRow w.heap.size #[.int .i64 v0, .int .i64 v1, .int .i64 v2, .int .i64 v3, .int .i64 v4]).setRow (w.heap.size + 1) #[.int .i64 v5, .int .i64 v6, .bool (v7 == 1)]) P 23 #[.int .i64 v0, .int .i64 v1, .int .i64 v2, .int .i64 v3, .int .i64 v4] := (setRow_other _ _ _ _ (by omega)).trans e1
        have e4 : Blk ((V.setRow w.heap.size #[.int .i64 v0, .int .i64 v1, .int .i64 v2, .int .i64 v3, .int .i64 v4]).setRow (w.heap.size + 1) #[.int .i64 v5, .int .i64 v6, .bool (v7 == 1)]) Q 25 #[.int .i64 v5, .int .i64 v6, .bool (v7 == 1)] := (setRow_other _ _ _ _ (by omega)).trans e2
        have E1 := Lib.hid (HS2.out _ e1 e2)
        have E2 := Lib.hid (HS2.out _ e3 e4)
        clear e1 e2 e3 e4
        refine wpAnyH_take (i := 0) (oi := ⟨some 77, _, _, _, _, _⟩) (v := ?_) rfl (by kernel_rfl) (by kernel_rfl) (by kernel_rfl) (fun _ _ _ h => h) (Or.inl ⟨by rfl, ?_⟩) (by assumption) ?_
        rotate_left 1
        · (intro W hSw; go_simp <;> with_reducible rfl)
        try simp only [Act.put, List.setIfInBounds_toArray, List.set_cons_zero, List.set_cons_succ]
        refine wpAnyH_take (i := 1) (oi := ⟨some 78, _, _, _, _, _⟩) (v := ?_) rfl (by kernel_rfl) (by kernel_rfl) (by kernel_rfl) (fun _ _ _ h => h) (Or.inl ⟨by rfl, ?_⟩) (by assumption) ?_
        rotate_left 1
        · (intro W hSw; go_simp <;> with_reducible rfl)
        try simp only [Act.put, List.setIfInBounds_toArray, List.set_cons_zero, List.set_cons_succ]
        refine wpAnyH_ready (rs := [2]) (by kernel_rfl) (by simp) ?_
        refine AllReadyH.cons rfl (fun K hK => ?_) AllReadyH.nil
        rw [if_pos (by rfl)]
        refine wp_store_row 23 (.tmp 2) (.tmp 77) rfl w.heap.size #[.int .i64 v0, .int .i64 v1, .int .i64 v2, .int .i64 v3, .int .i64 v4] rfl rfl 23 #[.int .i64 0, .int .i64 0, .int .i64 0, .int .i64 0, .int .i64 0] hC7 info23 rfl (by simp [Value.oneCell']) ?_
        refine hK.out _ _ E1.out (fun hH2 => ?_)
        clear hK K hHeld
        try simp only [Act.put, List.setIfInBounds_toArray, List.set_cons_zero, List.set_cons_succ]
        refine wpAnyH_ready (rs := [3]) (by kernel_rfl) (by simp) ?_
        refine AllReadyH.cons rfl (fun K hK => ?_) AllReadyH.nil
        rw [if_pos (by rfl)]
        refine wp_store_row 25 (.tmp 3) (.tmp 78) rfl (w.heap.size + 1) #[.int .i64 v5, .int .i64 v6, .bool (v7 == 1)] rfl rfl 25 #[.int .i64 0, .int .i64 0, .bool false] hA7 info25 rfl (by simp [Value.oneCell']) ?_
        refine hK.out _ _ E2.out (fun hH3 => ?_)
        clear hK K hH2
        try simp only [Act.put, List.setIfInBounds_toArray, List.set_cons_zero, List.set_cons_succ]
        refine wpAnyH_take (i := 4) (oi := ⟨some 4, _, _, _, _, _⟩) (v := ?_) rfl (by kernel_rfl) (by kernel_rfl) (by kernel_rfl) (fun _ _ _ h => h) (Or.inl ⟨by rfl, ?_⟩) (by assumption) ?_
        rotate_left 1
        · (intro W hSw; go_simp <;> with_reducible rfl)
        try simp only [Act.put, List.setIfInBounds_toArray, List.set_cons_zero, List.set_cons_succ]
        refine wpAnyH_done (by kernel_rfl) ?_ _
        refine NoPanic.normal ?_
        go_wp2
        refine bodyPost_ret (res17 _ _ w.heap.size (w.heap.size + 1) #[.int .i64 v0, .int .i64 v1, .int .i64 v2, .int .i64 v3, .int .i64 v4] #[.int .i64 v5, .int .i64 v6, .bool (v7 == 1)] _ rfl rfl rfl ((setRow_other _ _ _ _ (by omega)).trans (setRow_heap _ _ _ _ _ _ hC7)) (setRow_heap _ _ _ _ _ _ hA7) rfl rfl) rfl ?_
        refine ⟨.inr ⟨HG.out.2 (by simp), ?_⟩, below_setRow (below_setRow hP2.bel (Nat.le_refl _) _) (by omega) _⟩
        rw [HCF.out, HAF.out]
        rfl
      · go_wp2_with fail
        refine hBo.mono ?_
        rintro e y1 ⟨rfl, hb3⟩
        have hP1 := hPs8.more hb3
        clear p0 p1 p2 p3 p4 q0 q1 q2 f0 hBP hBQ hPs8 hBo
        have c3 := hP1.cfg
        have d3 : Blk (y1.setRow w.heap.size #[.int .i64 0, .int .i64 0, .int .i64 0, .int .i64 0, .int .i64 0]) (w.heap.size + 1) 25 #[.int .i64 0, .int .i64 0, .bool false] := (setRow_other _ _ _ _ (by omega)).trans hP1.ask
        go_wp2_with (first
          | (refine wpList_store_row rfl 23 (.tmp 2) (.tmp 74) rfl w.heap.size #[.int .i64 0, .int .i64 0, .int .i64 0, .int .i64 0, .int .i64 0] rfl rfl 23 #[.int .i64 0, .int .i64 0, .int .i64 0, .int .i64 0, .int .i64 0] c3 info23 rfl one5 ?_)
          | (refine wpList_store_row rfl 25 (.tmp 3) (.tmp 75) rfl (w.heap.size + 1) #[.int .i64 0, .int .i64 0, .bool false] rfl rfl 25 #[.int .i64 0, .int .i64 0, .bool false] d3 info25 rfl one3 ?_))
        refine bodyPost_ret (res17 _ _ w.heap.size (w.heap.size + 1) #[.int .i64 0, .int .i64 0, .int .i64 0, .int .i64 0, .int .i64 0] #[.int .i64 0, .int .i64 0, .bool false] _ rfl rfl rfl ((setRow_other _ _ _ _ (by omega)).trans (setRow_heap _ _ _ _ _ _ c3)) (setRow_heap _ _ _ _ _ _ d3) rfl rfl) rfl ?_
        exact ⟨.inl ⟨_, .inr rfl, (fun h => by have hh := HG.out.1 h; simp at hh), rfl⟩, below_setRow (below_setRow hP1.bel (Nat.le_refl _) _) (by omega) _⟩
  · have t1 : (((ws.take 9).length : Int) == 8) = false := by
      have : ¬ (ws.take 9).length = 8 := fun e => h8 (hlen.1 e)
      simp only [beq_eq_false_iff_ne, ne_eq]
      omega
    have hgw : ¬ GoodW ws := fun h => h8 h.1
    clear h8 hlen hsh
    have HGW := Lib.hid hgw
    clear hgw
    generalize vals (ws.take 9) = VS at *
    generalize (ws.take 9).length = n9 at *
    have hv : ∃ A cap, v = .slice A n9 cap := by
      rcases id hown.2 with ⟨rfl, h0⟩ | ⟨g, cap, cur, rfl, _⟩
      · exact ⟨none, 0, by rw [h0]⟩
      · exact ⟨_, cap, rfl⟩
    obtain ⟨A, cap, rfl⟩ := hv
    have hq2' := hq2
    go_wp2_with (first
      | (refine wpList_store_row rfl 23 (.tmp 2) (.tmp 18) rfl w.heap.size #[.int .i64 0, .int .i64 0, .int .i64 0, .int .i64 0, .int .i64 0] rfl rfl 23 #[.int .i64 0, .int .i64 0, .int .i64 0, .int .i64 0, .int .i64 0] hC2 info23 rfl one5 ?_)
      | (refine wpList_store_row rfl 25 (.tmp 3) (.tmp 19) rfl (w.heap.size + 1) #[.int .i64 0, .int .i64 0, .bool false] rfl rfl 25 #[.int .i64 0, .int .i64 0, .bool false] ((setRow_other _ _ _ _ (by omega)).trans hA2) info25 rfl one3 ?_))
    refine bodyPost_ret (res17 _ _ w.heap.size (w.heap.size + 1) #[.int .i64 0, .int .i64 0, .int .i64 0, .int .i64 0, .int .i64 0] #[.int .i64 0, .int .i64 0, .bool false] _ rfl rfl rfl ((setRow_other _ _ _ _ (by omega)).trans (setRow_heap _ _ _ _ _ _ hC2)) (setRow_heap _ _ _ _ _ _ ((setRow_other _ _ _ _ (by omega)).trans hA2)) rfl rfl) rfl ?_
    exact ⟨.inl ⟨_, .inl rfl, HGW.out, rfl⟩, below_setRow (below_setRow hq2' (Nat.le_refl _) _) (by omega) _⟩
end Go.Proofs.YtmkdmnaonddghaaDoor
