/- Contracts of instr's Get: the instruction of twelve octets, or none. Conditions: at most 2000 octets. -/
import Derived.Test.YtcbekkbhhepeaaaDoorPuts
import Derived.Laws.ResultCell

namespace Go.Proofs.YtcbekkbhhepeaaaDoor
open Go.RowKit

set_option maxRecDepth 100000 in
/-- The closure: the next k octets as a number. -/
theorem take_i {w : World} {g c : Nat} {xs : List Int} {a k : Nat} (hc : w.cell? ⟨c, 0, none⟩ = some (.pointer (some ⟨g, 0, none⟩))) (h : Rd w g xs a true) (h1 : 1 ≤ k) (h8 : k ≤ 8) (hak : a + k ≤ xs.length) :
    Calls Tryd.prog 65 #[.int .i64 (k : Int), .pointer (some ⟨c, 0, none⟩)] w fun e w' => e = .returned (.int .i64 (wrap64 (val ((xs.drop a).take k)))) ∧ Rd w' g xs (a + k) true ∧ w.grownBy w' (some g) := by
  go_enter Tryd.func65, Tryd.ntmps65
  go_wp2_with fail
  refine (num_yes h h1 h8 hak).mono ?_
  rintro e w1 ⟨rfl, hr, hg⟩
  go_wp2
  go_ret
  exact ⟨rfl, hr, hg⟩
theorem take_1 {w : World} {g c : Nat} {xs : List Int} {a : Nat} {v : Int} (hv : xs[a]?.getD 0 = v) (hc : w.cell? ⟨c, 0, none⟩ = some (.pointer (some ⟨g, 0, none⟩))) (h : Rd w g xs a true) (hak : a + 1 ≤ xs.length) :
    Calls Tryd.prog 65 #[.int .i64 1, .pointer (some ⟨c, 0, none⟩)] w fun e w' => e = .returned (.int .i64 v) ∧ Rd w' g xs (a + 1) true ∧ w.grownBy w' (some g) := by
  have e1 : (xs.drop a).take 1 = [xs[a]?.getD 0] := by
    rw [List.drop_eq_getElem_cons (by omega), List.take_succ_cons, List.take_zero, List.getElem?_eq_getElem (by omega)]
    rfl
  have hs : Small xs := h.ex.choose_spec.choose_spec.2.small
  have hb := hs.at_ a
  have e2 : wrap64 (val [xs[a]?.getD 0]) = xs[a]?.getD 0 := by
    generalize xs[a]?.getD 0 = x at hb
    simp only [val, List.foldl_cons, List.foldl_nil]
    unfold wrap64
    omega
  have ht := take_i (k := 1) hc h (by omega) (by omega) hak
  rw [e1, e2, hv] at ht
  exact ht
theorem take_8 {w : World} {g c : Nat} {xs : List Int} {v : Int} (hv : wrap64 (val (xs.drop 4)) = v) (hl : xs.length = 12) (hc : w.cell? ⟨c, 0, none⟩ = some (.pointer (some ⟨g, 0, none⟩))) (h : Rd w g xs 4 true) :
    Calls Tryd.prog 65 #[.int .i64 8, .pointer (some ⟨c, 0, none⟩)] w fun e w' => e = .returned (.int .i64 v) ∧ Rd w' g xs (4 + 8) true ∧ w.grownBy w' (some g) := by
  have e1 : (xs.drop 4).take 8 = xs.drop 4 := List.take_of_length_le (by rw [List.length_drop]; omega)
  have ht := take_i (k := 8) hc h (by omega) (by omega) (by omega)
  rw [e1, hv] at ht
  exact ht

theorem ins_one (o a b c n : Int) : (ins o a b c n).all (·.oneCell') = true := by simp [ins, Value.oneCell']
theorem info23 : (Tryd.prog.info? 45).map (·.size) = some 5 := by kernel_rfl
theorem res8 (tmps : Array Value) (w : World) (g : Nat) (o a b c n : Int) (u : Value) (hp : tmps[2]?.getD undef = .pointer (some ⟨g, 0, none⟩)) (hu : tmps[3]?.getD undef = u) (hg : Blk w g 45 (ins o a b c n)) :
    (results Tryd.f60 tmps).run Tryd.prog w = .ok (.tuple #[.agg (ins o a b c n), u]) w := by
  have hr : Tryd.f60.results = #[.cell 2 45, .tmp 3] := by kernel_rfl
  rw [results_cell_tmp hr]
  have h2 : tmps.getD 2 undef = .pointer (some ⟨g, 0, none⟩) := by simpa using hp
  have h3 : tmps.getD 3 undef = u := by simpa using hu
  rw [h2, h3]
  have hl := run_loadVar_row w g 45 45 (ins o a b c n) (0, 0) _ hg Tryd.underlying45 rfl info23
  simp [asAddr, Result.andThen, hl]

set_option maxRecDepth 100000 in
theorem get_none (A : Option Addr) (n cap : Nat) (w : World) (hn : (n : Int) ≠ 12) :
    Calls Tryd.prog 60 #[.slice A n cap] w fun e w' => e = .returned (.tuple #[.agg (ins 0 0 0 0 0), .int .i64 1]) ∧ Below w.heap.size w w' := by
  have hn' : decide ((n : Int) = 12) = false := decide_eq_false hn
  go_enter Tryd.func60, Tryd.ntmps60
  go_wp2
  refine bodyPost_ret (res8 _ _ w.heap.size 0 0 0 0 0 _ rfl rfl (heap_alloc_new w _)) rfl ?_
  exact ⟨rfl, (Below.refl _ w).alloc (Nat.le_refl _) _⟩

theorem cell_same {w w' : World} {k : Nat} (h : w'.heap[k]? = w.heap[k]?) (i : Nat) : w'.cell? ⟨k, i, none⟩ = w.cell? ⟨k, i, none⟩ := by
  unfold World.cell?
  simp only [h]
theorem heap_set (w : World) (g i k : Nat) (u : Value) (h : k ≠ g) : (w.setCell ⟨g, i, none⟩ u).heap[k]? = w.heap[k]? := Below.heap_setCell w _ u k (fun e => h (by rw [e]))

/-- Between two calls of the closure: the reader in g, its pointer in c, the instruction in d, the result in b; W is the world ahead of it all. -/
structure St (W : World) (b g c d : Nat) (xs : List Int) (w : World) (a : Nat) (cs : Array Value) : Prop where
  rd : Rd w g xs a true
  cc : w.cell? ⟨c, 0, none⟩ = some (.pointer (some ⟨g, 0, none⟩))
  bd : Blk w d 45 cs
  rb : Blk w b 45 (ins 0 0 0 0 0)
  bel : Below W.heap.size W w
  wb : W.heap.size ≤ b
  bg : b < g
  gc : g < c
  cd : c < d
theorem St.took {W w w' : World} {b g c d : Nat} {xs : List Int} {a a' : Nat} {cs : Array Value} (h : St W b g c d xs w a cs) (hr : Rd w' g xs a' true) (hg : w.grownBy w' (some g)) : St W b g c d xs w' a' cs := by
  have h1 := h.wb
  have h2 := h.bg
  have h3 := h.gc
  have h4 := h.cd
  have hk : ∀ k, k < w.heap.size → k ≠ g → w'.heap[k]? = w.heap[k]? := fun k hk hne => hg.block k hk (by simpa using hne)
  exact ⟨hr, (cell_same (hk c (World.block_lt_of_cell? w _ h.cc) (by omega)) 0).trans h.cc, (hk d h.bd.lt (by omega)).trans h.bd, (hk b h.rb.lt (by omega)).trans h.rb,
    h.bel.grown hg h.bel.size (fun k hk => by injection hk with hk; omega), h.wb, h.bg, h.gc, h.cd⟩
theorem St.put {W w : World} {b g c d : Nat} {xs : List Int} {a : Nat} {cs : Array Value} (h : St W b g c d xs w a cs) (i : Nat) (u : Value) : St W b g c d xs (w.setCell ⟨d, i, none⟩ u) a (cs.setIfInBounds i u) := by
  have h1 := h.wb
  have h2 := h.bg
  have h3 := h.gc
  have h4 := h.cd
  obtain ⟨⟨A, cap, hk, ho⟩, hm, hl⟩ := h.rd
  refine ⟨⟨⟨A, cap, ?_, ho.keep fun p hp => World.cell?_setCell_other w _ p _ (fun e => ?_)⟩, hm, hl⟩, ?_, h.bd.set_ i u, ?_, h.bel.setCell (by show W.heap.size ≤ d; omega) _, h.wb, h.bg, h.gc, h.cd⟩
  · exact (heap_set w d i g u (by omega)).trans hk
  · subst e
    simp at hp
    omega
  · exact (cell_same (heap_set w d i c u (by omega)) 0).trans h.cc
  · exact (heap_set w d i b u (by omega)).trans h.rb

set_option maxRecDepth 100000 in
set_option maxHeartbeats 1000000 in
theorem get_parts (xs : List Int) (A : Option Addr) (cap : Nat) (w : World) (h : Oct w w.heap.size A 12 cap xs) (o a b c n : Int) (v0 : xs[0]?.getD 0 = o) (v1 : xs[1]?.getD 0 = a) (v2 : xs[2]?.getD 0 = b) (v3 : xs[3]?.getD 0 = c) (v4 : wrap64 (val (xs.drop 4)) = n) :
    Calls Tryd.prog 60 #[.slice A 12 cap] w fun e w' => e = .returned (.tuple #[.agg (ins o a b c n), .int .i64 0]) ∧ Below w.heap.size w w' := by
  have hm : ∀ (fn : Fn) (first cap : Array Value) (w : World), (Instr.makeFunc fn first cap).run Tryd.prog w = .ok (.func fn first cap) w := fun _ _ _ _ => rfl
  have hl := Lib.hid (show xs.length = 12 from h.len)
  have V0 := Lib.hid v0
  have V1 := Lib.hid v1
  have V2 := Lib.hid v2
  have V3 := Lib.hid v3
  have V4 := Lib.hid v4
  clear v0 v1 v2 v3 v4
  obtain ⟨W0, eW0⟩ : ∃ W0, W0 = w.alloc (.cells #[.int .i64 0, .int .i64 0, .int .i64 0, .int .i64 0, .int .i64 0] 45) := ⟨_, rfl⟩
  have b0 : Below w.heap.size w W0 := by rw [eW0]; exact (Below.refl _ w).alloc (Nat.le_refl _) _
  have s0 : W0.heap.size = w.heap.size + 1 := by rw [eW0]; simp
  have r0 : Blk W0 w.heap.size 45 (ins 0 0 0 0 0) := by rw [eW0]; exact heap_alloc_new w _
  go_enter Tryd.func60, Tryd.ntmps60
  go_wp2_with fail
  rw [← eW0]
  clear eW0
  refine (new_any xs A 12 cap W0 ((h.below b0).more b0.size) (by omega)).mono ?_
  rintro e w1 ⟨g, rfl, hr1, hb1, hg1⟩
  have hs1 := hb1.size
  go_wp2_with fail
  obtain ⟨w2, e2⟩ : ∃ w2, w2 = w1.alloc (.cells #[.pointer (some ⟨g, 0, none⟩)] 54) := ⟨_, rfl⟩
  have b2 : Below w1.heap.size w1 w2 := by rw [e2]; exact (Below.refl _ w1).alloc (Nat.le_refl _) _
  have c2 : w2.cell? ⟨w1.heap.size, 0, none⟩ = some (.pointer (some ⟨g, 0, none⟩)) := by rw [e2]; exact Blk.cell (heap_alloc_new w1 _) 0
  have s2 : w2.heap.size = w1.heap.size + 1 := by rw [e2]; simp
  have lg := hr1.lt
  have hr2 := hr1.below b2 lg
  have q2 : Below w.heap.size w w2 := (b0.trans (hb1.mono b0.size)).trans (b2.mono (by omega))
  have r2 : Blk w2 w.heap.size 45 (ins 0 0 0 0 0) := (r0.below hb1 (by omega)).below b2 (by omega)
  rw [← e2]
  clear e2 b2
  refine (take_1 V0.out c2 hr2 (by rw [hl.out]; omega)).mono ?_
  rintro e w3 ⟨rfl, hr3, hg3⟩
  have s3 := hg3.size
  go_wp2_with fail
  obtain ⟨w4, e4⟩ : ∃ w4, w4 = w3.alloc (.cells #[.int .i64 o, .int .i64 0, .int .i64 0, .int .i64 0, .int .i64 0] 45) := ⟨_, rfl⟩
  have S4 : St w w.heap.size g w1.heap.size w3.heap.size xs w4 1 #[.int .i64 o, .int .i64 0, .int .i64 0, .int .i64 0, .int .i64 0] := by
    have b4 : Below w3.heap.size w3 w4 := by rw [e4]; exact (Below.refl _ w3).alloc (Nat.le_refl _) _
    have d4 : Blk w4 w3.heap.size 45 #[.int .i64 o, .int .i64 0, .int .i64 0, .int .i64 0, .int .i64 0] := by rw [e4]; exact heap_alloc_new w3 _
    have hk : ∀ k, k < w2.heap.size → k ≠ g → w4.heap[k]? = w2.heap[k]? := fun k hk hne => (b4.block k (by omega)).trans (hg3.block k hk (by simpa using hne))
    exact ⟨hr3.below b4 hr3.lt, (cell_same (hk _ (by omega) (by omega)) 0).trans c2, d4, (hk _ (by omega) (by omega)).trans r2,
      (q2.grown hg3 q2.size (fun k hk => by injection hk with hk; omega)).trans (b4.mono (by omega)), Nat.le_refl _, by omega, by omega, by omega⟩
  rw [← e4]
  clear e4 hr3 hg3 c2 r2 q2 hr2
  have T := S4.cc
  refine (take_1 V1.out S4.cc S4.rd (by rw [hl.out]; omega)).mono ?_
  rintro e w5 ⟨rfl, hr5, hg5⟩
  have S5 := S4.took hr5 hg5
  clear hr5 hg5
  have k5 := S5.bd.cell 1
  have f5 := S5.bd.free 1
  go_wp2_with fail
  clear k5 f5
  have P5 := S5.put 1 (.int .i64 a)
  refine (take_1 V2.out P5.cc P5.rd (by rw [hl.out]; omega)).mono ?_
  rintro e w6 ⟨rfl, hr6, hg6⟩
  have S6 := P5.took hr6 hg6
  clear hr6 hg6 P5 S5
  have k6 := S6.bd.cell 2
  have f6 := S6.bd.free 2
  go_wp2_with fail
  clear k6 f6
  have P6 := S6.put 2 (.int .i64 b)
  refine (take_1 V3.out P6.cc P6.rd (by rw [hl.out]; omega)).mono ?_
  rintro e w7 ⟨rfl, hr7, hg7⟩
  have S7 := P6.took hr7 hg7
  clear hr7 hg7 P6 S6
  have k7 := S7.bd.cell 3
  have f7 := S7.bd.free 3
  go_wp2_with fail
  clear k7 f7
  have P7 := S7.put 3 (.int .i64 c)
  refine (take_8 V4.out hl.out P7.cc P7.rd).mono ?_
  rintro e w8 ⟨rfl, hr8, hg8⟩
  have S8 := P7.took hr8 hg8
  clear hr8 hg8 P7 S7
  have k8 := S8.bd.cell 4
  have f8 := S8.bd.free 4
  have P8 := S8.put 4 (.int .i64 n)
  have hd := S8.cd
  have hc := S8.gc
  have hb := S8.bg
  obtain ⟨d0, d1, d2, d3, d4⟩ := At5.blk (o := o) (a := a) (b := b) (c := c) (n := n) P8.bd
  have B8 := P8.bel
  have R8 := P8.rb
  go_wp2_with (refine wpList_store_row rfl 45 (.tmp 2) (.tmp 29) rfl w.heap.size (ins o a b c n) rfl rfl 45 (ins 0 0 0 0 0) R8 info23 rfl (ins_one o a b c n) ?_)

  refine bodyPost_ret (res8 _ _ w.heap.size o a b c n _ rfl rfl (setRow_heap _ _ _ _ _ _ R8)) rfl ?_
  exact ⟨rfl, below_setRow B8 (Nat.le_refl _) _⟩
theorem get_12 (xs : List Int) (A : Option Addr) (cap : Nat) (w : World) (h : Oct w w.heap.size A 12 cap xs) :
    Calls Tryd.prog 60 #[.slice A 12 cap] w fun e w' => e = .returned (.tuple #[.agg (ins (xs[0]?.getD 0) (xs[1]?.getD 0) (xs[2]?.getD 0) (xs[3]?.getD 0) (wrap64 (val (xs.drop 4)))), .int .i64 0]) ∧ Below w.heap.size w w' :=
  get_parts xs A cap w h _ _ _ _ _ rfl rfl rfl rfl rfl
end Go.Proofs.YtcbekkbhhepeaaaDoor
