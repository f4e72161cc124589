/- What asm's operands answers: the numbers that words tell for each letter. Conditions: the variables lie as they are laid; four letters below 128; no word is longer than memory bears. -/
import Derived.Test.YtodklfjoeehinaaDoorAsm
import Derived.Lib.OthersKept
import Derived.Laws.RangeString
import Derived.RegionTactic
namespace Go.Proofs.YtodklfjoeehinaaDoor
open Go.RowKit Nine

/-! ### behind the first word -/
def tl (A : Option Addr) (cap : Nat) : Option Addr := if cap = 1 then A else A.map (·.add 1)
theorem under39 : Tryd.prog.underlying 39 = some (.slice (Tryd.prog.elem 39)) := by kernel_rfl
theorem size39 (w : World) : (sizeOf (Tryd.prog.elem 39)).run Tryd.prog w = .ok 1 w := by kernel_rfl
theorem cut_first (A : Option Addr) (n cap : Nat) (w : World) :
    (Instr.slice 39 (.slice A (n + 1) cap) (some (.int .i64 1)) none none).run Tryd.prog w = .ok (.slice (tl A cap) n (cap - 1)) w := by
  rw [run_slice_l w 39 A (n + 1) cap under39 .i64 _ (by omega) (by omega), size39]
  simp [Result.andThen, sliced, tl]
theorem add_nought (a : Addr) : a.add 0 = a := by
  obtain ⟨b, o, i⟩ := a
  unfold Addr.add
  split <;> simp_all
theorem tl_row {w : World} {B n cap : Nat} {A : Option Addr} {xs : List (List UInt8)} {x : List UInt8} (h : Row w B A (n + 1) cap (x :: xs)) : Row w B (tl A cap) n (cap - 1) xs := by
  have hr := h.room
  have hm := h.most
  have hl := h.len
  simp only [List.length_cons] at hl
  obtain ⟨ad, rfl, _⟩ := h.at_ 0 (by omega)
  by_cases h1 : cap = 1
  · subst h1
    obtain rfl : n = 0 := by omega
    exact ⟨by omega, by omega, by omega, fun e => (by simp [tl] at e), fun ad _ i hi => absurd hi (Nat.not_lt_zero _)⟩
  · unfold tl
    rw [if_neg h1]
    refine ⟨by omega, by omega, by omega, fun e => (by simp at e), fun a2 ha i hi => ?_⟩
    simp only [Option.map_some, Option.some.injEq] at ha
    subst ha
    have := h.cell _ rfl (i + 1) (by omega)
    rw [add_twice, Nat.add_comm 1 i]
    refine ⟨by rw [add_block]; exact this.1, ?_⟩
    rw [this.2]
    rfl

/-! ### the array -/
def arr4 (vs : List Int) : Array Value := ((vs ++ List.replicate (4 - vs.length) 0).map (Value.int .i64)).toArray
theorem info60 : (Tryd.prog.info? 60).map (·.size) = some 4 := by kernel_rfl
theorem arr_one (vs : List Int) : (arr4 vs).all (·.oneCell') = true := by
  simp [arr4, Value.oneCell']
theorem res32 (tmps : Array Value) (w : World) (g : Nat) (vs : Array Value) (u : Value) (hp : tmps[4]?.getD undef = .pointer (some ⟨g, 0, none⟩)) (hu : tmps[5]?.getD undef = u) (hg : Blk w g 60 vs) (hv : vs.size = 4) :
    (results Tryd.f32 tmps).run Tryd.prog w = .ok (.tuple #[.agg vs, u]) w := by
  have hr : Tryd.f32.results = #[.cell 4 60, .tmp 5] := by kernel_rfl
  rw [results_cell_tmp hr]
  have h2 : tmps.getD 4 undef = .pointer (some ⟨g, 0, none⟩) := by simpa using hp
  have h3 : tmps.getD 5 undef = u := by simpa using hu
  rw [h2, h3]
  have hl := run_loadVar_row w g 60 60 vs (0, 0) _ hg Tryd.underlying60 rfl (by rw [hv]; exact info60)
  simp [asAddr, Result.andThen, hl]
theorem four_one (a b c n : Int) : (#[.int .i64 a, .int .i64 b, .int .i64 c, .int .i64 n] : Array Value).all (·.oneCell') = true := by simp [Value.oneCell']
theorem arr_size {vs : List Int} (h : vs.length ≤ 4) : (arr4 vs).size = 4 := by
  simp [arr4]
  omega

/-! ### the loop -/
/-- What operands answers. -/
def Ops (ls : List UInt8) (ws : List (List UInt8)) (w : World) (e : Ending) (w' : World) : Prop :=
  (∃ a b c n, e = .returned (.tuple #[.agg #[.int .i64 a, .int .i64 b, .int .i64 c, .int .i64 n], .bool true]) ∧ opsA ls ws = some [a, b, c, n] ∧ Below w.heap.size w w') ∨
  (∃ a b c n, e = .returned (.tuple #[.agg #[.int .i64 a, .int .i64 b, .int .i64 c, .int .i64 n], .bool false]) ∧ (∀ a b c n, opsA ls ws ≠ some [a, b, c, n]) ∧ Below w.heap.size w w')
/-- How far the letters are gone through. -/
structure Got (w : World) (ls : List UInt8) (ws : List (List UInt8)) (k : Nat) (vs : List Int) (A : Option Addr) (n cap : Nat) (r : List (List UInt8)) (wr : World) : Prop where
  len : vs.length = k
  row : Row w w.heap.size A n cap r
  sub : ∀ x ∈ r, x ∈ ws
  rest : opsA ls ws = (opsA (ls.drop k) r).map (vs ++ ·)
  b0 : Blk wr w.heap.size 60 (arr4 [])
  b1 : Blk wr (w.heap.size + 1) 60 (arr4 vs)
  it : wr.heap[w.heap.size + 2]? = some (.stringIter (txt ls) k)
  bel : Below w.heap.size w wr
theorem ops_len : ∀ (ls : List UInt8) (ws : List (List UInt8)) (l : List Int), opsA ls ws = some l → l.length = ls.length
  | [], ws, l, h => by
    unfold opsA at h
    split at h
    · cases h; rfl
    · cases h
  | c :: ls, ws, l, h => by
    unfold opsA at h
    split at h
    · obtain ⟨q, h1, rfl⟩ := Option.map_eq_some_iff.1 h
      simp [ops_len ls ws q h1]
    · cases ws with
      | nil => cases h
      | cons x r =>
        simp only at h
        split at h
        · obtain ⟨q, h1, rfl⟩ := Option.map_eq_some_iff.1 h
          simp [ops_len ls r q h1]
        · cases h
theorem arr_zero {vs : List Int} (h : vs.length < 4) : arr4 (vs ++ [0]) = arr4 vs := by
  obtain ⟨m, hm⟩ : ∃ m, 4 - vs.length = m + 1 := ⟨3 - vs.length, by omega⟩
  have e : 4 - (vs ++ [0]).length = m := by simp; omega
  unfold arr4
  rw [e, hm, List.replicate_succ]
  simp
theorem arr_set {vs : List Int} (h : vs.length < 4) (v : Int) : (arr4 vs).setIfInBounds vs.length (.int .i64 v) = arr4 (vs ++ [v]) := by
  obtain ⟨m, hm⟩ : ∃ m, 4 - vs.length = m + 1 := ⟨3 - vs.length, by omega⟩
  have e : 4 - (vs ++ [v]).length = m := by simp; omega
  unfold arr4
  rw [e, hm, List.replicate_succ]
  simp
theorem arr_four (vs : List Int) (h : vs.length ≤ 4) : ∃ a b c n, arr4 vs = #[.int .i64 a, .int .i64 b, .int .i64 c, .int .i64 n] ∧ (vs.length = 4 → vs = [a, b, c, n]) := by
  match vs, h with
  | [], _ => exact ⟨0, 0, 0, 0, rfl, fun h => by cases h⟩
  | [a], _ => exact ⟨a, 0, 0, 0, rfl, fun h => by cases h⟩
  | [a, b], _ => exact ⟨a, b, 0, 0, rfl, fun h => by cases h⟩
  | [a, b, c], _ => exact ⟨a, b, c, 0, rfl, fun h => by cases h⟩
  | [a, b, c, n], _ => exact ⟨a, b, c, n, rfl, fun _ => rfl⟩
theorem blk_iter {w : World} {g k : Nat} {t : TypeId} {cs : Array Value} {s : ByteArray} {q : Nat} (h : Blk w g t cs) (hne : g ≠ k) : Blk (w.iterAt k s q) g t cs := (Lib.iterAt_other w k g s q hne).trans h
theorem let_eq (ls : List UInt8) (k : Nat) (hk : k < (txt ls).size) (l : UInt8) (h : (txt ls)[k] = l) : ls.drop k = l :: ls.drop (k + 1) ∧ l ∈ ls := by
  have h1 := oct_drop (txt ls) k hk
  rw [oct_txt, h] at h1
  refine ⟨h1, ?_⟩
  have : l ∈ ls.drop k := by rw [h1]; simp
  exact List.mem_of_mem_drop this

set_option maxRecDepth 100000 in
set_option maxHeartbeats 4000000 in
theorem ops_any (ls : List UInt8) (h4 : ls.length = 4) (ha : ∀ c ∈ ls, c.toNat < 128) (A : Option Addr) (n cap : Nat) (ws : List (List UInt8)) (w : World) (hR : Row w w.heap.size A n cap ws) (hx : ∀ x ∈ ws, x.length ≤ 140737488355328) (hL : Laid w) :
    Calls Tryd.prog 32 #[.string (txt ls), .slice A n cap] w (Ops ls ws w) := by
  have hz : (txt ls).size = 4 := by rw [txt_size, h4]
  obtain ⟨W0, eW0⟩ : ∃ W0, W0 = ((w.alloc (.cells #[.int .i64 0, .int .i64 0, .int .i64 0, .int .i64 0] 60)).alloc (.cells #[.int .i64 0, .int .i64 0, .int .i64 0, .int .i64 0] 60)).iter (txt ls) 0 := ⟨_, rfl⟩
  have g0 : Got w ls ws 0 [] A n cap ws W0 := by
    have b1 : Below w.heap.size w (w.alloc (.cells #[.int .i64 0, .int .i64 0, .int .i64 0, .int .i64 0] 60)) := (Below.refl _ w).alloc (Nat.le_refl _) _
    have b2 := b1.alloc (by simp) (.cells #[.int .i64 0, .int .i64 0, .int .i64 0, .int .i64 0] 60)
    refine ⟨rfl, hR, fun _ h => h, by simp, ?_, ?_, ?_, ?_⟩
    · rw [eW0]
      exact Blk.below (Blk.below (heap_alloc_new w _) ((Below.refl _ _).alloc (Nat.le_refl _) _) (by simp)) ((Below.refl _ _).alloc (Nat.le_refl _) (.stringIter (txt ls) 0)) (by simp; omega)
    · rw [eW0]
      exact Blk.below (heap_alloc2_new w _ _) ((Below.refl _ _).alloc (Nat.le_refl _) (.stringIter (txt ls) 0)) (by simp)
    · rw [eW0]
      have := World.iter_heap ((w.alloc (.cells #[.int .i64 0, .int .i64 0, .int .i64 0, .int .i64 0] 60)).alloc (.cells #[.int .i64 0, .int .i64 0, .int .i64 0, .int .i64 0] 60)) (txt ls) 0
      simpa using this
    · rw [eW0]
      exact b2.alloc (by simp; omega) (.stringIter (txt ls) 0)
  have hLw := Lib.hid hL
  clear hL hR
  go_enter Tryd.func32, Tryd.ntmps32
  go_wp2
  rw [← eW0]
  clear eW0
  go_loopw [1] (fun v wr => ∃ k vs A n cap r, k ≤ 4 ∧ v = .slice A n cap ∧ Got w ls ws k vs A n cap r wr) (fun _ wr => 4 - wr.iterPos (w.heap.size + 2))
  case atStart => exact ⟨0, [], A, n, cap, ws, by decide, rfl, g0⟩
  case round =>
    clear g0
    obtain ⟨k, vs, A, n, cap, r, hk, rfl, hG⟩ := hrel
    have hbw := hG.bel.size
    have hit := hG.it
    have q1 := hG.b1
    have q0 := hG.b0
    have hvl := hG.len
    have hrm := hG.row.room
    have hmx := hG.row.most
    have hrl := hG.row.len
    unfold maxLen at hmx
    have lt0 := q0.lt
    have lt1 := q1.lt
    have lt2 : w.heap.size + 2 < wr.heap.size := (Array.getElem?_eq_some_iff.1 hit).1
    obtain ⟨a0, a1, a2, a3, ea, e4⟩ := arr_four vs (by omega)
    by_cases hlt : k < 4
    · have hp : k < (txt ls).size := by omega
      obtain ⟨l, el⟩ : ∃ l, (txt ls)[k] = l := ⟨_, rfl⟩
      obtain ⟨hd, hm⟩ := let_eq ls k hp l el
      have hl128 := ha l hm
      obtain ⟨W1, eW1⟩ : ∃ W1, W1 = wr.iterAt (w.heap.size + 2) (txt ls) (k + 1) := ⟨_, rfl⟩
      have hnx : ∀ ty, (Instr.next (.pointer (some ⟨w.heap.size + 2, 0, none⟩)) true ty).run Tryd.prog wr = .ok (.tuple #[.bool true, .int .i64 k, .int .i32 (l.toNat : Int)]) W1 := fun ty => by
        rw [Lib.run_next_ascii_at wr (w.heap.size + 2) (txt ls) k ty hit hp (by rw [el]; exact hl128), el, eW1]
      have p0 : Blk W1 w.heap.size 60 (arr4 []) := by rw [eW1]; exact blk_iter q0 (by omega)
      have p1 : Blk W1 (w.heap.size + 1) 60 (arr4 vs) := by rw [eW1]; exact blk_iter q1 (by omega)
      have pit : W1.heap[w.heap.size + 2]? = some (.stringIter (txt ls) (k + 1)) := by rw [eW1]; exact Lib.iterAt_heap _ _ _ _ _ hit
      have pb : Below w.heap.size w W1 := by rw [eW1]; exact Lib.below_iterAt hG.bel (by omega) _ _
      have hipos : wr.iterPos (w.heap.size + 2) = k := by simp [World.iterPos, hit]
      have pipos : W1.iterPos (w.heap.size + 2) = k + 1 := by simp [World.iterPos, pit]
      have hrest := hG.rest
      rw [hd] at hrest
      have HG := Lib.hid hG
      have HM := Lib.hid (And.intro hipos pipos)
      clear eW1 hG hit q0 q1 lt0 lt1 hd hm el hp hipos pipos
      have lt3 : w.heap.size + 2 < W1.heap.size := (Array.getElem?_eq_some_iff.1 pit).1
      by_cases h45 : l = 45
      · have t1 : ((l.toNat : Int) == 45) = true := by subst h45; rfl
        have hrest2 : opsA ls ws = (opsA (ls.drop (k + 1)) r).map ((vs ++ [0]) ++ ·) := by
          rw [hrest]
          simp [opsA, h45, Function.comp_def]
        have HR := Lib.hid hrest2
        clear hrest hrest2 h45
        go_wp2
        go_roundw
        case rel => exact ⟨k + 1, vs ++ [0], A, n, cap, r, by omega, rfl, by simp [hvl], HG.out.row, HG.out.sub, HR.out, p0, by rw [arr_zero (by omega)]; exact p1, pit, pb⟩
        case measure => rw [HM.out.1, HM.out.2]; omega
      · have t1 : ((l.toNat : Int) == 45) = false := by
          simp only [beq_eq_false_iff_ne, ne_eq]
          exact fun e => h45 (UInt8.toNat_inj.1 (by show l.toNat = 45; omega))
        rw [ea] at p1
        cases r with
        | nil =>
          obtain rfl : n = 0 := by simpa using hrl.symm
          have hno : ∀ a b c n, opsA ls ws ≠ some [a, b, c, n] := fun a b c n => by
            rw [hrest]
            simp [opsA, h45]
          have HN := Lib.hid hno
          clear hrest hno h45 e4
          have c0 := p1.cell 0
          have c1 := p1.cell 1
          have c2 := p1.cell 2
          have c3 := p1.cell 3
          go_wp2_with (refine wpList_store_row rfl 60 (.tmp 4) (.tmp 22) rfl w.heap.size #[.int .i64 a0, .int .i64 a1, .int .i64 a2, .int .i64 a3] rfl rfl 60 (arr4 []) p0 info60 rfl (four_one a0 a1 a2 a3) ?_)
          refine bodyPost_ret (res32 _ _ w.heap.size #[.int .i64 a0, .int .i64 a1, .int .i64 a2, .int .i64 a3] _ rfl rfl (setRow_heap _ _ _ _ _ _ p0) rfl) rfl ?_
          exact .inr ⟨a0, a1, a2, a3, rfl, HN.out, below_setRow pb (Nat.le_refl _) _⟩
        | cons x r =>
          obtain ⟨m, rfl⟩ : ∃ m, n = m + 1 := ⟨r.length, by simpa using hrl.symm⟩
          have hx0 := hx x (HG.out.sub x (by simp))
          have hrow := HG.out.row
          obtain ⟨ad, rfl, hadl, hcw⟩ := (hrow.below pb).at_ 0 (by omega)
          rw [add_nought] at hcw
          have htl := tl_row hrow
          have hN := num_any (txt x) (by rw [txt_size]; exact hx0) W1 (hLw.out.on pb)
          rw [oct_txt] at hN
          simp only [List.getD_cons_zero] at hcw
          obtain ⟨v, hv⟩ : ∃ v, (numL x).1 = v := ⟨_, rfl⟩
          obtain ⟨ok, hok⟩ : ∃ ok, (numL x).2 = ok := ⟨_, rfl⟩
          rw [hv, hok] at hN
          cases ok with
          | false =>
            have hno : ∀ a b c n, opsA ls ws ≠ some [a, b, c, n] := fun a b c n => by
              rw [hrest]
              simp [opsA, h45, hok]
            have HN := Lib.hid hno
            clear hrest hno h45 e4 hv hok htl
            go_wp2_with fail
            refine hN.mono ?_
            rintro e w2 ⟨rfl, hb2⟩
            have z1 := p1.below hb2 p1.lt
            have z0 := p0.below hb2 p0.lt
            have c0 := z1.cell 0
            have c1 := z1.cell 1
            have c2 := z1.cell 2
            have c3 := z1.cell 3
            go_wp2_with (refine wpList_store_row rfl 60 (.tmp 4) (.tmp 32) rfl w.heap.size #[.int .i64 a0, .int .i64 a1, .int .i64 a2, .int .i64 a3] rfl rfl 60 (arr4 []) z0 info60 rfl (four_one a0 a1 a2 a3) ?_)
            refine bodyPost_ret (res32 _ _ w.heap.size #[.int .i64 a0, .int .i64 a1, .int .i64 a2, .int .i64 a3] _ rfl rfl (setRow_heap _ _ _ _ _ _ z0) rfl) rfl ?_
            exact .inr ⟨a0, a1, a2, a3, rfl, HN.out, below_setRow (pb.trans (hb2.mono pb.size)) (Nat.le_refl _) _⟩
          | true =>
            have hrest2 : opsA ls ws = (opsA (ls.drop (k + 1)) r).map ((vs ++ [v]) ++ ·) := by
              rw [hrest]
              simp [opsA, h45, hok, hv, Function.comp_def]
            have HR := Lib.hid hrest2
            have HA := Lib.hid ea
            have HT := Lib.hid htl
            clear hrest hrest2 h45 e4 hv hok htl ea
            go_wp2_with fail
            refine hN.mono ?_
            rintro e w2 ⟨rfl, hb2⟩
            have z1 := p1.below hb2 p1.lt
            have z0 := p0.below hb2 p0.lt
            have hsl := cut_first (some ad) m cap
            have hk0 : w2.cell? ⟨w.heap.size + 1, k, none⟩ = some ((arr4 vs)[k]'(by rw [arr_size (by omega)]; omega)) := by
              rw [z1.cell, ← HA.out, Array.getElem?_eq_getElem]
            have hf0 := z1.free k
            have i0 : (0 : Int) ≤ (k : Int) := by omega
            have i1 : (k : Int) < 4 := by omega
            go_wp2
            go_region
            go_wp2
            obtain ⟨W3, eW3⟩ : ∃ W3, W3 = (w2.setCell ⟨w.heap.size + 1, k, none⟩ (.int .i64 v)).drew := ⟨_, rfl⟩
            have y1 : Blk W3 (w.heap.size + 1) 60 (arr4 (vs ++ [v])) := by
              rw [eW3, ← arr_set (by omega), HA.out, hvl]
              exact z1.set_ k _
            have y0 : Blk W3 w.heap.size 60 (arr4 []) := by
              rw [eW3]
              exact (heap_set w2 (w.heap.size + 1) k w.heap.size _ (by omega)).trans z0
            have yit : W3.heap[w.heap.size + 2]? = some (.stringIter (txt ls) (k + 1)) := by
              rw [eW3]
              exact ((heap_set w2 (w.heap.size + 1) k (w.heap.size + 2) _ (by omega)).trans (hb2.block _ lt3)).trans pit
            have yb : Below w.heap.size w W3 := by
              rw [eW3]
              exact below_drew ((pb.trans (hb2.mono pb.size)).setCell (p := ⟨w.heap.size + 1, k, none⟩) (Nat.le_succ _) _) 1
            have ypos : W3.iterPos (w.heap.size + 2) = k + 1 := by simp [World.iterPos, yit]
            rw [← eW3]
            go_roundw
            case rel => exact ⟨k + 1, vs ++ [v], tl (some ad) cap, m, cap - 1, r, by omega, rfl, by simp [hvl], HT.out, fun y hy => HG.out.sub y (List.mem_cons_of_mem _ hy), HR.out, y0, y1, yit, yb⟩
            case measure => rw [HM.out.1, ypos]; omega
    · obtain rfl : k = 4 := by omega
      have hp : ¬ 4 < (txt ls).size := by omega
      have hnx : ∀ ty, (Instr.next (.pointer (some ⟨w.heap.size + 2, 0, none⟩)) true ty).run Tryd.prog wr = .ok (.tuple #[.bool false]) wr := fun ty => Lib.run_next_end_at wr (w.heap.size + 2) (txt ls) 4 ty hit hp
      have hd : ls.drop 4 = [] := List.drop_eq_nil_of_le (by omega)
      have hrest := hG.rest
      have pb := hG.bel
      rw [hd, e4 hvl] at hrest
      rw [ea] at q1
      have c0 := q1.cell 0
      have c1 := q1.cell 1
      have c2 := q1.cell 2
      have c3 := q1.cell 3
      cases r with
      | nil =>
        obtain rfl : n = 0 := by simpa using hrl.symm
        have hyes : opsA ls ws = some [a0, a1, a2, a3] := by rw [hrest]; simp [opsA]
        have HY := Lib.hid hyes
        clear hrest hyes e4 ea hG hd hit
        go_wp2_with (refine wpList_store_row rfl 60 (.tmp 4) (.tmp 38) rfl w.heap.size #[.int .i64 a0, .int .i64 a1, .int .i64 a2, .int .i64 a3] rfl rfl 60 (arr4 []) q0 info60 rfl (four_one a0 a1 a2 a3) ?_)
        refine bodyPost_ret (res32 _ _ w.heap.size #[.int .i64 a0, .int .i64 a1, .int .i64 a2, .int .i64 a3] _ rfl rfl (setRow_heap _ _ _ _ _ _ q0) rfl) rfl ?_
        exact .inl ⟨a0, a1, a2, a3, rfl, HY.out, below_setRow pb (Nat.le_refl _) _⟩
      | cons x r =>
        obtain ⟨m, rfl⟩ : ∃ m, n = m + 1 := ⟨r.length, by simpa using hrl.symm⟩
        have hno : ∀ a b c n, opsA ls ws ≠ some [a, b, c, n] := fun a b c n => by rw [hrest]; simp [opsA]
        have HN := Lib.hid hno
        clear hrest hno e4 ea hG hd hit
        go_wp2_with (refine wpList_store_row rfl 60 (.tmp 4) (.tmp 38) rfl w.heap.size #[.int .i64 a0, .int .i64 a1, .int .i64 a2, .int .i64 a3] rfl rfl 60 (arr4 []) q0 info60 rfl (four_one a0 a1 a2 a3) ?_)
        refine bodyPost_ret (res32 _ _ w.heap.size #[.int .i64 a0, .int .i64 a1, .int .i64 a2, .int .i64 a3] _ rfl rfl (setRow_heap _ _ _ _ _ _ q0) rfl) rfl ?_
        exact .inr ⟨a0, a1, a2, a3, rfl, HN.out, below_setRow pb (Nat.le_refl _) _⟩
end Go.Proofs.YtodklfjoeehinaaDoor
