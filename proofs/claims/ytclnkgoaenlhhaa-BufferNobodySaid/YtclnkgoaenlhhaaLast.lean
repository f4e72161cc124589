/- The last store of a place, and its word. Conditions: none. -/
import Derived.Test.YtclnkgoaenlhhaaBack
namespace Go.Proofs.Ytclnkgoaenlhhaa
open Go.RowKit Go.Shelf Go.ChangeShapes Go.WideShapes
attribute [local go_sem] Oper.semAt_some

/-- Is it a store of that place, in that life? -/
def hitE (x : Pl) (g : Int) (e : Ent) : Bool := decide (e.x = x) && decide (e.g = g)
/-- The last of the first so many that is one. -/
def lastI (l : List Ent) (x : Pl) (g : Int) : Nat → Option Nat
  | 0 => none
  | k + 1 => if hitE x g (l.getD k noE) then some k else lastI l x g k
def lastO (l : List Ent) (x : Pl) (g : Int) : Option Nat := lastI l x g l.length
def wordO (l : List Ent) : Option Nat → Wd
  | none => noW
  | some k => (l.getD k noE).v
def lastW (l : List Ent) (x : Pl) (g : Int) : Wd := wordO l (lastO l x g)
def lastB (l : List Ent) (x : Pl) (g : Int) : Bool := (lastO l x g).isSome
theorem lastI_skip (l : List Ent) (x : Pl) (g : Int) (m : Nat) : ∀ n, m ≤ n → (∀ j, m ≤ j → j < n → hitE x g (l.getD j noE) = false) → lastI l x g n = lastI l x g m
  | 0, h, _ => by
    obtain rfl : m = 0 := by omega
    rfl
  | n + 1, h, hj => by
    by_cases e : m = n + 1
    · rw [e]
    · rw [lastI, hj n (by omega) (by omega)]
      exact lastI_skip l x g m n (by omega) (fun j h1 h2 => hj j h1 (by omega))
theorem lastI_lt (l : List Ent) (x : Pl) (g : Int) : ∀ n k, lastI l x g n = some k → k < n
  | 0, k, h => by cases h
  | n + 1, k, h => by
    rw [lastI] at h
    split at h
    · injection h with h
      omega
    · have := lastI_lt l x g n k h
      omega
theorem mem_tops {n m j : Nat} : j ∈ tops n m ↔ m ≤ j ∧ j < n := by
  unfold tops
  rw [List.mem_reverse, List.mem_iff_getElem?]
  constructor
  · rintro ⟨i, h⟩
    rw [List.getElem?_drop] at h
    obtain ⟨h1, h2⟩ := List.getElem?_eq_some_iff.1 h
    simp at h1 h2
    omega
  · rintro ⟨h1, h2⟩
    refine ⟨j - m, ?_⟩
    rw [List.getElem?_drop, show m + (j - m) = j by omega]
    simp [h2]
theorem tops_ends {n k : Nat} {pre : List Nat} (h : pre ++ [k] <+: tops n 0) : k < n ∧ ∀ j, k + 1 ≤ j → j < n → j ∈ pre := by
  have hat : ∀ i, i < pre.length + 1 → (pre ++ [k])[i]? = some (n - 1 - i) ∧ i < n := by
    intro i hi
    obtain ⟨t, ht⟩ := id h
    have h1 : (tops n 0)[i]? = (pre ++ [k])[i]? := by
      rw [← ht, List.getElem?_append_left (by simpa using hi)]
    have hn : i < n := by
      have hl : (tops n 0).length = n := by rw [tops_len]; omega
      rw [← ht, List.length_append, List.length_append, List.length_singleton] at hl
      revert hl hi
      generalize pre.length = q
      generalize t.length = r
      omega
    refine ⟨?_, hn⟩
    rw [← h1]
    unfold tops
    rw [List.drop_zero, List.getElem?_reverse (by simpa using hn), List.length_range, List.getElem?_range (by omega)]
  obtain ⟨a, b⟩ := hat pre.length (by omega)
  have ek : k = n - 1 - pre.length := by simpa using a
  refine ⟨by omega, fun j h1 h2 => ?_⟩
  obtain ⟨c, d⟩ := hat (n - 1 - j) (by omega)
  rw [List.getElem?_append_left (by omega)] at c
  have := List.mem_of_getElem? c
  rw [show n - 1 - (n - 1 - j) = j by omega] at this
  exact this
theorem last_none (l : List Ent) (x : Pl) (g : Int) (h : ∀ k ∈ tops l.length 0, hitE x g (l.getD k noE) = false) : lastO l x g = none :=
  lastI_skip l x g 0 l.length (Nat.zero_le _) fun j _ hj => h j (mem_tops.2 ⟨Nat.zero_le _, hj⟩)
theorem last_some (l : List Ent) (x : Pl) (g : Int) {k : Nat} {pre : List Nat} (h : pre ++ [k] <+: tops l.length 0) (hk : hitE x g (l.getD k noE) = true) (hn : ∀ j ∈ pre, hitE x g (l.getD j noE) = false) : lastO l x g = some k := by
  obtain ⟨h1, h2⟩ := tops_ends h
  unfold lastO
  rw [lastI_skip l x g (k + 1) l.length h1 (fun j h3 h4 => hn j (h2 j h3 h4)), lastI, hk]
  rfl

theorem blk_ownF (B : Nat) (g : Nat) (t : TypeId) (cs : Array Value) : OwnFrom B (fun (_ : Unit) W => Blk W g t cs) := by
  intro _ X Y row hs hg hr
  refine blk_grown hs hg fun e => ?_
  obtain ⟨_, o, ho, hc⟩ := hr g e.symm
  rw [show X.heap[g]? = _ from hs] at ho
  cases ho
  cases hc
/-- How it stands within the loop: what the blocks hold, the buffer, what has turned. -/
structure Looks (w : World) (p c cap : Nat) (l : List Ent) (x : Pl) (g : Int) (z : Nat) (v : Wd) (b : Bool) (W : World) : Prop where
  place : Blk W z 31 x.cs.toArray
  gen : Blk W (z + 1) 3 #[.int .i64 g]
  word : Blk W (z + 2) 33 v.cs.toArray
  is : Blk W (z + 3) 4 #[.bool b]
  buf : Buf W p c cap l
  grown : w.grownBy W (some c)
theorem looks_own {w w2 : World} {p c cap : Nat} {l : List Ent} {x : Pl} {g : Int} {z : Nat} {v : Wd} {b : Bool} (hp : p < w.heap.size) (hc : c < w.heap.size) (hw : w.heap.size ≤ w2.heap.size) :
    OwnFrom w2.heap.size (fun (_ : Unit) W => Looks w p c cap l x g z v b W) := by
  intro u X Y row h hg hr
  exact ⟨blk_ownF _ _ _ _ u X Y row h.place hg hr, blk_ownF _ _ _ _ u X Y row h.gen hg hr, blk_ownF _ _ _ _ u X Y row h.word hg hr, blk_ownF _ _ _ _ u X Y row h.is hg hr,
    h.buf.kept hg (fun e => by have := (hr p e.symm).1; omega) (fun e => by have := (hr c e.symm).1; omega),
    h.grown.andThen hg (fun j hj => .inl (by have := (hr j hj).1; omega))⟩
theorem Buf.keeps {S : Nat → Prop} {w w' : World} {p c cap : Nat} {l : List Ent} (h : Buf w p c cap l) (k : Kept S w w') (hp : ¬ S p) (hc : ¬ S c) : Buf w' p c cap l :=
  ⟨h.box.kept k hp, ⟨by obtain ⟨s, r, hb⟩ := h.holds.block; exact ⟨s, r, (k.block c h.holds.lt hc).trans hb⟩, h.holds.fits⟩, h.most⟩
/-- The results set. -/
theorem looks_set {w W : World} {p c cap : Nat} {l : List Ent} {x : Pl} {g : Int} {v : Wd} {b : Bool} (hp : p < w.heap.size) (hc : c < w.heap.size) (h : Looks w p c cap l x g w.heap.size v b W) (u : Wd) (t : Bool) :
    Looks w p c cap l x g w.heap.size u t ((((W.setCell ⟨w.heap.size + 2, 0, none⟩ (.int .i64 u.n)).setCell ⟨w.heap.size + 2, 1, none⟩ (.int .i64 u.c)).setCell ⟨w.heap.size + 2, 2, none⟩ (.int .i64 u.g)).setCell ⟨w.heap.size + 3, 0, none⟩ (.bool t)) ∧
    KeepsOthers W ((((W.setCell ⟨w.heap.size + 2, 0, none⟩ (.int .i64 u.n)).setCell ⟨w.heap.size + 2, 1, none⟩ (.int .i64 u.c)).setCell ⟨w.heap.size + 2, 2, none⟩ (.int .i64 u.g)).setCell ⟨w.heap.size + 3, 0, none⟩ (.bool t)) := by
  have hk : Kept (fun k => k = w.heap.size + 2 ∨ k = w.heap.size + 3) W ((((W.setCell ⟨w.heap.size + 2, 0, none⟩ (.int .i64 u.n)).setCell ⟨w.heap.size + 2, 1, none⟩ (.int .i64 u.c)).setCell ⟨w.heap.size + 2, 2, none⟩ (.int .i64 u.g)).setCell ⟨w.heap.size + 3, 0, none⟩ (.bool t)) :=
    ((((kept_cell W ⟨w.heap.size + 2, 0, none⟩ (.int .i64 u.n)).more (fun _ e => .inl e)).next (kept_cell _ ⟨w.heap.size + 2, 1, none⟩ (.int .i64 u.c)) (fun _ e => .inl (.inl e))).next (kept_cell _ ⟨w.heap.size + 2, 2, none⟩ (.int .i64 u.g)) (fun _ e => .inl (.inl e))).next (kept_cell _ ⟨w.heap.size + 3, 0, none⟩ (.bool t)) (fun _ e => .inl (.inr e))
  refine ⟨⟨h.place.kept hk (by omega), h.gen.kept hk (by omega), ?_, ?_, h.buf.keeps hk (by omega) (by omega), ⟨hk.os.trans h.grown.os, hk.tape.trans h.grown.tape, hk.output.trans h.grown.output, Nat.le_trans h.grown.size hk.size, fun k hk2 hn => (hk.block k (Nat.lt_of_lt_of_le hk2 h.grown.size) (by omega)).trans (h.grown.block k hk2 hn)⟩⟩, (((KeepsOthers.setCell _ _ _).trans (KeepsOthers.setCell _ _ _)).trans (KeepsOthers.setCell _ _ _)).trans (KeepsOthers.setCell _ _ _)⟩
  · exact blk_far (blk_set (blk_set (blk_set h.word 0 (.int .i64 u.n)) 1 (.int .i64 u.c)) 2 (.int .i64 u.g)) (by omega) 0 _
  · exact blk_set (blk_far (blk_far (blk_far h.is (by omega) 0 _) (by omega) 1 _) (by omega) 2 _) 0 (.bool t)
/-- What the assignment of a round leaves. -/
def AxE (p : Nat) (x : Pl) (g : Int) (z bs : Nat) (A : Option Addr) (n cap : Nat) (l : List Ent) (k : Nat) (a : Act) (W : World) : Prop := ∃ Bx, Blk W Bx 35 (l.getD k noE).cs.toArray ∧ a = { tmps := #[.pointer (some ⟨p, 0, none⟩), .agg #[.int .i64 x.k, .int .i64 x.i, .int .i64 x.j], .int .i64 g, undef, .pointer (some ⟨z, 0, none⟩), .pointer (some ⟨z + 1, 0, none⟩), .pointer (some ⟨z + 2, 0, none⟩), .pointer (some ⟨z + 3, 0, none⟩), undef, .pointer (some ⟨Bx, 0, none⟩), .pointer (some ⟨p, 0, none⟩), .slice A n cap, .func (.func 32) #[] #[.pointer (some ⟨bs, 0, none⟩)], .int .i64 (k : Int), .agg #[.int .i64 (l.getD k noE).x.k, .int .i64 (l.getD k noE).x.i, .int .i64 (l.getD k noE).x.j, .int .i64 (l.getD k noE).v.n, .int .i64 (l.getD k noE).v.c, .int .i64 (l.getD k noE).v.g, .int .i64 (l.getD k noE).g, .int .i64 (l.getD k noE).p], undef, undef, undef, undef, undef, undef, undef, undef, undef, undef, undef, undef, undef], defers := [] }
theorem axE_own (p : Nat) (x : Pl) (g : Int) (z bs : Nat) (A : Option Addr) (n cap : Nat) (l : List Ent) (B k : Nat) (a : Act) : OwnFrom B (fun (_ : Unit) W => AxE p x g z bs A n cap l k a W) := by
  rintro u X Y row ⟨Bx, hb, rfl⟩ hg hr
  exact ⟨Bx, blk_ownF B Bx 35 _ u X Y row hb hg hr, rfl⟩

set_option maxRecDepth 100000 in
set_option maxHeartbeats 4000000 in
theorem last_buf' (p c cap : Nat) (l : List Ent) (x : Pl) (g : Int) (w : World) (h : Buf w p c cap l) :
    Calls Try.prog 13 #[.pointer (some ⟨p, 0, none⟩), .agg #[.int .i64 x.k, .int .i64 x.i, .int .i64 x.j], .int .i64 g] w fun e w' => e = .returned (.tuple #[.agg (lastW l x g).cs.toArray, .bool (lastB l x g)]) ∧ Buf w' p c cap l ∧ w.grownBy w' (some c) := by
  refine (callsIn_wide (n := 9)).1 ?_
  have hplt := h.lt
  have hclt := h.holds.lt
  refine callsIn_of_wp_marks Try.func13 rfl trivial ?_ rfl
  simp only [Try.ntmps13, List.size_toArray, List.length_cons, List.length_nil, Nat.reduceAdd, Nat.reduceSub, Array.replicate_succ, Array.replicate_zero, List.push_toArray, List.append_toArray, List.nil_append, List.cons_append]
  obtain ⟨W0, eW0⟩ : ∃ W, (((w.alloc (.cells #[.int .i64 x.k, .int .i64 x.i, .int .i64 x.j] 31)).alloc (.cells #[.int .i64 g] 3)).alloc (.cells #[.int .i64 0, .int .i64 0, .int .i64 0] 33)).alloc (.cells #[.bool false] 4) = W := ⟨_, rfl⟩
  have hb0 : Below w.heap.size w W0 := by rw [← eW0]; exact ((((Below.refl _ w).alloc (Nat.le_refl _) _).alloc (by simp) _).alloc (by simp; omega) _).alloc (by simp; omega) _
  have hsz : W0.heap.size = w.heap.size + 4 := by rw [← eW0]; simp
  have b0 : Blk W0 w.heap.size 31 x.cs.toArray := by rw [← eW0]; exact (((blk_new w #[.int .i64 x.k, .int .i64 x.i, .int .i64 x.j] 31 _ rfl).on ((Below.refl _ _).alloc (Nat.le_refl _) _)).on ((Below.refl _ _).alloc (Nat.le_refl _) _)).on ((Below.refl _ _).alloc (Nat.le_refl _) _)
  have b1 : Blk W0 (w.heap.size + 1) 3 #[.int .i64 g] := by rw [← eW0]; exact ((blk_new _ #[.int .i64 g] 3 _ (by simp)).on ((Below.refl _ _).alloc (Nat.le_refl _) _)).on ((Below.refl _ _).alloc (Nat.le_refl _) _)
  have b2 : Blk W0 (w.heap.size + 2) 33 noW.cs.toArray := by rw [← eW0]; exact (blk_new _ #[.int .i64 0, .int .i64 0, .int .i64 0] 33 _ (by simp)).on ((Below.refl _ _).alloc (Nat.le_refl _) _)
  have b3 : Blk W0 (w.heap.size + 3) 4 #[.bool false] := by rw [← eW0]; exact blk_new _ #[.bool false] 4 _ (by simp)
  have ha := all_buf p c cap l W0 (h.below hb0)
  have hlen : l.length = l.length := rfl
  have HH : (∀ k ∈ tops l.length 0, hitE x g (l.getD k noE) = false) → lastO l x g = none := last_none l x g
  have HS : ∀ {k : Nat} {pre : List Nat}, pre ++ [k] <+: tops l.length 0 → hitE x g (l.getD k noE) = true → (∀ j ∈ pre, hitE x g (l.getD j noE) = false) → lastO l x g = some k := fun h1 h2 h3 => last_some l x g h1 h2 h3
  generalize hn : l.length = n at ha HH HS
  have hn4 : n ≤ 4 := by rw [← hn]; exact h.len
  have HN := Lib.hid hn
  clear hn hlen
  have HB0 := Lib.hid hb0
  gi_wp2_with (first
    | (refine ⟨trivial, ?_⟩; gi_at_call 16; refine (callsIn_wide.2 ha).mono ?_; rintro e w2 ⟨A, cp, rfl, ho2, h2, hg2⟩)
    | (refine ⟨trivial, ?_⟩; gi_at_call 27; refine (back_any _ _ _ _ _).mono ?_; rintro e w' ⟨rfl, rfl⟩))
  have hBox : Blk (w2.alloc (.cells #[.slice A n cp] 27)) w2.heap.size 27 #[.slice A n cp] := blk_new _ _ _ _ rfl
  have hb3 : Below w2.heap.size w2 (w2.alloc (.cells #[.slice A n cp] 27)) := (Below.refl _ _).alloc (Nat.le_refl _) _
  have hsz3 : (w2.alloc (.cells #[.slice A n cp] 27)).heap.size = w2.heap.size + 1 := by simp
  obtain ⟨W3, eW3⟩ : ∃ W, w2.alloc (.cells #[.slice A n cp] 27) = W := ⟨_, rfl⟩
  rw [eW3] at hBox hb3 hsz3 ⊢
  clear eW3
  have hS3 : SeesE W3 A n cp l := (own_seesE ho2).on hb3
  have hLooks : Looks w p c cap l x g w.heap.size noW false W3 := by
    have hne : ∀ j, w.heap.size ≤ j → some j ≠ some c := fun j hj e => by injection e with e; omega
    exact ⟨(blk_grown b0 hg2 (hne _ (Nat.le_refl _))).on hb3, (blk_grown b1 hg2 (hne _ (by omega))).on hb3, (blk_grown b2 hg2 (hne _ (by omega))).on hb3, (blk_grown b3 hg2 (hne _ (by omega))).on hb3, h2.below hb3, grown_then ((grown_below HB0.out _).trans hg2) (hb3.mono (by have := hg2.size; omega))⟩
  have hw3 : w.heap.size + 4 ≤ W3.heap.size := by have := hg2.size; omega
  have hbs : w2.heap.size < W3.heap.size := by omega
  have hHold : ∀ j, holds A n j → j < W3.heap.size := hS3.lt
  generalize w2.heap.size = bs at hBox hbs hsz3 ⊢
  clear ho2 h2 hg2 hb3 b0 b1 b2 b3 hsz3 ha w2 eW0 hsz
  refine wpIn_rangeFunc_ownH rfl (by decide) (gf := 32) (lb := #[.pointer (some ⟨bs, 0, none⟩)]) rfl trivial (enters_of Try.func32 (by kernel_rfl) rfl)
    (back_stops 8 (by decide) bs W3.heap.size A n cp l W3 hBox hbs hS3 hHold) belowK_t (belowK_b (Nat.le_refl _)) (Below.refl _ _) (fun _ => rfl)
    (fun pre W => (∀ k ∈ pre, hitE x g (l.getD k noE) = false) ∧ Looks w p c cap l x g w.heap.size noW false W ∧ W3.heap.size ≤ W.heap.size)
    (fun co pre W => co = .ret ∧ ∃ pre0 k, pre = pre0 ++ [k] ∧ (∀ j ∈ pre0, hitE x g (l.getD j noE) = false) ∧ hitE x g (l.getD k noE) = true ∧ Looks w p c cap l x g w.heap.size (l.getD k noE).v true W)
    (fun s X Y row hs hg hr => ⟨hs.1, looks_own hplt hclt (by omega) () X Y row hs.2.1 hg hr, Nat.le_trans hs.2.2 hg.size⟩)
    (fun co s X Y row hs hg hr => by obtain ⟨h1, pre0, k, h2, h3, h4, h5⟩ := hs; exact ⟨h1, pre0, k, h2, h3, h4, looks_own hplt hclt (by omega) () X Y row h5 hg hr⟩)
    ⟨fun k hk => (by cases hk), hLooks, Nat.le_refl _⟩
    (fun k a' W => AxE p x g w.heap.size bs A n cp l k a' W)
    (fun k a' => axE_own _ _ _ _ _ _ _ _ _ _ _ _)
    ?assign ?body ?done ?stop
  case assign =>
    rintro y pre k W K ⟨h1, h2, h3⟩ hK
    unfold AxE at hK
    unfold encE
    generalize l.getD k noE = E at hK ⊢
    gi_wp2
    have hnw : Blk (W.alloc (.cells #[.int .i64 E.x.k, .int .i64 E.x.i, .int .i64 E.x.j, .int .i64 E.v.n, .int .i64 E.v.c, .int .i64 E.v.g, .int .i64 E.g, .int .i64 E.p] 35)) W.heap.size 35 E.cs.toArray := blk_new _ _ _ _ rfl
    have hbw : Below W.heap.size W (W.alloc (.cells #[.int .i64 E.x.k, .int .i64 E.x.i, .int .i64 E.x.j, .int .i64 E.v.n, .int .i64 E.v.c, .int .i64 E.v.g, .int .i64 E.g, .int .i64 E.p] 35)) := (Below.refl _ W).alloc (Nat.le_refl _) _
    exact hK _ _ ((KeepsOthers.alloc _ _).from _) (hbw.mono h3) ⟨h1, looks_own hplt hclt (Nat.le_refl _) () W _ none h2 (grown_below hbw none) (fun r e => by cases e), Nat.le_trans h3 hbw.size⟩ ⟨W.heap.size, hnw, rfl⟩
  case body =>
    rintro y pre k a' W hl hr ⟨h1, h2, h3⟩ ⟨Bx, hX, rfl⟩ hlt
    have x0 : W.cell? ⟨w.heap.size, 0, none⟩ = some (.int .i64 x.k) := h2.place.cell 0
    have x1 : W.cell? ⟨w.heap.size, 1, none⟩ = some (.int .i64 x.i) := h2.place.cell 1
    have x2 : W.cell? ⟨w.heap.size, 2, none⟩ = some (.int .i64 x.j) := h2.place.cell 2
    have g0 : W.cell? ⟨w.heap.size + 1, 0, none⟩ = some (.int .i64 g) := h2.gen.cell 0
    have hsnoc : hitE x g (l.getD k noE) = false → ∀ j ∈ pre ++ [k], hitE x g (l.getD j noE) = false := fun hh j hj => by
      rcases List.mem_append.1 hj with h | h
      · exact h1 j h
      · rw [List.mem_singleton.1 h]
        exact hh
    have hgo : hitE x g (l.getD k noE) = true → ∃ pre0 k0, pre ++ [k] = pre0 ++ [k0] ∧ (∀ j ∈ pre0, hitE x g (l.getD j noE) = false) ∧ hitE x g (l.getD k0 noE) = true ∧ (l.getD k noE).v = (l.getD k0 noE).v := fun hh => ⟨pre, k, rfl, h1, hh, rfl⟩
    generalize l.getD k noE = E at hX hsnoc hgo ⊢
    have y0 : W.cell? ⟨Bx, 0, none⟩ = some (.int .i64 E.x.k) := hX.cell 0
    have y1 : W.cell? ⟨Bx, 1, none⟩ = some (.int .i64 E.x.i) := hX.cell 1
    have y2 : W.cell? ⟨Bx, 2, none⟩ = some (.int .i64 E.x.j) := hX.cell 2
    have y3 : W.cell? ⟨Bx, 3, none⟩ = some (.int .i64 E.v.n) := hX.cell 3
    have y4 : W.cell? ⟨Bx, 4, none⟩ = some (.int .i64 E.v.c) := hX.cell 4
    have y5 : W.cell? ⟨Bx, 5, none⟩ = some (.int .i64 E.v.g) := hX.cell 5
    have y6 : W.cell? ⟨Bx, 6, none⟩ = some (.int .i64 E.g) := hX.cell 6
    have heq : ∀ W, (binOp BinOp.eql 31 (.agg #[.int .i64 E.x.k, .int .i64 E.x.i, .int .i64 E.x.j]) (.agg #[.int .i64 x.k, .int .i64 x.i, .int .i64 x.j])).run Try.prog W = .ok (.bool (decide (E.x = x))) W := fun W => eq31 E.x x W
    obtain ⟨b, hb⟩ : ∃ b, decide (E.x = x) = b := ⟨_, rfl⟩
    rw [hb] at heq
    cases b with
    | false =>
      have hh : hitE x g E = false := by unfold hitE; rw [hb]; rfl
      clear hb
      have HS2 := Lib.hid (hsnoc hh)
      clear hsnoc hgo hh
      gi_wp2
      exact ⟨(KeepsOthers.refl _).from _, Below.refl _ _, HS2.out, h2, h3⟩
    | true =>
      obtain ⟨b2, hb2⟩ : ∃ b, decide (E.g = g) = b := ⟨_, rfl⟩
      cases b2 with
      | false =>
        have hh : hitE x g E = false := by unfold hitE; rw [hb2]; simp
        have hge : (E.g == g) = false := by simpa using hb2
        clear hb hb2
        have HS2 := Lib.hid (hsnoc hh)
        clear hsnoc hgo hh
        gi_wp2
        exact ⟨(KeepsOthers.refl _).from _, Below.refl _ _, HS2.out, h2, h3⟩
      | true =>
        have hh : hitE x g E = true := by unfold hitE; rw [hb, hb2]; rfl
        have hge : (E.g == g) = true := by simpa using hb2
        clear hb hb2
        have HS2 := Lib.hid (hgo hh)
        clear hsnoc hgo hh
        have z0 : W.cell? ⟨w.heap.size + 1 + 1, 0, none⟩ = some (.int .i64 0) := h2.word.cell 0
        have z1 : W.cell? ⟨w.heap.size + 1 + 1, 1, none⟩ = some (.int .i64 0) := h2.word.cell 1
        have z2 : W.cell? ⟨w.heap.size + 1 + 1, 2, none⟩ = some (.int .i64 0) := h2.word.cell 2
        have z3 : W.cell? ⟨w.heap.size + 1 + 1 + 1, 0, none⟩ = some (.bool false) := h2.is.cell 0
        have f0 : W.frozen? ⟨w.heap.size + 1 + 1, 0, none⟩ = false := h2.word.free 0
        have f1 : W.frozen? ⟨w.heap.size + 1 + 1, 1, none⟩ = false := h2.word.free 1
        have f2 : W.frozen? ⟨w.heap.size + 1 + 1, 2, none⟩ = false := h2.word.free 2
        have f3 : W.frozen? ⟨w.heap.size + 1 + 1 + 1, 0, none⟩ = false := h2.is.free 0
        gi_wp2
        obtain ⟨k1, k2⟩ := looks_set hplt hclt h2 E.v true
        obtain ⟨pre0, k0, e1, e2, e3, e4⟩ := HS2.out
        exact ⟨k2.from _, rfl, pre0, k0, e1, e2, e3, by rw [← e4]; exact k1⟩
  case done =>
    rintro D ys W hD rfl ⟨h1, h2, h3⟩ hK
    have hno := HH h1
    have eW : lastW l x g = noW := by unfold lastW; rw [hno]; rfl
    have eB : lastB l x g = false := by unfold lastB; rw [hno]; rfl
    have EWB := Lib.hid (And.intro eW eB)
    clear eW eB hno HH HS
    gi_wp2_with (refine ⟨trivial, ?_⟩; gi_at_call 28; refine (callsIn_wide.2 (plain_any 0 _)).mono ?_; rintro e W5 ⟨rfl, hb5⟩; have h5 : Looks w p c cap l x g w.heap.size noW false W5 := looks_own hplt hclt (w2 := W3) (by omega) () W _ none h2 (grown_below hb5 none) (fun r e => by cases e); have z0 : W5.cell? ⟨w.heap.size + 1 + 1, 0, none⟩ = some (.int .i64 0) := h5.word.cell 0; have z1 : W5.cell? ⟨w.heap.size + 1 + 1, 1, none⟩ = some (.int .i64 0) := h5.word.cell 1; have z2 : W5.cell? ⟨w.heap.size + 1 + 1, 2, none⟩ = some (.int .i64 0) := h5.word.cell 2; have z3 : W5.cell? ⟨w.heap.size + 1 + 1 + 1, 0, none⟩ = some (.bool false) := h5.is.cell 0; have f0 : W5.frozen? ⟨w.heap.size + 1 + 1, 0, none⟩ = false := h5.word.free 0; have f1 : W5.frozen? ⟨w.heap.size + 1 + 1, 1, none⟩ = false := h5.word.free 1; have f2 : W5.frozen? ⟨w.heap.size + 1 + 1, 2, none⟩ = false := h5.word.free 2; have f3 : W5.frozen? ⟨w.heap.size + 1 + 1 + 1, 0, none⟩ = false := h5.is.free 0)
    obtain ⟨k1, k2⟩ := looks_set hplt hclt h5 noW false
    obtain ⟨W6, eW6⟩ : ∃ W, (((W5.setCell ⟨w.heap.size + 1 + 1, 0, none⟩ (.int .i64 0)).setCell ⟨w.heap.size + 1 + 1, 1, none⟩ (.int .i64 0)).setCell ⟨w.heap.size + 1 + 1, 2, none⟩ (.int .i64 0)).setCell ⟨w.heap.size + 1 + 1 + 1, 0, none⟩ (.bool false) = W := ⟨_, rfl⟩
    have k1 : Looks w p c cap l x g w.heap.size noW false W6 := by rw [← eW6]; exact k1
    have hK6 : W6.heap[D]? = some (.deferred (some [])) := by rw [← eW6]; exact k2.same D _ ((hb5.block D (Array.getElem?_eq_some_iff.1 hK).1).trans hK) rfl
    rw [eW6]
    clear eW6 k2
    refine ⟨by simp, .inl ⟨_, _, rfl, run_takeDeferred hK6, ?_⟩⟩
    have h7 : Looks w p c cap l x g w.heap.size noW false ((W6).putObj D (.deferred none)) := looks_own hplt hclt (w2 := W3) (by omega) () _ _ _ k1 (grownBy_putObj' _ D (.deferred none)) (fun r e => by cases e; exact ⟨hD, _, hK6, rfl⟩)
    have q0 : ((W6).putObj D (.deferred none)).cell? ⟨w.heap.size + 1 + 1, 0, none⟩ = some (.int .i64 (noW).n) := h7.word.cell 0
    have q1 : ((W6).putObj D (.deferred none)).cell? ⟨w.heap.size + 1 + 1, 1, none⟩ = some (.int .i64 (noW).c) := h7.word.cell 1
    have q2 : ((W6).putObj D (.deferred none)).cell? ⟨w.heap.size + 1 + 1, 2, none⟩ = some (.int .i64 (noW).g) := h7.word.cell 2
    have q3 : ((W6).putObj D (.deferred none)).cell? ⟨w.heap.size + 1 + 1 + 1, 0, none⟩ = some (.bool false) := h7.is.cell 0
    refine ⟨.tuple #[.agg #[.int .i64 (noW).n, .int .i64 (noW).c, .int .i64 (noW).g], .bool false], ?_, by rw [EWB.out.1, EWB.out.2]; rfl, h7.buf, h7.grown⟩
    simp [results, Try.f13, go_sem, q0, q1, q2, q3]
  case stop =>
    rintro D co pre W hD hpre ⟨rfl, pre0, k, rfl, h1, h2, h3⟩ hK
    have hso := HS hpre h2 h1
    have eW : lastW l x g = (l.getD k noE).v := by unfold lastW; rw [hso]; rfl
    have eB : lastB l x g = true := by unfold lastB; rw [hso]; rfl
    have EWB := Lib.hid (And.intro eW eB)
    clear eW eB hso HH HS
    gi_wp2
    have k1 := h3
    refine ⟨by simp, .inl ⟨_, _, rfl, run_takeDeferred hK, ?_⟩⟩
    have h7 : Looks w p c cap l x g w.heap.size (l.getD k noE).v true ((W).putObj D (.deferred none)) := looks_own hplt hclt (w2 := W3) (by omega) () _ _ _ k1 (grownBy_putObj' _ D (.deferred none)) (fun r e => by cases e; exact ⟨hD, _, hK, rfl⟩)
    have q0 : ((W).putObj D (.deferred none)).cell? ⟨w.heap.size + 1 + 1, 0, none⟩ = some (.int .i64 ((l.getD k noE).v).n) := h7.word.cell 0
    have q1 : ((W).putObj D (.deferred none)).cell? ⟨w.heap.size + 1 + 1, 1, none⟩ = some (.int .i64 ((l.getD k noE).v).c) := h7.word.cell 1
    have q2 : ((W).putObj D (.deferred none)).cell? ⟨w.heap.size + 1 + 1, 2, none⟩ = some (.int .i64 ((l.getD k noE).v).g) := h7.word.cell 2
    have q3 : ((W).putObj D (.deferred none)).cell? ⟨w.heap.size + 1 + 1 + 1, 0, none⟩ = some (.bool true) := h7.is.cell 0
    refine ⟨.tuple #[.agg #[.int .i64 ((l.getD k noE).v).n, .int .i64 ((l.getD k noE).v).c, .int .i64 ((l.getD k noE).v).g], .bool true], ?_, by rw [EWB.out.1, EWB.out.2]; rfl, h7.buf, h7.grown⟩
    simp [results, Try.f13, go_sem, q0, q1, q2, q3]
theorem last_buf (p c cap : Nat) (l : List Ent) (x : Pl) (g : Int) (w : World) (h : Buf w p c cap l) :
    Calls Try.prog 13 #[.pointer (some ⟨p, 0, none⟩), .agg x.cs.toArray, .int .i64 g] w fun e w' => e = .returned (.tuple #[.agg (lastW l x g).cs.toArray, .bool (lastB l x g)]) ∧ Buf w' p c cap l ∧ w.grownBy w' (some c) := last_buf' p c cap l x g w h
end Go.Proofs.Ytclnkgoaenlhhaa
