/- A Put on both: the memory, and the list of Puts that stands for it. Conditions: at most 800000 Puts. -/
import Derived.Test.YtlajjadpcaobiaaLaw
namespace Go.Proofs.Ytlajjadpcaobiaa
open Go.RowKit Go.ChangeShapes Go.WideShapes

def nextL (p : Pg) (L : List Ch) (x : Ch) : List Ch := if thereP p x.x = true then L ++ [x] else L
theorem Mem.noturned {w : World} {m h b : Nat} {sp sq : Sl} {p : Pg} {L : List Ch} {g : Nat} {t : TypeId} {cs : Array Value} (q : Mem w m h b sp sq p L) (hg : Blk w g t cs) (ht : t ≠ 62 ∧ t ≠ 74) : ¬ turned h b sq g := fun e =>
  e.elim (fun e => hg.ne q.held ht.1 e) (fun e => e.elim (fun e => q.map.ne hg e) (fun e => q.past.box hg ht.2 e.symm))
theorem Own.blk_ {T : TypeId} {w : World} {B n cap : Nat} {A : Option Addr} {xs : List Ch} (h : Own T w B A n cap xs) {g : Nat} (hg : blk A = some g) : ∃ cs, Blk w g T cs := by
  rcases A with _ | ad
  · cases hg
  · obtain ⟨g', o, cur, rfl, _, hc, _⟩ := h.own _ rfl
    injection hg with hg
    subst hg
    exact ⟨cur, hc⟩
theorem Own.turned {w w' : World} {m h b : Nat} {sp sq : Sl} {p : Pg} {L : List Ch} {B n cap : Nat} {A : Option Addr} {xs : List Ch} (ho : Own 37 w B A n cap xs) (q : Mem w m h b sp sq p L) (hk : Kept (turned h b sq) w w') : Own 37 w' B A n cap xs :=
  ho.keeps hk (fun g hg => by
    obtain ⟨cs, hcs⟩ := ho.blk_ hg
    exact q.noturned hcs (by decide))
theorem Mem.list {w w' : World} {m h b : Nat} {sp sq : Sl} {p : Pg} {L : List Ch} {B n cap : Nat} {A : Option Addr} {xs : List Ch} (q : Mem w m h b sp sq p L) (ho : Own 37 w B A n cap xs) (hg : w.grownBy w' (blk A)) : Mem w' m h b sp sq p L :=
  q.kept (kept_grown hg) (fun g hf e => by
    obtain ⟨cs, hcs⟩ := ho.blk_ e
    exact q.off hcs (by decide) (by decide) (by decide) (by decide) hf)
/-- What is left behind a Put on both. -/
structure Both (w w' : World) (m h b : Nat) (sp sq sq' : Sl) (p : Pg) (A : Option Addr) (A' : Option Addr) (n' cap' : Nat) (L' : List Ch) : Prop where
  mem : Mem w' m h b sp sq' p L'
  list : Own 37 w' 0 A' n' cap' L'
  kept : Kept (fun g => turned h b sq g ∨ blk A = some g) w w'
  past : ∀ g, blk sq'.A = some g → blk sq.A = some g ∨ w.heap.size ≤ g
  lst : ∀ g, blk A' = some g → blk A = some g ∨ w.heap.size ≤ g
set_option maxRecDepth 100000 in
set_option maxHeartbeats 4000000 in
theorem lput_any {w : World} {m h b : Nat} {sp sq : Sl} {p : Pg} {L : List Ch} {n cap : Nat} {A : Option Addr} (q : Mem w m h b sp sq p L) (hp : p.Ok) (ho : Own 37 w 0 A n cap L) (hn : L.length ≤ 800000) (x : Ch) (hx : x.x.Wide) : Calls Try.prog 10 #[.pointer (some ⟨m, 0, none⟩), .agg p.cs.toArray, .slice A n cap, .agg x.cs.toArray] w fun e w' => ∃ sq' A' n' cap', e = .returned (.tuple #[.slice A' n' cap', .bool true]) ∧ Both w w' m h b sp sq sq' p A A' n' cap' (nextL p L x) := by
  obtain ⟨p1, f1⟩ : ∃ p, w.heap.size = p := ⟨_, rfl⟩
  obtain ⟨W1, ea1⟩ : ∃ W, w.alloc (.cells p.cs.toArray 24) = W := ⟨_, rfl⟩
  have ka1 : Below w.heap.size w W1 := by rw [← ea1]; exact (Below.refl _ w).alloc (Nat.le_refl _) _
  have b1 : Blk W1 p1 24 p.cs.toArray := by rw [← ea1]; exact blk_new w _ 24 _ f1
  have kk : Below w.heap.size w W1 := ka1
  have hp1 : w.heap.size ≤ p1 := Nat.le_of_eq f1
  clear ka1
  obtain ⟨p2, f2⟩ : ∃ p, W1.heap.size = p := ⟨_, rfl⟩
  obtain ⟨W2, ea2⟩ : ∃ W, W1.alloc (.cells x.cs.toArray 37) = W := ⟨_, rfl⟩
  have ka2 : Below W1.heap.size W1 W2 := by rw [← ea2]; exact (Below.refl _ W1).alloc (Nat.le_refl _) _
  have b2 : Blk W2 p2 37 x.cs.toArray := by rw [← ea2]; exact blk_new W1 _ 37 _ f2
  have q1_2 : p1 < p2 := by rw [← f2]; exact b1.lt
  replace b1 := b1.on ka2
  have kk0 := kk
  replace kk := kk.trans (ka2.mono kk.size)
  have hp2 : w.heap.size ≤ p2 := by rw [← f2]; exact kk0.size
  clear ka2 kk0
  have nA : ∀ g, blk A = some g → g < w.heap.size := fun g e => (ho.lt e).2
  have nb2 : blk A ≠ some p2 := fun e => by have := nA _ e; omega
  replace q := q.on kk
  replace ho := ho.below kk
  have hln : L.length = n := ho.sees.len
  have c1 := put_any q (by omega) x.x x.v hx
  have c2 := fun W => there_any p hp x.x W
  have lb1 := b1
  have lb2 := b2
  cases hth : thereP p x.x with
  | false =>
    rw [hth] at c1
    simp only [hth] at c2
    have eL : nextL p L x = L := by unfold nextL; rw [hth]; rfl
    rw [eL]
    have Hth := Lib.hid hth
    clear hth eL
    go_enter Try.func10, Try.ntmps10
    go_wp2_with (first | ((with_reducible refine at_load 27 (.tmp 12) ?_); refine wpList_mid (by rfl) 27 (.tmp 12) rfl p2 (0) rfl x.x.cs _ (range_part lb2 0 x.x.cs rfl) Try.underlying27 rfl size27 ?_) | ((with_reducible refine at_load 35 (.tmp 14) ?_); refine wpList_mid (by rfl) 35 (.tmp 14) rfl p2 (3) rfl x.v.cs _ (range_part lb2 3 x.v.cs rfl) Try.underlying35 rfl size35 ?_))
    refine c1.mono ?_
    rintro e W3 ⟨rfl, h3, _⟩
    have k3 := h3 (by simp)
    replace q := q.on k3
    replace ho := ho.below k3
    replace b1 := b1.on k3
    replace b2 := b2.on k3
    replace kk := kk.trans (k3.mono kk.size)
    clear c1 h3 k3 lb1 lb2
    go_wp2_with (first | ((with_reducible refine at_load 24 (.tmp 5) ?_); refine wpList_load_row rfl 24 (.tmp 5) rfl p1 rfl 24 p.cs.toArray (0, 0) _ b1 Try.underlying24 rfl size24 ?_) | ((with_reducible refine at_load 27 (.tmp 18) ?_); refine wpList_mid (by rfl) 27 (.tmp 18) rfl p2 (0) rfl x.x.cs _ (range_part b2 0 x.x.cs rfl) Try.underlying27 rfl size27 ?_))
    refine (c2 _).mono ?_
    rintro e W4 ⟨rfl, k4⟩
    replace q := q.on k4
    replace ho := ho.below k4
    replace b1 := b1.on k4
    replace b2 := b2.on k4
    replace kk := kk.trans (k4.mono kk.size)
    clear k4
    go_wp2_with (first | ((with_reducible refine at_load 24 (.tmp 5) ?_); refine wpList_load_row rfl 24 (.tmp 5) rfl p1 rfl 24 p.cs.toArray (0, 0) _ b1 Try.underlying24 rfl size24 ?_) | ((with_reducible refine at_load 27 (.tmp 28) ?_); refine wpList_mid (by rfl) 27 (.tmp 28) rfl p2 (0) rfl x.x.cs _ (range_part b2 0 x.x.cs rfl) Try.underlying27 rfl size27 ?_))
    refine (c2 _).mono ?_
    rintro e W5 ⟨rfl, k5⟩
    replace q := q.on k5
    replace ho := ho.below k5
    replace kk := kk.trans (k5.mono kk.size)
    clear k5
    go_wp2
    go_ret2
    exact ⟨sq, A, n, cap, rfl, q, ho, kept_below _ kk, fun g e => .inl e, fun g e => .inl e⟩
  | true =>
    rw [hth] at c1
    simp only [hth] at c2
    have eL : nextL p L x = L ++ [x] := by unfold nextL; rw [hth]; rfl
    rw [eL]
    have Hth := Lib.hid hth
    clear hth eL
    go_enter Try.func10, Try.ntmps10
    go_wp2_with (first | ((with_reducible refine at_load 27 (.tmp 12) ?_); refine wpList_mid (by rfl) 27 (.tmp 12) rfl p2 (0) rfl x.x.cs _ (range_part lb2 0 x.x.cs rfl) Try.underlying27 rfl size27 ?_) | ((with_reducible refine at_load 35 (.tmp 14) ?_); refine wpList_mid (by rfl) 35 (.tmp 14) rfl p2 (3) rfl x.v.cs _ (range_part lb2 3 x.v.cs rfl) Try.underlying35 rfl size35 ?_))
    refine c1.mono ?_
    rintro e W3 ⟨rfl, _, h3⟩
    obtain ⟨A3, c3, q3, hp3, k3⟩ := h3 (by simp)
    have ho3 := ho.turned q k3
    replace b1 := b1.kept k3 (q.noturned b1 (by decide))
    replace b2 := b2.kept k3 (q.noturned b2 (by decide))
    have kz := (kept_below (turned h b sq) kk).next k3 (fun g e => .inl e)
    have hpast : ∀ g, blk A3 = some g → blk sq.A = some g ∨ w.heap.size ≤ g := fun g e => (hp3 g e).elim .inl (fun e => .inr (Nat.le_trans kk.size e))
    have eW : (⟨x.x, x.v⟩ : Ch) = x := rfl
    rw [eW] at q3
    clear c1 h3 k3 lb1 lb2 q ho hp3 kk eW
    go_wp2_with (first | ((with_reducible refine at_load 24 (.tmp 5) ?_); refine wpList_load_row rfl 24 (.tmp 5) rfl p1 rfl 24 p.cs.toArray (0, 0) _ b1 Try.underlying24 rfl size24 ?_) | ((with_reducible refine at_load 27 (.tmp 18) ?_); refine wpList_mid (by rfl) 27 (.tmp 18) rfl p2 (0) rfl x.x.cs _ (range_part b2 0 x.x.cs rfl) Try.underlying27 rfl size27 ?_))
    refine (c2 _).mono ?_
    rintro e W4 ⟨rfl, k4⟩
    replace q3 := q3.on k4
    replace ho3 := ho3.below k4
    replace b1 := b1.on k4
    replace b2 := b2.on k4
    replace kz := kz.next (kept_below (fun _ => False) k4) (fun _ e => e.elim)
    clear k4
    have k5 : Below W4.heap.size W4 (W4.alloc (.cells #[.int .i64 x.x.k, .int .i64 x.x.i, .int .i64 x.x.j, .int .i64 x.v.n, .int .i64 x.v.c, .int .i64 x.v.g] 37)) := (Below.refl _ _).alloc (Nat.le_refl _) _
    have b5 : Blk (W4.alloc (.cells #[.int .i64 x.x.k, .int .i64 x.x.i, .int .i64 x.x.j, .int .i64 x.v.n, .int .i64 x.v.c, .int .i64 x.v.g] 37)) W4.heap.size 37 #[.int .i64 x.x.k, .int .i64 x.x.i, .int .i64 x.x.j, .int .i64 x.v.n, .int .i64 x.v.c, .int .i64 x.v.g] := blk_new _ _ 37 _ rfl
    have ho5 := ho3.below k5
    have q5 := q3.on k5
    have b15 := b1.on k5
    have b25 := b2.on k5
    have kz5 := kz.next (kept_below (fun _ => False) k5) (fun _ e => e.elim)
    go_wp2_with (first | (refine wpList_load_row rfl 37 (.tmp 7) rfl p2 rfl 37 #[.int .i64 x.x.k, .int .i64 x.x.i, .int .i64 x.x.j, .int .i64 x.v.n, .int .i64 x.v.c, .int .i64 x.v.g] (0, 0) _ b2 Try.underlying37 rfl size37 ?_) | (at_builtin; refine wpList_append_O rfl _ _ rfl rfl ho5 (by omega) (Nat.zero_le _) ⟨W4.heap.size, 0, none⟩ 1 x rfl (fun j u hu => by rw [plain_add]; exact range_blk (cs := x.cs) b5 j u hu) ?_; intro A6 c6 W6 ho6 hg6 hl6; have q6 := q5.list ho5 hg6; have b16 := b15.kept (kept_grown hg6) (fun e => ho5.box b15 (by decide) e.symm); have b26 := b25.kept (kept_grown hg6) (fun e => nb2 e); have kz6 := (kz5.more (S' := fun g => turned h b sq g ∨ blk A = some g) (fun g e => .inl e)).next (kept_grown hg6) (fun g e => .inl (.inr e)); have hlst : ∀ g, blk A6 = some g → blk A = some g ∨ w.heap.size ≤ g := fun g e => (Nat.lt_or_ge g _).elim (fun h => .inl (hl6 g e h)) (fun h => .inr (Nat.le_trans kz5.size h)); clear hl6 hg6 ho5 q5 b15 b25 kz5 b5 k5 q3 ho3 b1 b2 kz) | ((with_reducible refine at_load 24 (.tmp 5) ?_); refine wpList_load_row rfl 24 (.tmp 5) rfl p1 rfl 24 p.cs.toArray (0, 0) _ b16 Try.underlying24 rfl size24 ?_) | ((with_reducible refine at_load 27 (.tmp 28) ?_); refine wpList_mid (by rfl) 27 (.tmp 28) rfl p2 (0) rfl x.x.cs _ (range_part b26 0 x.x.cs rfl) Try.underlying27 rfl size27 ?_))
    refine (c2 _).mono ?_
    rintro e W7 ⟨rfl, k7⟩
    replace q6 := q6.on k7
    replace ho6 := ho6.below k7
    replace kz6 := kz6.next (kept_below (fun _ => False) k7) (fun _ e => e.elim)
    clear k7
    go_wp2
    go_ret2
    exact ⟨⟨A3, sq.n + 1, c3⟩, A6, n + 1, c6, rfl, q6, ho6, kz6, hpast, hlst⟩
end Go.Proofs.Ytlajjadpcaobiaa
