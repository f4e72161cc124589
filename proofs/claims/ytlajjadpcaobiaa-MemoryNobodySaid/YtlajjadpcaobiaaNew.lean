/- New. Conditions: a program whose list of threads has room. -/
import Derived.Test.YtlajjadpcaobiaaUndo
import Derived.Carry
namespace Go.Proofs.Ytlajjadpcaobiaa
open Go.RowKit Go.ChangeShapes Go.WideShapes

def f0 (F : List Pl) (x : Pl) : Option Wd := if x ∈ F then some noW else none
theorem f0_next (F : List Pl) (x y : Pl) : upd (f0 F) x noW y = f0 (F ++ [x]) y := by
  unfold upd f0
  by_cases h : y = x
  · subst h
    simp
  · rw [if_neg h]
    simp [h]
theorem f0_all (p : Pg) (x : Pl) : f0 (placesM p) x = memF p [] x := by
  unfold f0 memF
  rw [at_nil]
  by_cases h : thereP p x = true
  · rw [if_pos h, if_pos (mem_places.2 h)]
  · rw [if_neg h, if_neg (fun h' => h (mem_places.1 h'))]
/-- What is being made. -/
structure Bld (B : Nat) (W : World) (h b : Nat) (A : Option Addr) (n c : Nat) (F : List Pl) : Prop where
  held : Blk W h 62 #[.slice A n c, .map (some b), .slice none 0 0]
  map : MP W b n (f0 F)
  places : W.ownsRow B 27 3 (.slice A n c) n (flatP F)
section
variable {B : Nat} {W W' W2 Z : World} {h b n c : Nat} {A : Option Addr} {F : List Pl}
theorem Bld.on (q : Bld B W h b A n c F) (hb : Below W.heap.size W W') : Bld B W' h b A n c F := ⟨q.held.on hb, q.map.on hb, ownB_below q.places hb⟩
theorem Bld.base {B' : Nat} (q : Bld B W h b none 0 0 []) : Bld B' W h b none 0 0 [] := ⟨q.held, q.map, World.ownsRow_nil _ _ _ _⟩
theorem Bld.len (q : Bld B W h b A n c F) : F.length = n := (own_seesP q.places).len
theorem Bld.lies_lt (q : Bld B W h b A n c F) {g : Nat} (hg : lies A g) : g < W.heap.size ∧ B ≤ g := ⟨(q.places.lt g ((own_lies A n c g).2 hg)).2, own_new q.places g hg⟩
theorem Bld.push (q : Bld B W h b A n c F) (hg : W.grownBy W2 (Value.slice A n c).ownBlock) {A' : Option Addr} {n' c' : Nat} {F' : List Pl} (ho : W2.ownsRow B 27 3 (.slice A' n' c') n' (flatP F')) (e : W2.setCell ⟨h, 0, none⟩ (.slice A' n' c') = Z) :
    Blk Z h 62 #[.slice A' n' c', .map (some b), .slice none 0 0] ∧ MP Z b n (f0 F) ∧ Z.ownsRow B 27 3 (.slice A' n' c') n' (flatP F') ∧ Kept (fun g => g = h ∨ lies A g) W Z := by
  have hk : Kept (fun g => (Value.slice A n c).ownBlock = some g) W W2 := kept_grown hg
  have hh := q.held.kept hk (fun e => own_off (own_low q.places) q.held (by decide) ((own_lies _ _ _ _).1 e))
  have hm := q.map.kept hk (fun e => by
    obtain ⟨cs, hcs⟩ := own_blk (own_low q.places) ((own_lies _ _ _ _).1 e)
    exact q.map.ne hcs rfl)
  have ks := kept_set e
  exact ⟨set_named hh e rfl, hm.kept ks (fun e => hm.ne hh e.symm), set_own ho hh (by decide) e, (hk.more (fun g e => .inr ((own_lies _ _ _ _).1 e))).next ks (fun g e => .inl (.inl e))⟩
end
theorem own_kept' {w w' : World} {B n k : Nat} {A : Option Addr} {cap : Nat} {t : TypeId} {vs : List Value} {S : Nat → Prop} (h : w.ownsRow B t k (.slice A n cap) n vs) (hk : Kept S w w') (hS : ∀ g, lies A g → ¬ S g) : w'.ownsRow B t k (.slice A n cap) n vs :=
  own_base (own_kept (own_low h) hk hS) (own_new h)
set_option maxRecDepth 100000 in
set_option maxHeartbeats 4000000 in
theorem new_any (p : Pg) (hp : p.Ok) (w : World) : Calls Try.prog 9 #[.agg p.cs.toArray] w fun e w' => ∃ m h b sp, e = .returned (.pointer (some ⟨m, 0, none⟩)) ∧ Mem w' m h b sp ⟨none, 0, 0⟩ p [] ∧ (∀ g, foot m h b sp ⟨none, 0, 0⟩ g → w.heap.size ≤ g) ∧ Below w.heap.size w w' := by
  have ca := fun W => all_any p hp W
  have hmany : (allP p).length ≤ 1000 := by
    have h2 := allP_many p
    unfold manyP at h2
    have a1 := cl_of p.r 4 (by omega)
    have a2 := cl_of p.c 6 (by omega)
    have a3 := cl_of (p.n : Int) 4 (by omega)
    have a4 := cl_of p.s 2 (by omega)
    generalize cl p.r 4 = x1 at *
    generalize cl p.c 6 = x2 at *
    generalize cl (p.n : Int) 4 = x3 at *
    generalize cl p.s 2 = x4 at *
    have : x3 * x4 ≤ 4 * 2 := Int.le_trans (Int.mul_le_mul_of_nonneg_right a3.2 a4.1) (Int.mul_le_mul_of_nonneg_left a4.2 (by omega))
    omega
  have eM : (allP p).filter standsB = placesM p := rfl
  have hall0 : ∀ x ∈ allP p, x.Wide := fun x hx => by
    have h1 := isP_kind (mem_allP.1 hx)
    have h2 := isP_wide (mem_allP.1 hx)
    exact ⟨by unfold I64; omega, by unfold I64; omega, by unfold I64; omega⟩
  have hfa := fun x => f0_all p x
  generalize allP p = AL at *
  obtain ⟨p1, f1⟩ : ∃ p, w.heap.size = p := ⟨_, rfl⟩
  obtain ⟨W1, ea1⟩ : ∃ W, w.alloc (.cells p.cs.toArray 24) = W := ⟨_, rfl⟩
  have ka1 : Below w.heap.size w W1 := by rw [← ea1]; exact (Below.refl _ w).alloc (Nat.le_refl _) _
  have b1 : Blk W1 p1 24 p.cs.toArray := by rw [← ea1]; exact blk_new w _ 24 _ f1
  have kk : Below w.heap.size w W1 := ka1
  have hp1 : w.heap.size ≤ p1 := Nat.le_of_eq f1
  clear ka1
  obtain ⟨p2, f2⟩ : ∃ p, W1.heap.size = p := ⟨_, rfl⟩
  obtain ⟨W2, ea2⟩ : ∃ W, W1.alloc (.map #[] 0) = W := ⟨_, rfl⟩
  have ka2 : Below W1.heap.size W1 W2 := by rw [← ea2]; exact (Below.refl _ W1).alloc (Nat.le_refl _) _
  have mp2 : MP W2 p2 0 (fun _ => none) := by rw [← ea2, ← f2]; exact mp_made W1
  replace b1 := b1.on ka2
  have hp2 : w.heap.size ≤ p2 := by rw [← f2]; exact kk.size
  replace kk := kk.trans (ka2.mono kk.size)
  clear ka2
  obtain ⟨p3, f3⟩ : ∃ p, W2.heap.size = p := ⟨_, rfl⟩
  obtain ⟨W3, ea3⟩ : ∃ W, W2.alloc (.cells #[.slice none 0 0, .map (some p2), .slice none 0 0] 62) = W := ⟨_, rfl⟩
  have ka3 : Below W2.heap.size W2 W3 := by rw [← ea3]; exact (Below.refl _ W2).alloc (Nat.le_refl _) _
  have b3 : Blk W3 p3 62 #[.slice none 0 0, .map (some p2), .slice none 0 0] := by rw [← ea3]; exact blk_new W2 _ 62 _ f3
  have q1_3 : p1 < p3 := by rw [← f3]; exact b1.lt
  replace b1 := b1.on ka3
  have kk0 := kk
  replace kk := kk.trans (ka3.mono kk.size)
  have hp3 : w.heap.size ≤ p3 := by rw [← f3]; exact kk0.size
  clear ka3 kk0
  have h23 : p2 < p3 := by rw [← f3]; exact mp2.lt
  have q : Bld w.heap.size W3 p3 p2 none 0 0 [] := ⟨b3, (mp2.on (by rw [← ea3]; exact (Below.refl _ _).alloc (Nat.le_refl _) _)).same (fun x _ => rfl), World.ownsRow_nil _ _ _ _⟩
  clear mp2
  have lb1 := b1
  have hb3lt : p2 < W3.heap.size ∧ p3 < W3.heap.size := ⟨by have := b3.lt; omega, b3.lt⟩
  have c1 := ca W3
  have hmm := @run_makeMap Try.prog
  go_enter Try.func9, Try.ntmps9
  go_wp2_with (((with_reducible refine at_load 24 (.tmp 1) ?_); refine wpList_load_row rfl 24 (.tmp 1) rfl p1 rfl 24 p.cs.toArray (0, 0) _ lb1 Try.underlying24 rfl size24 ?_))
  refine c1.mono ?_
  rintro e W4 ⟨v, rfl, ho, k4⟩
  obtain ⟨Al, cl_, rfl⟩ := own_form ho
  have hAL := (own_seesP ho)
  replace q := q.on k4
  replace kk := kk.trans (k4.mono kk.size)
  clear c1 k4 lb1 b1 b3 ca
  have hAlt : ∀ g, lies Al g → g < W4.heap.size ∧ p3 < g ∧ p2 < g := fun g hg => by
    have h1 := ho.lt g ((own_lies _ _ _ g).2 hg)
    have h2 := hb3lt
    omega
  have HAL := Lib.hid (And.intro hAL (And.intro eM (And.intro hall0 (And.intro hfa hAlt))))
  clear ho eM hall0 hfa
  generalize hLL : AL.length = LL at *
  have q4 : Bld W4.heap.size W4 p3 p2 none 0 0 [] := q.base
  have hw4 := kk.size
  go_wp2_with fail
  go_loopw [12] (fun i wr => ∃ k : Nat, k ≤ LL ∧ i = .int .i64 (k : Int) ∧ ∃ A n c, Bld W4.heap.size wr p3 p2 A n c ((AL.take k).filter standsB) ∧ SeesP wr Al LL cl_ AL ∧ W4.heap.size ≤ wr.heap.size ∧ Below w.heap.size w wr) (fun i _ => LL - (intOf i).toNat)
  case atStart => exact ⟨0, Nat.zero_le _, rfl, none, 0, 0, q4, HAL.out.1, Nat.le_refl _, kk⟩
  case round =>
    clear kk q q4 hAL hAlt
    obtain ⟨k, hk, rfl, A, n, c, q, hS, h4, kk⟩ := hrel
    by_cases hlt : k < LL
    · obtain ⟨x, hx⟩ : ∃ x, AL[k]? = some x := ⟨_, List.getElem?_eq_getElem (by omega)⟩
      have hxw : x.Wide := HAL.out.2.2.1 x (List.mem_of_getElem? hx)
      obtain ⟨g, o, rfl, hr⟩ := hS.at_ hx
      have hr' : wr.rangeAt g (o + k * 3) [.int .i64 x.k, .int .i64 x.i, .int .i64 x.j] := hr
      have hkI : (k : Int) < (LL : Int) := by omega
      have hk0 : (0 : Int) ≤ (k : Int) := by omega
      have hqn : n ≤ 1000 := by
        have h1 := q.len
        have h2 := List.length_filter_le standsB (AL.take k)
        rw [List.length_take] at h2
        omega
      have hFn : (AL.take (k + 1)).filter standsB = if standsB x = true then (AL.take k).filter standsB ++ [x] else (AL.take k).filter standsB := by
        rw [List.take_add_one, hx, List.filter_append]
        cases h : standsB x <;> simp [h]
      generalize (AL.take k).filter standsB = F at *
      clear hx hr
      cases hst : standsB x with
      | false =>
        have hlies := fun g1 (e : lies A g1) => (q.lies_lt e).1
        obtain ⟨p5, f5⟩ : ∃ p, wr.heap.size = p := ⟨_, rfl⟩
        obtain ⟨W5, ea5⟩ : ∃ W, wr.alloc (.cells #[.int .i64 x.k, .int .i64 x.i, .int .i64 x.j] 27) = W := ⟨_, rfl⟩
        have ka5 : Below wr.heap.size wr W5 := by rw [← ea5]; exact (Below.refl _ wr).alloc (Nat.le_refl _) _
        have b5 : Blk W5 p5 27 #[.int .i64 x.k, .int .i64 x.i, .int .i64 x.j] := by rw [← ea5]; exact blk_new wr _ 27 _ f5
        replace q := q.on ka5
        replace hS := hS.on ka5
        have kk0 := kk
        replace kk := kk.trans (ka5.mono kk.size)
        have hp5 : w.heap.size ≤ p5 := by rw [← f5]; exact kk0.size
        clear ka5 kk0
        rw [f5] at hlies
        have h5s : W4.heap.size ≤ p5 := by rw [← f5]; exact h4
        have h5n : p5 < W5.heap.size := b5.lt
        have c1 := stands_any x W5
        rw [hst] at c1
        have lb5 := b5
        replace hFn : (AL.take (k + 1)).filter standsB = F := by rw [hFn, hst]; rfl
        clear hst
        have HN := Lib.hid hFn
        clear hFn
        go_wp2_with (first | (refine wpList_load_mid rfl 27 (.tmp 14) rfl g (o + k * 3) rfl [.int .i64 x.k, .int .i64 x.i, .int .i64 x.j] _ hr' Try.underlying27 rfl size27 ?_) | ((with_reducible refine at_load 27 (.tmp 5) ?_); refine wpList_load_row rfl 27 (.tmp 5) rfl p5 rfl 27 #[.int .i64 x.k, .int .i64 x.i, .int .i64 x.j] (0, 0) _ lb5 Try.underlying27 rfl size27 ?_))
        refine (c1).mono ?_
        rintro e W6 ⟨rfl, k6⟩
        replace b5 := b5.on k6
        replace q := q.on k6
        replace hS := hS.on k6
        replace kk := kk.trans (k6.mono kk.size)
        clear k6
        clear lb5 f5 hr' h4
        have h4 : W4.heap.size ≤ W6.heap.size := by have := b5.lt; omega
        go_wp2_with fail
        go_roundw
        case rel => exact ⟨k + 1, by omega, by go_num, A, n, c, by rw [HN.out]; exact q, hS, h4, kk⟩
        case measure => simp [intOf]; omega
      | true =>
        have hlies := fun g1 (e : lies A g1) => (q.lies_lt e).1
        obtain ⟨p5, f5⟩ : ∃ p, wr.heap.size = p := ⟨_, rfl⟩
        obtain ⟨W5, ea5⟩ : ∃ W, wr.alloc (.cells #[.int .i64 x.k, .int .i64 x.i, .int .i64 x.j] 27) = W := ⟨_, rfl⟩
        have ka5 : Below wr.heap.size wr W5 := by rw [← ea5]; exact (Below.refl _ wr).alloc (Nat.le_refl _) _
        have b5 : Blk W5 p5 27 #[.int .i64 x.k, .int .i64 x.i, .int .i64 x.j] := by rw [← ea5]; exact blk_new wr _ 27 _ f5
        replace q := q.on ka5
        replace hS := hS.on ka5
        have kk0 := kk
        replace kk := kk.trans (ka5.mono kk.size)
        have hp5 : w.heap.size ≤ p5 := by rw [← f5]; exact kk0.size
        clear ka5 kk0
        rw [f5] at hlies
        have h5s : W4.heap.size ≤ p5 := by rw [← f5]; exact h4
        have h5n : p5 < W5.heap.size := b5.lt
        have c1 := stands_any x W5
        rw [hst] at c1
        have lb5 := b5
        replace hFn : (AL.take (k + 1)).filter standsB = F ++ [x] := by rw [hFn, hst]; rfl
        clear hst
        have HN := Lib.hid hFn
        clear hFn
        go_wp2_with (first | (refine wpList_load_mid rfl 27 (.tmp 14) rfl g (o + k * 3) rfl [.int .i64 x.k, .int .i64 x.i, .int .i64 x.j] _ hr' Try.underlying27 rfl size27 ?_) | ((with_reducible refine at_load 27 (.tmp 5) ?_); refine wpList_load_row rfl 27 (.tmp 5) rfl p5 rfl 27 #[.int .i64 x.k, .int .i64 x.i, .int .i64 x.j] (0, 0) _ lb5 Try.underlying27 rfl size27 ?_))
        refine (c1).mono ?_
        rintro e W6 ⟨rfl, k6⟩
        replace b5 := b5.on k6
        replace q := q.on k6
        replace hS := hS.on k6
        replace kk := kk.trans (k6.mono kk.size)
        clear k6
        clear lb5 f5 hr' h4
        have h4 : W4.heap.size ≤ W6.heap.size := by have := b5.lt; omega
        go_wp2_with fail
        have hAlt := HAL.out.2.2.2.2
        have n5 : ¬ (p5 = p3 ∨ lies A p5) := fun e => e.elim (fun e => b5.ne q.held (by decide) e) (fun e => Nat.lt_irrefl _ (hlies _ e))
        obtain ⟨wd, ed⟩ : ∃ W, W6.drew = W := ⟨_, rfl⟩
        have hd : Below W6.heap.size W6 wd := by rw [← ed]; exact (Below.refl _ _).drew
        replace b5 := b5.on hd
        replace q := q.on hd
        replace hS := hS.on hd
        replace kk := kk.trans (hd.mono kk.size)
        clear hd
        have kS : Kept (fun g => g = p3 ∨ lies A g) wd wd := Kept.refl _ _
        refine wp_region_noPanic ?_
        refine wp_region_held_drew (S := (fun W => Kept (fun g => g = p3 ∨ lies A g) wd W)) (by kernel_rfl) (by rw [ed]; exact kS) (fun hHeld => ?_)
        rw [ed] at hHeld ⊢
        refine wpAnyH_take (i := 0) (oi := ⟨some 18, _, _, _, _, _⟩) (v := ?_) rfl (by kernel_rfl) (by kernel_rfl) (by kernel_rfl) (fun _ _ _ h => h) (Or.inl ⟨by rfl, ?_⟩) (by assumption) ?_
        rotate_left 1
        · (intro W hSw; go_simp <;> with_reducible rfl)
        try simp only [Act.put, List.setIfInBounds_toArray, List.set_cons_zero, List.set_cons_succ]
        refine wpAnyH_take (i := 1) (oi := ⟨some 19, _, _, _, _, _⟩) (v := ?_) rfl (by kernel_rfl) (by kernel_rfl) (by kernel_rfl) (fun _ _ _ h => h) (Or.inl ⟨by rfl, ?_⟩) (by assumption) ?_
        rotate_left 1
        · (intro W hSw; go_simp <;> with_reducible rfl)
        try simp only [Act.put, List.setIfInBounds_toArray, List.set_cons_zero, List.set_cons_succ]
        refine wpAnyH_take (i := 2) (oi := ⟨some 20, _, _, _, _, _⟩) (v := ?_) rfl (by kernel_rfl) (by kernel_rfl) (by kernel_rfl) (fun _ _ _ h => h) (Or.inl ⟨by rfl, ?_⟩) (by assumption) ?_
        rotate_left 1
        · (intro W hSw; go_simp <;> with_reducible rfl)
        try simp only [Act.put, List.setIfInBounds_toArray, List.set_cons_zero, List.set_cons_succ]
        refine wpAnyH_take (i := 3) (oi := ⟨some 21, _, _, _, _, _⟩) (v := ?_) rfl (by kernel_rfl) (by kernel_rfl) (by kernel_rfl) (fun _ _ _ h => h) (Or.inl ⟨by rfl, ?_⟩) (by assumption) ?_
        rotate_left 1
        · (intro W hSw; go_simp <;> with_reducible rfl)
        try simp only [Act.put, List.setIfInBounds_toArray, List.set_cons_zero, List.set_cons_succ]
        refine wpAnyH_take (i := 5) (oi := ⟨some 23, _, _, _, _, _⟩) (v := .agg (List.toArray ([.int .i64 x.k, .int .i64 x.i, .int .i64 x.j]))) rfl (by kernel_rfl) (by kernel_rfl) (by kernel_rfl) (fun _ _ _ h => h) (yieldsIf_load_mid (by rfl) 27 (.tmp 5) rfl p5 (0) rfl ([.int .i64 x.k, .int .i64 x.i, .int .i64 x.j]) _ (fun W hW => range_part (b5.kept hW n5) 0 x.cs rfl) Try.underlying27 rfl size27) (by assumption) ?_
        try simp only [Act.put, List.setIfInBounds_toArray, List.set_cons_zero, List.set_cons_succ]
        refine wpAnyH_ready (rs := [4, 6]) (by kernel_rfl) (by simp) ?_
        refine AllReadyH.cons (o := ⟨some 22, _, _, _, _, _⟩) rfl (fun K hK => ?_) (AllReadyH.cons (o := ⟨some 24, _, _, _, _, _⟩) rfl (fun K hK => ?_) AllReadyH.nil)
        · rw [if_pos (by rfl)]
          have z0 := q.held.cell 0
          go_simp
          clear z0
          refine hK.out _ _ kS (fun h1 => ?_)
          clear hHeld hK K
          try simp only [Act.put, List.setIfInBounds_toArray, List.set_cons_zero, List.set_cons_succ]
          refine wpAnyH_ready (rs := [6]) (by kernel_rfl) (by simp) ?_
          refine AllReadyH.cons (o := ⟨some 24, _, _, _, _, _⟩) rfl (fun K hK => ?_) AllReadyH.nil
          go_simp
          obtain ⟨w2, ew2⟩ : ∃ zz, zz = wd.alloc (.cells #[.int .i64 x.k, .int .i64 x.i, .int .i64 x.j] 27) := ⟨_, rfl⟩
          have hb2 : Below wd.heap.size wd w2 := by rw [ew2]; exact (Below.refl _ _).alloc (Nat.le_refl _) _
          rw [← ew2]
          have nb2 : Blk w2 wd.heap.size 27 #[.int .i64 x.k, .int .i64 x.i, .int .i64 x.j] := by rw [ew2]; exact blk_new _ _ 27 _ rfl
          have b5_2 := b5.on hb2
          have q_2 := q.on hb2
          have hS_2 := hS.on hb2
          have kk_2 := kk.trans (hb2.mono kk.size)
          have S2 : (fun W => Kept (fun g => g = p3 ∨ lies A g) wd W) w2 := Kept.next kS (kept_below (fun _ => False) hb2) (fun _ h => h.elim)
          refine hK.out _ _ S2 (fun h2 => ?_)
          clear h1 hK K ew2
          try simp only [Act.put, List.setIfInBounds_toArray, List.set_cons_zero, List.set_cons_succ]
          refine wpAnyH_ready (rs := [7]) (by kernel_rfl) (by simp) ?_
          refine AllReadyH.cons (o := ⟨some 25, _, _, _, _, _⟩) rfl (fun K hK => ?_) AllReadyH.nil
          rw [if_pos (by rfl)]
          refine wp_one_P (.tmp 22) (.tmp 24) rfl rfl q_2.places (by omega) (by have := b5_2.lt; omega) ⟨wd.heap.size, 0, none⟩ 1 x rfl (fun j u hu => by rw [plain_add]; exact range_blk (cs := x.cs) nb2 j u hu) ?_
          intro A' c' w3 po hg3
          have kn3 := kept_grown hg3
          have S3 : (fun W => Kept (fun g => g = p3 ∨ lies A g) wd W) w3 := S2.next kn3 (fun g e => .inl (.inr ((own_lies _ _ _ _).1 e)))
          refine hK.out _ _ S3 (fun h3 => ?_)
          clear h2 hK K
          try simp only [Act.put, List.setIfInBounds_toArray, List.set_cons_zero, List.set_cons_succ]
          refine wpAnyH_take (i := 8) (oi := ⟨some 26, _, _, _, _, _⟩) (v := ?_) rfl (by kernel_rfl) (by kernel_rfl) (by kernel_rfl) (fun _ _ _ h => h) (Or.inl ⟨by rfl, ?_⟩) (by assumption) ?_
          rotate_left 1
          · (intro W hSw; go_simp <;> with_reducible rfl)
          try simp only [Act.put, List.setIfInBounds_toArray, List.set_cons_zero, List.set_cons_succ]
          refine wpAnyH_take (i := 9) (oi := ⟨some 27, _, _, _, _, _⟩) (v := ?_) rfl (by kernel_rfl) (by kernel_rfl) (by kernel_rfl) (fun _ _ _ h => h) (Or.inl ⟨by rfl, ?_⟩) (by assumption) ?_
          rotate_left 1
          · (intro W hSw; go_simp <;> with_reducible rfl)
          try simp only [Act.put, List.setIfInBounds_toArray, List.set_cons_zero, List.set_cons_succ]
          refine wpAnyH_ready (rs := [10]) (by kernel_rfl) (by simp) ?_
          refine AllReadyH.cons (o := ⟨none, _, _, _, _, _⟩) rfl (fun K hK => ?_) AllReadyH.nil
          rw [if_pos (by rfl)]
          have hh := (q_2.held).kept kn3 (fun e => own_off (own_low q_2.places) q_2.held (by decide) ((own_lies _ _ _ _).1 e))
          have z0 := hh.cell 0
          have z1 := hh.free 0
          go_simp
          refine hK.out _ _ (S3.next (kept_cell _ ⟨p3, 0, none⟩ _) (fun g e => .inl (.inl e))) (fun h4 => ?_)
          clear h3 hK K
          try simp only [Act.put]
          refine wpAnyH_done (by kernel_rfl) ?_ _
          refine NoPanic.normal ?_
          obtain ⟨W8, e8⟩ : ∃ W, w3.setCell ⟨p3, 0, none⟩ (.slice A' (n + 1) c') = W := ⟨_, rfl⟩
          rw [e8]
          rw [e8] at h4
          obtain ⟨hh8, hm8, ho8, k8⟩ := q_2.push hg3 po e8
          have b8 := (b5_2).kept k8 n5
          have hS8 : SeesP W8 _ LL cl_ AL := Sees.kept hS_2 k8 (fun g1 hg1 e => by have h1 := hAlt g1 hg1.2; exact e.elim (fun e => by omega) (fun e => by have := (q_2.lies_lt e).2; omega))
          have k8w : Below w.heap.size w W8 := kk_2.trans (k8.under _ kk_2.size (fun g1 e => e.elim (fun e => by omega) (fun e => by have := (q_2.lies_lt e).2; omega)))
          have hz8 : W4.heap.size ≤ W8.heap.size := by have := k8.size; have := b5_2.lt; omega
          clear hg3 kn3 po k8 e8 b5_2 hS_2 kk_2 nb2 q_2 h4 hh z0 z1 
          go_wp2_with fail
          obtain ⟨we, ee⟩ : ∃ W, W8.drew = W := ⟨_, rfl⟩
          have he : Below W8.heap.size W8 we := by rw [← ee]; exact (Below.refl _ _).drew
          replace hh8 := hh8.on he
          replace hm8 := hm8.on he
          replace ho8 := ownB_below ho8 he
          replace b8 := b8.on he
          replace hS8 := hS8.on he
          replace k8w := k8w.trans (he.mono k8w.size)
          replace hz8 := Nat.le_trans hz8 he.size
          have kE : Kept (fun g => g = p2) we we := Kept.refl _ _
          have nbb : p5 ≠ p2 := fun e => hm8.ne b8 e
          have nbh : p3 ≠ p2 := fun e => hm8.ne hh8 e
          have tE : ∀ W, Kept (fun g => g = p2) we W → W.cell? ⟨p3, 1, none⟩ = some (.map (some p2)) := fun W hW => (hh8.kept hW nbh).cell 1
          refine wp_region_noPanic ?_
          refine wp_region_held_drew (S := (fun W => Kept (fun g => g = p2) we W)) (by kernel_rfl) (by rw [ee]; exact kE) (fun hHeld => ?_)
          rw [ee] at hHeld ⊢
          refine wpAnyH_take (i := 0) (oi := ⟨some 28, _, _, _, _, _⟩) (v := ?_) rfl (by kernel_rfl) (by kernel_rfl) (by kernel_rfl) (fun _ _ _ h => h) (Or.inl ⟨by rfl, ?_⟩) (by assumption) ?_
          rotate_left 1
          · (intro W hSw; go_simp <;> with_reducible rfl)
          try simp only [Act.put, List.setIfInBounds_toArray, List.set_cons_zero, List.set_cons_succ]
          refine wpAnyH_take (i := 1) (oi := ⟨some 29, _, _, _, _, _⟩) (v := ?_) rfl (by kernel_rfl) (by kernel_rfl) (by kernel_rfl) (fun _ _ _ h => h) (Or.inl ⟨by rfl, ?_⟩) (by assumption) ?_
          rotate_left 1
          · (intro W hSw; go_simp <;> with_reducible rfl)
          try simp only [Act.put, List.setIfInBounds_toArray, List.set_cons_zero, List.set_cons_succ]
          refine wpAnyH_take (i := 2) (oi := ⟨some 30, _, _, _, _, _⟩) (v := ?_) rfl (by kernel_rfl) (by kernel_rfl) (by kernel_rfl) (fun _ _ _ h => h) (Or.inl ⟨by rfl, ?_⟩) (by assumption) ?_
          rotate_left 1
          · (intro W hSw; go_simp <;> with_reducible rfl)
          try simp only [Act.put, List.setIfInBounds_toArray, List.set_cons_zero, List.set_cons_succ]
          refine wpAnyH_take (i := 3) (oi := ⟨some 31, _, _, _, _, _⟩) (v := ?_) rfl (by kernel_rfl) (by kernel_rfl) (by kernel_rfl) (fun _ _ _ h => h) (Or.inl ⟨by rfl, ?_⟩) (by assumption) ?_
          rotate_left 1
          · (intro W hSw; obtain q0 := tE W hSw; go_simp <;> with_reducible rfl)
          try simp only [Act.put, List.setIfInBounds_toArray, List.set_cons_zero, List.set_cons_succ]
          refine wpAnyH_take (i := 4) (oi := ⟨some 32, _, _, _, _, _⟩) (v := .agg (List.toArray (x.cs))) rfl (by kernel_rfl) (by kernel_rfl) (by kernel_rfl) (fun _ _ _ h => h) (yieldsIf_load_mid (by rfl) 27 (.tmp 5) rfl p5 (0) rfl (x.cs) _ (fun W hW => range_part (b8.kept hW nbb) 0 x.cs rfl) Try.underlying27 rfl size27) (by assumption) ?_
          try simp only [Act.put, List.setIfInBounds_toArray, List.set_cons_zero, List.set_cons_succ]
          refine wpAnyH_ready (rs := [5]) (by kernel_rfl) (by simp) ?_
          refine AllReadyH.cons (o := ⟨some 33, _, _, _, _, _⟩) rfl (fun K hK => ?_) AllReadyH.nil
          go_simp
          refine (plain_any 0 we).mono ?_
          rintro e w1 ⟨rfl, hb1⟩
          have hm8_1 := hm8.on hb1
          have S1 : (fun W => Kept (fun g => g = p2) we W) w1 := Kept.next kE (kept_below (fun _ => False) hb1) (fun _ h => h.elim)
          refine hK.out _ _ S1 (fun h1 => ?_)
          clear hHeld hK K
          try simp only [Act.put, List.setIfInBounds_toArray, List.set_cons_zero, List.set_cons_succ]
          refine wpAnyH_ready (rs := [6]) (by kernel_rfl) (by simp) ?_
          refine AllReadyH.cons (o := ⟨none, _, _, _, _, _⟩) rfl (fun K hK => ?_) AllReadyH.nil
          rw [if_pos (by rfl)]
          refine wp_enter (.tmp 31) (.tmp 32) (.tmp 33) rfl rfl rfl rfl hm8_1 hxw (by unfold maxLen; omega) ?_
          intro w2 hm2 hg2 hs2
          have S2 : (fun W => Kept (fun g => g = p2) we W) w2 := S1.next (kept_grown hg2) (fun g e => .inl (by injection e with e; exact e.symm))
          refine hK.out _ _ S2 (fun h2 => ?_)
          clear h1 hK K
          try simp only [Act.put]
          refine wpAnyH_done (by kernel_rfl) ?_ _
          refine NoPanic.normal ?_
          have kz := S2
          go_wp2
          go_roundw
          case rel => exact ⟨k + 1, by omega, by go_num, A', n + 1, c', by rw [HN.out]; exact ⟨hh8.kept kz nbh, hm2.same (fun y _ => (f0_next F x y).symm), (own_kept' ho8 kz (fun g1 e1 e2 => by obtain ⟨cs, hcs⟩ := own_blk (own_low ho8) e1; exact hm8.ne hcs e2))⟩, Sees.kept hS8 kz (fun g1 hg1 e => by have := hAlt g1 hg1.2; omega), by have := kz.size; omega, k8w.trans (kz.under _ k8w.size (fun g1 e => by omega))⟩
          case measure => simp [intOf]; omega
        · go_simp
          obtain ⟨w5, ew5⟩ : ∃ zz, zz = wd.alloc (.cells #[.int .i64 x.k, .int .i64 x.i, .int .i64 x.j] 27) := ⟨_, rfl⟩
          have hb5 : Below wd.heap.size wd w5 := by rw [ew5]; exact (Below.refl _ _).alloc (Nat.le_refl _) _
          rw [← ew5]
          have nb5 : Blk w5 wd.heap.size 27 #[.int .i64 x.k, .int .i64 x.i, .int .i64 x.j] := by rw [ew5]; exact blk_new _ _ 27 _ rfl
          have b5_5 := b5.on hb5
          have q_5 := q.on hb5
          have hS_5 := hS.on hb5
          have kk_5 := kk.trans (hb5.mono kk.size)
          have S5 : (fun W => Kept (fun g => g = p3 ∨ lies A g) wd W) w5 := Kept.next kS (kept_below (fun _ => False) hb5) (fun _ h => h.elim)
          refine hK.out _ _ S5 (fun h5 => ?_)
          clear hHeld hK K ew5
          try simp only [Act.put, List.setIfInBounds_toArray, List.set_cons_zero, List.set_cons_succ]
          refine wpAnyH_ready (rs := [4]) (by kernel_rfl) (by simp) ?_
          refine AllReadyH.cons (o := ⟨some 22, _, _, _, _, _⟩) rfl (fun K hK => ?_) AllReadyH.nil
          rw [if_pos (by rfl)]
          have z0 := q_5.held.cell 0
          go_simp
          clear z0
          refine hK.out _ _ S5 (fun h6 => ?_)
          clear h5 hK K
          try simp only [Act.put, List.setIfInBounds_toArray, List.set_cons_zero, List.set_cons_succ]
          refine wpAnyH_ready (rs := [7]) (by kernel_rfl) (by simp) ?_
          refine AllReadyH.cons (o := ⟨some 25, _, _, _, _, _⟩) rfl (fun K hK => ?_) AllReadyH.nil
          rw [if_pos (by rfl)]
          refine wp_one_P (.tmp 22) (.tmp 24) rfl rfl q_5.places (by omega) (by have := b5_5.lt; omega) ⟨wd.heap.size, 0, none⟩ 1 x rfl (fun j u hu => by rw [plain_add]; exact range_blk (cs := x.cs) nb5 j u hu) ?_
          intro A' c' w7 po hg7
          have kn7 := kept_grown hg7
          have S7 : (fun W => Kept (fun g => g = p3 ∨ lies A g) wd W) w7 := S5.next kn7 (fun g e => .inl (.inr ((own_lies _ _ _ _).1 e)))
          refine hK.out _ _ S7 (fun h7 => ?_)
          clear h6 hK K
          try simp only [Act.put, List.setIfInBounds_toArray, List.set_cons_zero, List.set_cons_succ]
          refine wpAnyH_take (i := 8) (oi := ⟨some 26, _, _, _, _, _⟩) (v := ?_) rfl (by kernel_rfl) (by kernel_rfl) (by kernel_rfl) (fun _ _ _ h => h) (Or.inl ⟨by rfl, ?_⟩) (by assumption) ?_
          rotate_left 1
          · (intro W hSw; go_simp <;> with_reducible rfl)
          try simp only [Act.put, List.setIfInBounds_toArray, List.set_cons_zero, List.set_cons_succ]
          refine wpAnyH_take (i := 9) (oi := ⟨some 27, _, _, _, _, _⟩) (v := ?_) rfl (by kernel_rfl) (by kernel_rfl) (by kernel_rfl) (fun _ _ _ h => h) (Or.inl ⟨by rfl, ?_⟩) (by assumption) ?_
          rotate_left 1
          · (intro W hSw; go_simp <;> with_reducible rfl)
          try simp only [Act.put, List.setIfInBounds_toArray, List.set_cons_zero, List.set_cons_succ]
          refine wpAnyH_ready (rs := [10]) (by kernel_rfl) (by simp) ?_
          refine AllReadyH.cons (o := ⟨none, _, _, _, _, _⟩) rfl (fun K hK => ?_) AllReadyH.nil
          rw [if_pos (by rfl)]
          have hh := (q_5.held).kept kn7 (fun e => own_off (own_low q_5.places) q_5.held (by decide) ((own_lies _ _ _ _).1 e))
          have z0 := hh.cell 0
          have z1 := hh.free 0
          go_simp
          refine hK.out _ _ (S7.next (kept_cell _ ⟨p3, 0, none⟩ _) (fun g e => .inl (.inl e))) (fun h8 => ?_)
          clear h7 hK K
          try simp only [Act.put]
          refine wpAnyH_done (by kernel_rfl) ?_ _
          refine NoPanic.normal ?_
          obtain ⟨W8, e8⟩ : ∃ W, w7.setCell ⟨p3, 0, none⟩ (.slice A' (n + 1) c') = W := ⟨_, rfl⟩
          rw [e8]
          rw [e8] at h8
          obtain ⟨hh8, hm8, ho8, k8⟩ := q_5.push hg7 po e8
          have b8 := (b5_5).kept k8 n5
          have hS8 : SeesP W8 _ LL cl_ AL := Sees.kept hS_5 k8 (fun g1 hg1 e => by have h1 := hAlt g1 hg1.2; exact e.elim (fun e => by omega) (fun e => by have := (q_5.lies_lt e).2; omega))
          have k8w : Below w.heap.size w W8 := kk_5.trans (k8.under _ kk_5.size (fun g1 e => e.elim (fun e => by omega) (fun e => by have := (q_5.lies_lt e).2; omega)))
          have hz8 : W4.heap.size ≤ W8.heap.size := by have := k8.size; have := b5_5.lt; omega
          clear hg7 kn7 po k8 e8 b5_5 hS_5 kk_5 nb5 q_5 h8 hh z0 z1 
          go_wp2_with fail
          obtain ⟨we, ee⟩ : ∃ W, W8.drew = W := ⟨_, rfl⟩
          have he : Below W8.heap.size W8 we := by rw [← ee]; exact (Below.refl _ _).drew
          replace hh8 := hh8.on he
          replace hm8 := hm8.on he
          replace ho8 := ownB_below ho8 he
          replace b8 := b8.on he
          replace hS8 := hS8.on he
          replace k8w := k8w.trans (he.mono k8w.size)
          replace hz8 := Nat.le_trans hz8 he.size
          have kE : Kept (fun g => g = p2) we we := Kept.refl _ _
          have nbb : p5 ≠ p2 := fun e => hm8.ne b8 e
          have nbh : p3 ≠ p2 := fun e => hm8.ne hh8 e
          have tE : ∀ W, Kept (fun g => g = p2) we W → W.cell? ⟨p3, 1, none⟩ = some (.map (some p2)) := fun W hW => (hh8.kept hW nbh).cell 1
          refine wp_region_noPanic ?_
          refine wp_region_held_drew (S := (fun W => Kept (fun g => g = p2) we W)) (by kernel_rfl) (by rw [ee]; exact kE) (fun hHeld => ?_)
          rw [ee] at hHeld ⊢
          refine wpAnyH_take (i := 0) (oi := ⟨some 28, _, _, _, _, _⟩) (v := ?_) rfl (by kernel_rfl) (by kernel_rfl) (by kernel_rfl) (fun _ _ _ h => h) (Or.inl ⟨by rfl, ?_⟩) (by assumption) ?_
          rotate_left 1
          · (intro W hSw; go_simp <;> with_reducible rfl)
          try simp only [Act.put, List.setIfInBounds_toArray, List.set_cons_zero, List.set_cons_succ]
          refine wpAnyH_take (i := 1) (oi := ⟨some 29, _, _, _, _, _⟩) (v := ?_) rfl (by kernel_rfl) (by kernel_rfl) (by kernel_rfl) (fun _ _ _ h => h) (Or.inl ⟨by rfl, ?_⟩) (by assumption) ?_
          rotate_left 1
          · (intro W hSw; go_simp <;> with_reducible rfl)
          try simp only [Act.put, List.setIfInBounds_toArray, List.set_cons_zero, List.set_cons_succ]
          refine wpAnyH_take (i := 2) (oi := ⟨some 30, _, _, _, _, _⟩) (v := ?_) rfl (by kernel_rfl) (by kernel_rfl) (by kernel_rfl) (fun _ _ _ h => h) (Or.inl ⟨by rfl, ?_⟩) (by assumption) ?_
          rotate_left 1
          · (intro W hSw; go_simp <;> with_reducible rfl)
          try simp only [Act.put, List.setIfInBounds_toArray, List.set_cons_zero, List.set_cons_succ]
          refine wpAnyH_take (i := 3) (oi := ⟨some 31, _, _, _, _, _⟩) (v := ?_) rfl (by kernel_rfl) (by kernel_rfl) (by kernel_rfl) (fun _ _ _ h => h) (Or.inl ⟨by rfl, ?_⟩) (by assumption) ?_
          rotate_left 1
          · (intro W hSw; obtain q0 := tE W hSw; go_simp <;> with_reducible rfl)
          try simp only [Act.put, List.setIfInBounds_toArray, List.set_cons_zero, List.set_cons_succ]
          refine wpAnyH_take (i := 4) (oi := ⟨some 32, _, _, _, _, _⟩) (v := .agg (List.toArray (x.cs))) rfl (by kernel_rfl) (by kernel_rfl) (by kernel_rfl) (fun _ _ _ h => h) (yieldsIf_load_mid (by rfl) 27 (.tmp 5) rfl p5 (0) rfl (x.cs) _ (fun W hW => range_part (b8.kept hW nbb) 0 x.cs rfl) Try.underlying27 rfl size27) (by assumption) ?_
          try simp only [Act.put, List.setIfInBounds_toArray, List.set_cons_zero, List.set_cons_succ]
          refine wpAnyH_ready (rs := [5]) (by kernel_rfl) (by simp) ?_
          refine AllReadyH.cons (o := ⟨some 33, _, _, _, _, _⟩) rfl (fun K hK => ?_) AllReadyH.nil
          go_simp
          refine (plain_any 0 we).mono ?_
          rintro e w1 ⟨rfl, hb1⟩
          have hm8_1 := hm8.on hb1
          have S1 : (fun W => Kept (fun g => g = p2) we W) w1 := Kept.next kE (kept_below (fun _ => False) hb1) (fun _ h => h.elim)
          refine hK.out _ _ S1 (fun h1 => ?_)
          clear hHeld hK K
          try simp only [Act.put, List.setIfInBounds_toArray, List.set_cons_zero, List.set_cons_succ]
          refine wpAnyH_ready (rs := [6]) (by kernel_rfl) (by simp) ?_
          refine AllReadyH.cons (o := ⟨none, _, _, _, _, _⟩) rfl (fun K hK => ?_) AllReadyH.nil
          rw [if_pos (by rfl)]
          refine wp_enter (.tmp 31) (.tmp 32) (.tmp 33) rfl rfl rfl rfl hm8_1 hxw (by unfold maxLen; omega) ?_
          intro w2 hm2 hg2 hs2
          have S2 : (fun W => Kept (fun g => g = p2) we W) w2 := S1.next (kept_grown hg2) (fun g e => .inl (by injection e with e; exact e.symm))
          refine hK.out _ _ S2 (fun h2 => ?_)
          clear h1 hK K
          try simp only [Act.put]
          refine wpAnyH_done (by kernel_rfl) ?_ _
          refine NoPanic.normal ?_
          have kz := S2
          go_wp2
          go_roundw
          case rel => exact ⟨k + 1, by omega, by go_num, A', n + 1, c', by rw [HN.out]; exact ⟨hh8.kept kz nbh, hm2.same (fun y _ => (f0_next F x y).symm), (own_kept' ho8 kz (fun g1 e1 e2 => by obtain ⟨cs, hcs⟩ := own_blk (own_low ho8) e1; exact hm8.ne hcs e2))⟩, Sees.kept hS8 kz (fun g1 hg1 e => by have := hAlt g1 hg1.2; omega), by have := kz.size; omega, k8w.trans (kz.under _ k8w.size (fun g1 e => by omega))⟩
          case measure => simp [intOf]; omega
    · have hk' : k = LL := by omega
      subst hk'
      rw [← hLL, List.take_length, HAL.out.2.1] at q
      have hfa := HAL.out.2.2.2.1
      clear hS HAL
      have hqn := q.len
      have hfew := places_few p
      rw [hqn] at hfew
      go_wp2
      go_ret
      have hbk : Below wr.heap.size wr (wr.alloc (.cells #[.pointer (some ⟨p3, 0, none⟩)] 46)) := (Below.refl _ wr).alloc (Nat.le_refl _) _
      have bm : Blk (wr.alloc (.cells #[.pointer (some ⟨p3, 0, none⟩)] 46)) wr.heap.size 46 #[.pointer (some ⟨p3, 0, none⟩)] := blk_new wr _ 46 _ rfl
      have hlies := fun g1 (e : lies A g1) => (q.lies_lt e).2
      have q2 := q.on hbk
      refine ⟨wr.heap.size, p3, p2, ⟨A, n, c⟩, rfl, ⟨⟨bm, q2.held, (q2.map.mono hfew).same (fun x _ => (hfa x).symm), own_low q2.places, Own.nil 74 _ 0⟩, fun e he => (by cases he)⟩, fun g1 hg1 => ?_, kk.trans (hbk.mono kk.size)⟩
      rcases hg1 with e | e | e | e | e
      · rw [e]
        exact kk.size
      · omega
      · omega
      · have := hlies g1 e
        omega
      · cases e
end Go.Proofs.Ytlajjadpcaobiaa
