/- Undo. Conditions: at most a million Puts. -/
import Derived.Test.YtlajjadpcaobiaaBack
import Derived.Test.YtlajjadpcaobiaaRound
import Derived.Test.YtlajjadpcaobiaaTell
import Derived.RangeFuncWrites
import Derived.Test.YtlajjadpcaobiaaAll
namespace Go.Proofs.Ytlajjadpcaobiaa
open Go.RowKit Go.Shelf Go.ChangeShapes Go.WideShapes
attribute [local go_sem] Oper.semAt_some

theorem under60 : Try.prog.underlying 60 = some (.slice (Try.prog.elem 60)) := by kernel_rfl
theorem sizeE60 (w : World) : (sizeOf (Try.prog.elem 60)).run Try.prog w = .ok 6 w := by kernel_rfl
theorem from60 {A : Option Addr} {n cap : Nat} (k : Nat) (hk : k ≤ n) (w : World) :
    (Instr.slice 60 (.slice A n cap) (some (.int .i64 (k : Int))) none none).run Try.prog w = .ok (.slice (if cap = k then A else A.map (·.add (k * 6))) (n - k) (cap - k)) w := by
  rw [run_slice_l w 60 A n cap under60 .i64 _ (by omega) (by omega), sizeE60]
  simp [Result.andThen, sliced]
theorem upto60 (A : Option Addr) (n cap k : Nat) (hk : k ≤ cap) (hA : A = none → cap = 0) (w : World) :
    (Instr.slice 60 (.slice A n cap) none (some (.int .i64 (k : Int))) none).run Try.prog w = .ok (.slice A k cap) w := by
  rw [run_slice_h w 60 _ n cap under60 .i64 _ (by omega) (by omega), sizeE60]
  simp only [Result.andThen, sliced, Int.toNat_natCast, Nat.sub_zero, Nat.zero_mul]
  rcases A with _ | ad
  · have := hA rfl
    subst this
    obtain rfl : k = 0 := by omega
    rfl
  · split <;> simp [Addr.add]
/-- What lies behind the first so many. -/
theorem Sees.rest {α : Type} {f : α → List Value} {k : Nat} (hf : ∀ x, (f x).length = k) {w : World} {A : Option Addr} {n cap : Nat} {l : List α} (h : Sees w k A n cap (l.flatMap f)) (m : Nat) (hm : m ≤ n) (hk : 0 < k) :
    Sees w k (if cap = m then A else A.map (·.add (m * k))) (n - m) (cap - m) ((l.drop m).flatMap f) := by
  have hl : l.length = n := by
    have := h.len
    rw [flat_len hf] at this
    exact Nat.eq_of_mul_eq_mul_right hk this
  have hr := h.room
  refine ⟨by rw [flat_len hf, List.length_drop]; congr 1; omega, by omega, Nat.le_trans (Nat.sub_le _ _) h.most, fun e => ?_, fun ad ha h0 => ?_⟩
  · split at e
    · omega
    · have := h.none_ (by simpa using e)
      omega
  · rw [if_neg (by omega)] at ha
    cases A with
    | none => cases ha
    | some ad0 =>
      obtain ⟨g, o, rfl, hg, hr2⟩ := h.cell ad0 rfl (by omega)
      simp only [Option.map_some, Option.some.injEq] at ha
      refine ⟨g, o + m * k, by rw [← ha, Addr.add_mid], hg, fun j v hv => ?_⟩
      have e2 : l.flatMap f = (l.take m).flatMap f ++ (l.drop m).flatMap f := by rw [← List.flatMap_append, List.take_append_drop]
      have el : ((l.take m).flatMap f).length = m * k := by
        rw [flat_len hf, List.length_take]
        congr 1
        omega
      rw [Nat.add_assoc]
      refine hr2 (m * k + j) v ?_
      rw [e2, List.getElem?_append_right (by rw [el]; omega), el]
      simpa using hv
theorem rest_at (A : Option Addr) (k cap : Nat) : blk (if cap = k then A else A.map (·.add (k * 6))) = blk A := by
  split
  · rfl
  · cases A with
    | none => rfl
    | some a =>
      unfold blk Addr.add
      simp only [Option.map_some]
      split <;> rfl
theorem tops_last {n k : Nat} {pre : List Nat} (h : pre ++ [k] <+: tops n 0) : pre.length < n ∧ k = n - 1 - pre.length ∧ pre <+: tops n 0 := by
  have hp : pre <+: tops n 0 := (List.prefix_append pre [k]).trans h
  obtain ⟨t, ht⟩ := id h
  have hl := congrArg List.length ht
  rw [tops_len, List.length_append, List.length_append, List.length_singleton] at hl
  have h1 : (tops n 0)[pre.length]? = some k := by
    rw [← ht, List.getElem?_append_left (by simp), List.getElem?_append_right (Nat.le_refl _)]
    simp
  unfold tops at h1
  rw [List.drop_zero, List.getElem?_reverse (by simp; omega), List.length_range, List.getElem?_range (by omega)] at h1
  injection h1 with h1
  exact ⟨by omega, h1.symm, hp⟩
set_option maxRecDepth 100000 in
set_option maxHeartbeats 4000000 in
theorem undo_no {w : World} {m h b : Nat} {sp sq : Sl} {p : Pg} {L : List Ch} (q : Mem w m h b sp sq p L) (k : Int) (hk : inB k 0 (L.length : Int) = false) : Calls Try.prog 12 #[.pointer (some ⟨m, 0, none⟩), .int .i64 k] w fun e w' => e = .returned (.bool false) ∧ Below w.heap.size w w' := by
  obtain ⟨p1, f1⟩ : ∃ p, w.heap.size = p := ⟨_, rfl⟩
  obtain ⟨W1, ea1⟩ : ∃ W, w.alloc (.cells #[.pointer (some ⟨m, 0, none⟩)] 30) = W := ⟨_, rfl⟩
  have ka1 : Below w.heap.size w W1 := by rw [← ea1]; exact (Below.refl _ w).alloc (Nat.le_refl _) _
  have b1 : Blk W1 p1 30 #[.pointer (some ⟨m, 0, none⟩)] := by rw [← ea1]; exact blk_new w _ 30 _ f1
  have kk : Below w.heap.size w W1 := ka1
  have hp1 : w.heap.size ≤ p1 := Nat.le_of_eq f1
  clear ka1
  rw [q.len] at hk
  replace q := q.on kk
  have c1 := made_any q.mem
  have c2 := in_any k 0 (sq.n : Int) W1
  rw [hk] at c2
  have m0 : W1.cell? ⟨m, 0, none⟩ = some (.pointer (some ⟨h, 0, none⟩)) := q.mem.cell 0
  have h2 : W1.cell? ⟨h, 2, none⟩ = some (.slice sq.A sq.n sq.cap) := q.held.cell 2
  have x0 : W1.cell? ⟨p1, 0, none⟩ = some (.pointer (some ⟨m, 0, none⟩)) := b1.cell 0
  go_enter Try.func12, Try.ntmps12
  go_wp2_with (first | (go_at_call 28; refine c1.mono ?_; rintro e w' ⟨rfl, rfl⟩; clear c1) | (go_at_call 29; refine c2.mono ?_; rintro e w' ⟨rfl, rfl⟩; clear c2))
  go_ret
  exact ⟨rfl, kk⟩
/-- What stands between two rounds. -/
structure Back (w : World) (m h b p1 : Nat) (sp sq : Sl) (p : Pg) (L : List Ch) (mk n2 : Nat) (pre : List Nat) (W : World) : Prop where
  mem : ∃ f, MemG W m h b sp sq p f (pastP L) ∧ (∀ x, (f x).isSome = thereP p x) ∧ (pre <+: tops n2 0 → ∀ x : Pl, x.Wide → f x = memF p (L.take (mk + n2 - pre.length)) x)
  box : Blk W p1 30 #[.pointer (some ⟨m, 0, none⟩)]
  kept : Kept (turned h b sq) w W
theorem back_own {w W0 : World} {m h b p1 : Nat} {sp sq : Sl} {p : Pg} {L : List Ch} {mk n2 : Nat} (hf : ∀ g, foot m h b sp sq g → g < w.heap.size) (h0 : w.heap.size ≤ W0.heap.size) : OwnFrom W0.heap.size (fun pre W => Back w m h b p1 sp sq p L mk n2 pre W) := by
  rintro pre X Y row ⟨⟨f, h1, h2, h3⟩, hb, hk⟩ hg hr
  have hk2 := kept_grown hg
  exact ⟨⟨f, h1.kept hk2 (fun g hg e => by have := hf g hg; have := (hr g e).1; omega), h2, h3⟩, blk_ownF W0.heap.size p1 30 _ () X Y row hb hg hr, hk.next hk2 (fun g e => .inr (Nat.le_trans h0 (hr g e).1))⟩
theorem past_there {p : Pg} {L : List Ch} (h : ∀ e ∈ L, thereP p e.x = true) {c : Ch} (hc : c ∈ pastP L) : thereP p c.x = true := by
  unfold pastP at hc
  obtain ⟨k, hk, rfl⟩ := List.mem_map.1 hc
  have hk := List.mem_range.1 hk
  have hm : L.getD k noC ∈ L := by simp [List.getD, List.getElem?_eq_getElem hk]
  exact h (L.getD k noC) hm
theorem grown_below {w w' : World} (h : Below w.heap.size w w') (row : Option Nat) : w.grownBy w' row := (kept_below (fun _ => False) h).grown row (fun _ e => e.elim)
def AxU (m h p1 bs mk : Nat) (sq : Sl) (A2 : Option Addr) (n2 cap2 : Nat) (D : List Ch) (k : Nat) (a : Act) (W : World) : Prop := ∃ Bx, Blk W Bx 74 (D.getD (k % D.length) noC).cs.toArray ∧ a = { tmps := #[.pointer (some ⟨m, 0, none⟩), .int .i64 (mk : Int), .pointer (some ⟨p1, 0, none⟩), undef, .bool false, undef, .pointer (some ⟨Bx, 0, none⟩), .pointer (some ⟨m, 0, none⟩), .bool true, .bool false, .bool false, .int .i64 (mk : Int), .pointer (some ⟨m, 0, none⟩), .pointer (some ⟨m, 0, none⟩), .pointer (some ⟨m, 0, none⟩), .pointer (some ⟨h, 0, none⟩), .pointer (some ⟨h, 0, none⟩), .pointer (some ⟨h, 2, none⟩), sq.v, .int .i64 (sq.n : Int), .bool true, .bool false, .bool false, .pointer (some ⟨m, 0, none⟩), .pointer (some ⟨m, 0, none⟩), .pointer (some ⟨m, 0, none⟩), .pointer (some ⟨h, 0, none⟩), .pointer (some ⟨h, 0, none⟩), .pointer (some ⟨h, 2, none⟩), sq.v, .int .i64 (mk : Int), .slice A2 n2 cap2, .func (.func 39) #[] #[.pointer (some ⟨bs, 0, none⟩)], .int .i64 (k : Int), .agg #[.int .i64 (D.getD (k % D.length) noC).x.k, .int .i64 (D.getD (k % D.length) noC).x.i, .int .i64 (D.getD (k % D.length) noC).x.j, .int .i64 (D.getD (k % D.length) noC).v.n, .int .i64 (D.getD (k % D.length) noC).v.c, .int .i64 (D.getD (k % D.length) noC).v.g], undef, undef, undef, undef, undef, undef, undef, undef, undef, undef, undef, undef, undef, undef, undef, undef, undef, undef, undef, undef, undef, undef, undef, undef, undef, undef], defers := [] }
theorem axU_own (m h p1 bs mk : Nat) (sq : Sl) (A2 : Option Addr) (n2 cap2 : Nat) (D : List Ch) (B k : Nat) (a : Act) : OwnFrom B (fun (_ : Unit) W => AxU m h p1 bs mk sq A2 n2 cap2 D k a W) := by
  rintro u X Y row ⟨Bx, hb, rfl⟩ hg hr
  exact ⟨Bx, blk_ownF B Bx 74 _ u X Y row hb hg hr, rfl⟩
set_option maxRecDepth 100000 in
set_option maxHeartbeats 4000000 in
theorem undo_yes {w : World} {m h b : Nat} {sp sq : Sl} {p : Pg} {L : List Ch} (q : Mem w m h b sp sq p L) (mk : Nat) (hn : L.length ≤ 900000) (hk : mk ≤ L.length) : Calls Try.prog 12 #[.pointer (some ⟨m, 0, none⟩), .int .i64 (mk : Int)] w fun e w' => e = .returned (.bool true) ∧ Mem w' m h b sp ⟨sq.A, mk, sq.cap⟩ p (L.take mk) ∧ Kept (turned h b sq) w w' := by
  refine (callsIn_wide (n := 9)).1 ?_
  refine callsIn_of_wp_marks Try.func12 rfl trivial ?_ rfl
  simp only [Try.ntmps12, List.size_toArray, List.length_cons, List.length_nil, Nat.reduceAdd, Nat.reduceSub, Array.replicate_succ, Array.replicate_zero, List.push_toArray, List.append_toArray, List.nil_append, List.cons_append]
  obtain ⟨p1, f1⟩ : ∃ p, w.heap.size = p := ⟨_, rfl⟩
  obtain ⟨W1, ea1⟩ : ∃ W, w.alloc (.cells #[.pointer (some ⟨m, 0, none⟩)] 30) = W := ⟨_, rfl⟩
  have ka1 : Below w.heap.size w W1 := by rw [← ea1]; exact (Below.refl _ w).alloc (Nat.le_refl _) _
  have b1 : Blk W1 p1 30 #[.pointer (some ⟨m, 0, none⟩)] := by rw [← ea1]; exact blk_new w _ 30 _ f1
  have kk : Below w.heap.size w W1 := ka1
  have hp1 : w.heap.size ≤ p1 := Nat.le_of_eq f1
  clear ka1
  have q00 := q
  have hlen := q.len
  replace q := q.on kk
  have c1 := made_any q.mem
  have c2 := in_any (mk : Int) 0 (sq.n : Int) W1
  rw [show inB (mk : Int) 0 (sq.n : Int) = true by unfold inB; rw [decide_eq_true (by omega), decide_eq_true (by omega)]; rfl] at c2
  have m0 : W1.cell? ⟨m, 0, none⟩ = some (.pointer (some ⟨h, 0, none⟩)) := q.mem.cell 0
  have h2 : W1.cell? ⟨h, 2, none⟩ = some (.slice sq.A sq.n sq.cap) := q.held.cell 2
  have x0 : W1.cell? ⟨p1, 0, none⟩ = some (.pointer (some ⟨m, 0, none⟩)) := b1.cell 0
  have hs := from60 (A := sq.A) (n := sq.n) (cap := sq.cap) mk (by omega)
  have hS := Sees.rest Ch.len q.past.sees mk (by omega) (by omega)
  have hbk := rest_at sq.A mk sq.cap
  generalize (if sq.cap = mk then sq.A else sq.A.map (·.add (mk * 6))) = A2 at hs hS hbk
  obtain ⟨n2, en2⟩ : ∃ n2, sq.n - mk = n2 := ⟨_, rfl⟩
  rw [en2] at hs hS
  generalize sq.cap - mk = cap2 at hs hS
  have hm9 : (sq.n : Int) ≤ 9223372036854775807 := by omega
  have hmk : (mk : Int) ≤ (sq.n : Int) := by omega
  have hmk0 : (0 : Int) ≤ (mk : Int) := by omega
  gi_wp2_with (first | (refine ⟨trivial, ?_⟩; gi_at_call 28; refine (callsIn_wide.2 c1).mono ?_; rintro e w' ⟨rfl, rfl⟩; clear c1) | (refine ⟨trivial, ?_⟩; gi_at_call 29; refine (callsIn_wide.2 c2).mono ?_; rintro e w' ⟨rfl, rfl⟩; clear c2) | (refine ⟨trivial, ?_⟩; gi_at_call 30; refine (back_any _ _ _ _ _).mono ?_; rintro e w' ⟨rfl, rfl⟩))
  have hbs : W1.heap.size < (W1.alloc (.cells #[.slice A2 n2 cap2] 60)).heap.size := by simp
  have hBox : Blk (W1.alloc (.cells #[.slice A2 n2 cap2] 60)) W1.heap.size 60 #[.slice A2 n2 cap2] := blk_new _ _ _ _ rfl
  have hb3 : Below W1.heap.size W1 (W1.alloc (.cells #[.slice A2 n2 cap2] 60)) := (Below.refl _ _).alloc (Nat.le_refl _) _
  obtain ⟨W3, eW3⟩ : ∃ W, W1.alloc (.cells #[.slice A2 n2 cap2] 60) = W := ⟨_, rfl⟩
  rw [eW3] at hbs hBox hb3 ⊢
  clear eW3 m0 h2 x0
  have hfoot : ∀ g, foot m h b sp sq g → g < w.heap.size := fun g hg => q00.lt hg
  have hw3 : w.heap.size ≤ W3.heap.size := (kk.trans (hb3.mono kk.size)).size
  have hD : ((pastP L).drop mk).length = n2 := by rw [List.length_drop, past_len]; omega
  have hS3 : SeesC W3 A2 n2 cap2 ((pastP L).drop mk) := Sees.below hS hb3
  have hmb : W1.heap.size ≠ b := fun e => by have := hfoot b (.inr (.inr (.inl rfl))); have := kk.size; omega
  have hA3 : ∀ g, holds A2 n2 g → ¬ (g = b ∨ W3.heap.size ≤ g) := fun g hg e => by
    rcases e with e | e
    · subst e
      have h1 : blk sq.A = some g := by rw [← hbk]; exact hg.2
      rcases hA : sq.A with _ | ad
      · rw [hA] at h1
        cases h1
      · obtain ⟨g', o, cur, rfl, _, hcu, _⟩ := q.past.own _ hA
        rw [hA] at h1
        injection h1 with h1
        exact q.map.ne hcu h1
    · have := hS3.lt g hg
      omega
  have hI0 : Back w m h b p1 sp sq p L mk n2 [] W3 := ⟨⟨memF p L, (q.on hb3).g, memF_some p L, fun _ x _ => by rw [show mk + n2 - ([] : List Nat).length = L.length by simp; omega, List.take_length]⟩, b1.on hb3, kept_below _ (kk.trans (hb3.mono kk.size))⟩
  have hall := q.all
  have hlow : mk + n2 = L.length := by omega
  clear q b1 hb3 kk hS ea1
  generalize W1.heap.size = bs at hBox hbs hmb ⊢
  generalize hDD : (pastP L).drop mk = D at hS3 hD
  refine wpIn_rangeFunc_ownH rfl (by decide) (gf := 39) (lb := #[.pointer (some ⟨bs, 0, none⟩)]) rfl trivial (enters_of Try.func39 (by kernel_rfl) rfl)
    (back_stops 8 (by decide) bs W3.heap.size b A2 n2 cap2 D W3 hBox (fun e => e.elim (fun e => hmb e) (fun e => by omega)) hS3 hA3) kb_t (kb_b (Nat.le_refl _)) (Below.refl _ _) (fun _ => rfl)
    (fun pre W => Back w m h b p1 sp sq p L mk n2 pre W ∧ W3.heap.size ≤ W.heap.size)
    (fun _ _ _ => False)
    (fun s X Y row hs hg hr => ⟨back_own hfoot hw3 s X Y row hs.1 hg hr, Nat.le_trans hs.2 hg.size⟩)
    (fun _ _ _ _ _ hs _ _ => hs)
    ⟨hI0, Nat.le_refl _⟩
    (fun k a' W => AxU m h p1 bs mk sq A2 n2 cap2 D k a' W)
    (fun k a' => axU_own _ _ _ _ _ _ _ _ _ _ _ _ _)
    ?assign ?body ?done ?stop
  case assign =>
    rintro y pre k W K ⟨h1, h3⟩ hK
    unfold AxU at hK
    unfold encC
    generalize D.getD (k % D.length) noC = E at hK ⊢
    gi_wp2
    have hnw : Blk (W.alloc (.cells #[.int .i64 E.x.k, .int .i64 E.x.i, .int .i64 E.x.j, .int .i64 E.v.n, .int .i64 E.v.c, .int .i64 E.v.g] 74)) W.heap.size 74 E.cs.toArray := blk_new _ _ _ _ rfl
    have hbw : Below W.heap.size W (W.alloc (.cells #[.int .i64 E.x.k, .int .i64 E.x.i, .int .i64 E.x.j, .int .i64 E.v.n, .int .i64 E.v.c, .int .i64 E.v.g] 74)) := (Below.refl _ W).alloc (Nat.le_refl _) _
    exact hK _ _ ((KeepsOthers.alloc _ _).from _) (kb_below (hbw.mono h3)) ⟨back_own hfoot hw3 _ W _ none h1 (grown_below hbw none) (fun r e => by cases e), Nat.le_trans h3 hbw.size⟩ ⟨W.heap.size, hnw, rfl⟩
  case body =>
    rintro y pre k a' W hl hr ⟨⟨⟨f, hm, hsome, hf⟩, hbox, hkw⟩, h3⟩ ⟨Bx, hX, rfl⟩ hlt
    have hy : D.getD (k % D.length) noC ∈ D := by
      have : k % D.length < D.length := Nat.mod_lt _ (by omega)
      simp [List.getD, List.getElem?_eq_getElem this]
    have hth : thereP p (D.getD (k % D.length) noC).x = true := past_there hall (List.mem_of_mem_drop (i := mk) (by rw [hDD]; exact hy))
    have hnext : ∀ (x : Pl), x.Wide → pre ++ [k] <+: tops n2 0 → upd f (D.getD (k % D.length) noC).x (D.getD (k % D.length) noC).v x = memF p (L.take (mk + n2 - (pre ++ [k]).length)) x := fun x hx hp => by
      obtain ⟨e1, e2, e3⟩ := tops_last hp
      have ek : k % D.length = k := Nat.mod_eq_of_lt (by omega)
      have eD : D.getD k noC = ⟨(L.getD (mk + k) noC).x, atP (L.take (mk + k)) (L.getD (mk + k) noC).x⟩ := by
        rw [← hDD, ← past_getD L (mk + k) (by omega)]
        simp [List.getD, List.getElem?_drop]
      rw [ek, eD]
      have e4 : mk + n2 - (pre ++ [k]).length = mk + k := by simp; omega
      have e5 : mk + n2 - pre.length = mk + k + 1 := by omega
      rw [e4, ← memF_undo (by omega) hall x]
      have := hf e3
      rw [e5] at this
      unfold upd
      split
      · rfl
      · exact this x hx
    generalize D.getD (k % D.length) noC = E at *
    have hw := there_wide hth
    refine wpIn_block ?_
    obtain ⟨wd, ed⟩ : ∃ Z, W.drew = Z := ⟨_, rfl⟩
    have hdw : Below W.heap.size W wd := by rw [← ed]; exact (Below.refl _ _).drew
    have hwd : wd.heap.size = W.heap.size := by rw [← ed]; rfl
    have hm : MemG wd m h b sp sq p f (pastP L) := hm.on hdw
    have hbox : Blk wd p1 30 #[.pointer (some ⟨m, 0, none⟩)] := hbox.on hdw
    have hX : Blk wd Bx 74 E.cs.toArray := hX.on hdw
    have nb1 : p1 ≠ b := fun e => hm.map.ne hbox e
    have nbx : Bx ≠ b := fun e => hm.map.ne hX e
    have nbm : m ≠ b := fun e => hm.map.ne hm.mem e
    have nbh : h ≠ b := fun e => hm.map.ne hm.held e
    have tE : ∀ Z, Kept (fun g => g = b) wd Z → Z.cell? ⟨p1, 0, none⟩ = some (.pointer (some ⟨m, 0, none⟩)) ∧ Z.cell? ⟨m, 0, none⟩ = some (.pointer (some ⟨h, 0, none⟩)) ∧ Z.cell? ⟨h, 1, none⟩ = some (.map (some b)) := fun Z hZ => ⟨(hbox.kept hZ nb1).cell 0, (hm.mem.kept hZ nbm).cell 0, (hm.held.kept hZ nbh).cell 1⟩
    have hHeld : (fun Z => Kept (fun g => g = b) wd Z) wd := Kept.refl _ _
    have kS := hHeld
    refine region_in (S := (fun Z => Kept (fun g => g = b) wd Z)) (by kernel_rfl) (all_calm (by intro o ho; simp only [List.mem_cons, List.not_mem_nil, or_false] at ho; rcases ho with rfl | rfl | rfl | rfl | rfl | rfl | rfl | rfl | rfl | rfl | rfl | rfl <;> first | exact calm_load _ _ | exact calm_field _ _ _ | exact calm_nil _ | exact calm_move _ | exact calm_update _ _ _ _ | exact calm_slice _ _ _ _ _ | exact calm_store _ _ _)) ?_
    rw [ed]
    refine wpAnyH_take (i := 0) (oi := ⟨some 35, _, _, _, _, _⟩) (v := ?_) rfl (by kernel_rfl) (by kernel_rfl) (by kernel_rfl) (fun _ _ _ h => nomatch h.1) (Or.inl ⟨by rfl, ?_⟩) (by assumption) ?_
    rotate_left 1
    · (intro W hSw; obtain ⟨q0, q1, q2⟩ := tE W hSw; go_simp <;> with_reducible rfl)
    try simp only [Act.put, List.setIfInBounds_toArray, List.set_cons_zero, List.set_cons_succ]
    refine wpAnyH_take (i := 1) (oi := ⟨some 36, _, _, _, _, _⟩) (v := ?_) rfl (by kernel_rfl) (by kernel_rfl) (by kernel_rfl) (fun _ _ _ h => nomatch h.1) (Or.inl ⟨by rfl, ?_⟩) (by assumption) ?_
    rotate_left 1
    · (intro W hSw; go_simp <;> with_reducible rfl)
    try simp only [Act.put, List.setIfInBounds_toArray, List.set_cons_zero, List.set_cons_succ]
    refine wpAnyH_take (i := 2) (oi := ⟨some 37, _, _, _, _, _⟩) (v := ?_) rfl (by kernel_rfl) (by kernel_rfl) (by kernel_rfl) (fun _ _ _ h => nomatch h.1) (Or.inl ⟨by rfl, ?_⟩) (by assumption) ?_
    rotate_left 1
    · (intro W hSw; go_simp <;> with_reducible rfl)
    try simp only [Act.put, List.setIfInBounds_toArray, List.set_cons_zero, List.set_cons_succ]
    refine wpAnyH_take (i := 3) (oi := ⟨some 38, _, _, _, _, _⟩) (v := ?_) rfl (by kernel_rfl) (by kernel_rfl) (by kernel_rfl) (fun _ _ _ h => nomatch h.1) (Or.inl ⟨by rfl, ?_⟩) (by assumption) ?_
    rotate_left 1
    · (intro W hSw; obtain ⟨q0, q1, q2⟩ := tE W hSw; go_simp <;> with_reducible rfl)
    try simp only [Act.put, List.setIfInBounds_toArray, List.set_cons_zero, List.set_cons_succ]
    refine wpAnyH_take (i := 4) (oi := ⟨some 39, _, _, _, _, _⟩) (v := ?_) rfl (by kernel_rfl) (by kernel_rfl) (by kernel_rfl) (fun _ _ _ h => nomatch h.1) (Or.inl ⟨by rfl, ?_⟩) (by assumption) ?_
    rotate_left 1
    · (intro W hSw; go_simp <;> with_reducible rfl)
    try simp only [Act.put, List.setIfInBounds_toArray, List.set_cons_zero, List.set_cons_succ]
    refine wpAnyH_take (i := 5) (oi := ⟨some 40, _, _, _, _, _⟩) (v := ?_) rfl (by kernel_rfl) (by kernel_rfl) (by kernel_rfl) (fun _ _ _ h => nomatch h.1) (Or.inl ⟨by rfl, ?_⟩) (by assumption) ?_
    rotate_left 1
    · (intro W hSw; go_simp <;> with_reducible rfl)
    try simp only [Act.put, List.setIfInBounds_toArray, List.set_cons_zero, List.set_cons_succ]
    refine wpAnyH_take (i := 6) (oi := ⟨some 41, _, _, _, _, _⟩) (v := ?_) rfl (by kernel_rfl) (by kernel_rfl) (by kernel_rfl) (fun _ _ _ h => nomatch h.1) (Or.inl ⟨by rfl, ?_⟩) (by assumption) ?_
    rotate_left 1
    · (intro W hSw; obtain ⟨q0, q1, q2⟩ := tE W hSw; go_simp <;> with_reducible rfl)
    try simp only [Act.put, List.setIfInBounds_toArray, List.set_cons_zero, List.set_cons_succ]
    refine wpAnyH_take (i := 7) (oi := ⟨some 42, _, _, _, _, _⟩) (v := ?_) rfl (by kernel_rfl) (by kernel_rfl) (by kernel_rfl) (fun _ _ _ h => nomatch h.1) (Or.inl ⟨by rfl, ?_⟩) (by assumption) ?_
    rotate_left 1
    · (intro W hSw; go_simp <;> with_reducible rfl)
    try simp only [Act.put, List.setIfInBounds_toArray, List.set_cons_zero, List.set_cons_succ]
    refine wpAnyH_take (i := 8) (oi := ⟨some 43, _, _, _, _, _⟩) (v := .agg (List.toArray (E.x.cs))) rfl (by kernel_rfl) (by kernel_rfl) (by kernel_rfl) (fun _ _ _ h => nomatch h.1) (yieldsIf_load_mid (by rfl) 27 (.tmp 42) rfl Bx (0) rfl (E.x.cs) _ (fun W hW => range_part (hX.kept hW nbx) 0 E.x.cs rfl) Try.underlying27 rfl size27) (by assumption) ?_
    try simp only [Act.put, List.setIfInBounds_toArray, List.set_cons_zero, List.set_cons_succ]
    refine wpAnyH_take (i := 9) (oi := ⟨some 44, _, _, _, _, _⟩) (v := ?_) rfl (by kernel_rfl) (by kernel_rfl) (by kernel_rfl) (fun _ _ _ h => nomatch h.1) (Or.inl ⟨by rfl, ?_⟩) (by assumption) ?_
    rotate_left 1
    · (intro W hSw; go_simp <;> with_reducible rfl)
    try simp only [Act.put, List.setIfInBounds_toArray, List.set_cons_zero, List.set_cons_succ]
    refine wpAnyH_take (i := 10) (oi := ⟨some 45, _, _, _, _, _⟩) (v := .agg (List.toArray (E.v.cs))) rfl (by kernel_rfl) (by kernel_rfl) (by kernel_rfl) (fun _ _ _ h => nomatch h.1) (yieldsIf_load_mid (by rfl) 35 (.tmp 44) rfl Bx (3) rfl (E.v.cs) _ (fun W hW => range_part (hX.kept hW nbx) 3 E.v.cs rfl) Try.underlying35 rfl size35) (by assumption) ?_
    try simp only [Act.put, List.setIfInBounds_toArray, List.set_cons_zero, List.set_cons_succ]
    refine wpAnyH_ready (rs := [11]) (by kernel_rfl) (by simp) ?_
    refine AllReadyH.cons (o := ⟨none, _, _, _, _, _⟩) rfl (fun K hK => ?_) AllReadyH.nil
    rw [if_pos (by rfl)]
    refine wp_update (.tmp 41) (.tmp 43) (.tmp 45) rfl rfl rfl rfl hm.map hw (by rw [hsome]; exact hth) (by unfold maxLen; omega) ?_
    intro w1 hm1 hg1 hs1
    have S1 : (fun Z => Kept (fun g => g = b) wd Z) w1 := kS.next (kept_grown hg1) (fun g e => .inl (by injection e with e; exact e.symm))
    refine hK.out _ _ S1 (fun h1 => ?_)
    clear hHeld hK K
    try simp only [Act.put]
    refine wpAnyH_done (by kernel_rfl) ?_ _
    refine ⟨rfl, ?_⟩
    have hgW : W.grownBy w1 (some b) := ⟨hg1.os.trans hdw.os, hg1.tape.trans hdw.tape, hg1.output.trans hdw.output, Nat.le_trans hdw.size hg1.size, fun j hj hn => (hg1.block j (by omega) hn).trans (hdw.block j hj)⟩
    have hkW := kept_grown hgW
    refine ⟨KeepsFrom.of_grownBy hgW (fun j e => by injection e with e; subst e; have := hfoot b (.inr (.inr (.inl rfl))); omega), hkW.more (fun g e => .inl (by injection e with e; exact e.symm)), ⟨⟨_, hm.turn hm1 hg1, fun x => ?_, fun hp x hx => hnext x hx hp⟩, hbox.kept (kept_grown hg1) (fun e => nb1 (by injection e with e; exact e.symm)), hkw.next hkW (fun g e => .inl (.inr (.inl (by injection e with e; exact e.symm))))⟩, Nat.le_trans h3 hgW.size⟩
    unfold upd
    split
    · rename_i e; subst e; exact hth.symm
    · exact hsome x
  case done =>
    rintro D' ys W hD' rfl ⟨⟨⟨f, hm, hsome, hf⟩, hbox, hkw⟩, h3⟩ hK
    have ef := hf List.prefix_rfl
    rw [tops_len, show mk + n2 - (n2 - 0) = mk by omega] at ef
    gi_wp2_with fail
    have q5 : Mem W m h b sp sq p L → True := fun _ => trivial
    clear q5
    obtain ⟨wd, ed⟩ : ∃ Z, W.drew = Z := ⟨_, rfl⟩
    have hdw : Below W.heap.size W wd := by rw [← ed]; exact (Below.refl _ _).drew
    have hwd : wd.heap.size = W.heap.size := by rw [← ed]; rfl
    have hm : MemG wd m h b sp sq p f (pastP L) := hm.on hdw
    have hbox : Blk wd p1 30 #[.pointer (some ⟨m, 0, none⟩)] := hbox.on hdw
    have nb1 : p1 ≠ h := hbox.ne hm.held (by decide)
    have nbm : m ≠ h := hm.mem.ne hm.held (by decide)
    have tE : ∀ Z, Kept (fun g => g = h) wd Z → Z.cell? ⟨p1, 0, none⟩ = some (.pointer (some ⟨m, 0, none⟩)) ∧ Z.cell? ⟨m, 0, none⟩ = some (.pointer (some ⟨h, 0, none⟩)) := fun Z hZ => ⟨(hbox.kept hZ nb1).cell 0, (hm.mem.kept hZ nbm).cell 0⟩
    have hs6 := upto60 sq.A sq.n sq.cap mk (by have := Sees.room hm.past.sees; omega) (Sees.none_ hm.past.sees)
    have z0 : wd.cell? ⟨h, 2, none⟩ = some (.slice sq.A sq.n sq.cap) := hm.held.cell 2
    have z1 := hm.held.free 2
    have hDh : D' ≠ h := fun e => by have := hfoot h (.inr (.inl rfl)); omega
    have hHeld : (fun Z => Kept (fun g => g = h) wd Z) wd := Kept.refl _ _
    have kS := hHeld
    refine region_in (S := (fun Z => Kept (fun g => g = h) wd Z)) (by kernel_rfl) (all_calm (by intro o ho; simp only [List.mem_cons, List.not_mem_nil, or_false] at ho; rcases ho with rfl | rfl | rfl | rfl | rfl | rfl | rfl | rfl | rfl | rfl | rfl | rfl | rfl | rfl | rfl | rfl <;> first | exact calm_load _ _ | exact calm_field _ _ _ | exact calm_nil _ | exact calm_move _ | exact calm_update _ _ _ _ | exact calm_slice _ _ _ _ _ | exact calm_store _ _ _)) ?_
    rw [ed]
    refine wpAnyH_take (i := 0) (oi := ⟨some 46, _, _, _, _, _⟩) (v := ?_) rfl (by kernel_rfl) (by kernel_rfl) (by kernel_rfl) (fun _ _ _ h => nomatch h.1) (Or.inl ⟨by rfl, ?_⟩) (by assumption) ?_
    rotate_left 1
    · (intro W hSw; obtain ⟨q0, q1⟩ := tE W hSw; go_simp <;> with_reducible rfl)
    try simp only [Act.put, List.setIfInBounds_toArray, List.set_cons_zero, List.set_cons_succ]
    refine wpAnyH_take (i := 1) (oi := ⟨some 47, _, _, _, _, _⟩) (v := ?_) rfl (by kernel_rfl) (by kernel_rfl) (by kernel_rfl) (fun _ _ _ h => nomatch h.1) (Or.inl ⟨by rfl, ?_⟩) (by assumption) ?_
    rotate_left 1
    · (intro W hSw; go_simp <;> with_reducible rfl)
    try simp only [Act.put, List.setIfInBounds_toArray, List.set_cons_zero, List.set_cons_succ]
    refine wpAnyH_take (i := 2) (oi := ⟨some 48, _, _, _, _, _⟩) (v := ?_) rfl (by kernel_rfl) (by kernel_rfl) (by kernel_rfl) (fun _ _ _ h => nomatch h.1) (Or.inl ⟨by rfl, ?_⟩) (by assumption) ?_
    rotate_left 1
    · (intro W hSw; go_simp <;> with_reducible rfl)
    try simp only [Act.put, List.setIfInBounds_toArray, List.set_cons_zero, List.set_cons_succ]
    refine wpAnyH_take (i := 3) (oi := ⟨some 49, _, _, _, _, _⟩) (v := ?_) rfl (by kernel_rfl) (by kernel_rfl) (by kernel_rfl) (fun _ _ _ h => nomatch h.1) (Or.inl ⟨by rfl, ?_⟩) (by assumption) ?_
    rotate_left 1
    · (intro W hSw; obtain ⟨q0, q1⟩ := tE W hSw; go_simp <;> with_reducible rfl)
    try simp only [Act.put, List.setIfInBounds_toArray, List.set_cons_zero, List.set_cons_succ]
    refine wpAnyH_take (i := 4) (oi := ⟨some 50, _, _, _, _, _⟩) (v := ?_) rfl (by kernel_rfl) (by kernel_rfl) (by kernel_rfl) (fun _ _ _ h => nomatch h.1) (Or.inl ⟨by rfl, ?_⟩) (by assumption) ?_
    rotate_left 1
    · (intro W hSw; obtain ⟨q0, q1⟩ := tE W hSw; go_simp <;> with_reducible rfl)
    try simp only [Act.put, List.setIfInBounds_toArray, List.set_cons_zero, List.set_cons_succ]
    refine wpAnyH_take (i := 5) (oi := ⟨some 51, _, _, _, _, _⟩) (v := ?_) rfl (by kernel_rfl) (by kernel_rfl) (by kernel_rfl) (fun _ _ _ h => nomatch h.1) (Or.inl ⟨by rfl, ?_⟩) (by assumption) ?_
    rotate_left 1
    · (intro W hSw; go_simp <;> with_reducible rfl)
    try simp only [Act.put, List.setIfInBounds_toArray, List.set_cons_zero, List.set_cons_succ]
    refine wpAnyH_take (i := 6) (oi := ⟨some 52, _, _, _, _, _⟩) (v := ?_) rfl (by kernel_rfl) (by kernel_rfl) (by kernel_rfl) (fun _ _ _ h => nomatch h.1) (Or.inl ⟨by rfl, ?_⟩) (by assumption) ?_
    rotate_left 1
    · (intro W hSw; go_simp <;> with_reducible rfl)
    try simp only [Act.put, List.setIfInBounds_toArray, List.set_cons_zero, List.set_cons_succ]
    refine wpAnyH_take (i := 7) (oi := ⟨some 53, _, _, _, _, _⟩) (v := ?_) rfl (by kernel_rfl) (by kernel_rfl) (by kernel_rfl) (fun _ _ _ h => nomatch h.1) (Or.inl ⟨by rfl, ?_⟩) (by assumption) ?_
    rotate_left 1
    · (intro W hSw; obtain ⟨q0, q1⟩ := tE W hSw; go_simp <;> with_reducible rfl)
    try simp only [Act.put, List.setIfInBounds_toArray, List.set_cons_zero, List.set_cons_succ]
    refine wpAnyH_take (i := 8) (oi := ⟨some 54, _, _, _, _, _⟩) (v := ?_) rfl (by kernel_rfl) (by kernel_rfl) (by kernel_rfl) (fun _ _ _ h => nomatch h.1) (Or.inl ⟨by rfl, ?_⟩) (by assumption) ?_
    rotate_left 1
    · (intro W hSw; go_simp <;> with_reducible rfl)
    try simp only [Act.put, List.setIfInBounds_toArray, List.set_cons_zero, List.set_cons_succ]
    refine wpAnyH_take (i := 9) (oi := ⟨some 55, _, _, _, _, _⟩) (v := ?_) rfl (by kernel_rfl) (by kernel_rfl) (by kernel_rfl) (fun _ _ _ h => nomatch h.1) (Or.inl ⟨by rfl, ?_⟩) (by assumption) ?_
    rotate_left 1
    · (intro W hSw; go_simp <;> with_reducible rfl)
    try simp only [Act.put, List.setIfInBounds_toArray, List.set_cons_zero, List.set_cons_succ]
    refine wpAnyH_take (i := 11) (oi := ⟨some 57, _, _, _, _, _⟩) (v := ?_) rfl (by kernel_rfl) (by kernel_rfl) (by kernel_rfl) (fun _ _ _ h => nomatch h.1) (Or.inl ⟨by rfl, ?_⟩) (by assumption) ?_
    rotate_left 1
    · (intro W hSw; go_simp <;> with_reducible rfl)
    try simp only [Act.put, List.setIfInBounds_toArray, List.set_cons_zero, List.set_cons_succ]
    refine wpAnyH_ready (rs := [10]) (by kernel_rfl) (by simp) ?_
    refine AllReadyH.cons (o := ⟨some 56, _, _, _, _, _⟩) rfl (fun K hK => ?_) AllReadyH.nil
    rw [if_pos (by rfl)]
    go_simp
    refine hK.out _ _ kS (fun h1 => ?_)
    clear hHeld hK K
    try simp only [Act.put, List.setIfInBounds_toArray, List.set_cons_zero, List.set_cons_succ]
    refine wpAnyH_take (i := 12) (oi := ⟨some 58, _, _, _, _, _⟩) (v := ?_) rfl (by kernel_rfl) (by kernel_rfl) (by kernel_rfl) (fun _ _ _ h => nomatch h.1) (Or.inl ⟨by rfl, ?_⟩) (by assumption) ?_
    rotate_left 1
    · (intro W hSw; go_simp <;> with_reducible rfl)
    try simp only [Act.put, List.setIfInBounds_toArray, List.set_cons_zero, List.set_cons_succ]
    refine wpAnyH_take (i := 13) (oi := ⟨some 59, _, _, _, _, _⟩) (v := ?_) rfl (by kernel_rfl) (by kernel_rfl) (by kernel_rfl) (fun _ _ _ h => nomatch h.1) (Or.inl ⟨by rfl, ?_⟩) (by assumption) ?_
    rotate_left 1
    · (intro W hSw; go_simp <;> with_reducible rfl)
    try simp only [Act.put, List.setIfInBounds_toArray, List.set_cons_zero, List.set_cons_succ]
    refine wpAnyH_take (i := 14) (oi := ⟨some 60, _, _, _, _, _⟩) (v := ?_) rfl (by kernel_rfl) (by kernel_rfl) (by kernel_rfl) (fun _ _ _ h => nomatch h.1) (Or.inl ⟨by rfl, ?_⟩) (by assumption) ?_
    rotate_left 1
    · (intro W hSw; go_simp <;> with_reducible rfl)
    try simp only [Act.put, List.setIfInBounds_toArray, List.set_cons_zero, List.set_cons_succ]
    refine wpAnyH_ready (rs := [15]) (by kernel_rfl) (by simp) ?_
    refine AllReadyH.cons (o := ⟨none, _, _, _, _, _⟩) rfl (fun K hK => ?_) AllReadyH.nil
    rw [if_pos (by rfl)]
    go_simp
    refine hK.out _ _ (kS.next (kept_cell _ ⟨h, 2, none⟩ _) (fun g e => .inl e)) (fun h2 => ?_)
    clear h1 hK K
    try simp only [Act.put]
    refine wpAnyH_done (by kernel_rfl) ?_ _
    refine ⟨rfl, ?_⟩
    obtain ⟨W6, e6⟩ : ∃ Z, wd.setCell ⟨h, 2, none⟩ (.slice sq.A mk sq.cap) = Z := ⟨_, rfl⟩
    rw [e6]
    obtain ⟨q6, k6⟩ := hm.push (Kept.refl _ _) (hm.past.front (m := mk) (by omega)) e6
    have k6' : Kept (fun g => g = h) W W6 := (kept_below _ hdw).next (kept_set e6) (fun g e => .inl e)
    have hK6 : W6.heap[D']? = some (.deferred (some [])) := (k6'.block D' (Array.getElem?_eq_some_iff.1 hK).1 hDh).trans hK
    clear z0 z1 tE hs6 hs
    gi_wp2
    refine ⟨by simp, .inl ⟨_, _, rfl, run_takeDeferred hK6, ?_⟩⟩
    have k7 := kept_grown (grownBy_putObj' W6 D' (.deferred none))
    have q7 := q6.kept k7 (fun g hg e => by have h1 := hfoot g hg; injection e with e; omega)
    refine ⟨_, results_tmp rfl _ _ _, rfl, ⟨⟨q7.mem, q7.held, q7.map.same (fun x hx => (ef x hx).symm), q7.places, by rw [past_take L mk hk]; exact q7.past⟩, fun e he => hall e (List.mem_of_mem_take he)⟩, (hkw.next k6' (fun g e => .inl (.inl e))).next k7 (fun g e => .inr (by injection e with e; omega))⟩
  case stop =>
    rintro D' c pre W _ _ h _
    exact h.elim
end Go.Proofs.Ytlajjadpcaobiaa
