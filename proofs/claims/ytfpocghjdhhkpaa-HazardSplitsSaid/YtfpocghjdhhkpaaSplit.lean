/- Two lists of bagged cells of the call's own, side by side; a bag parted by the numbers seen. Conditions: at most 1000 cells and numbers. -/
import Derived.Test.YtfpocghjdhhkpaaSorted
namespace Go.Proofs.Ytfpocghjdhhkpaa
open Go.RowKit Go.Shelf Go.ChangeShapes Go.WideShapes Go.Sort

/-- Two lists of the call's own, apart. -/
structure Pair (B : Nat) (w0 w : World) (A1 : Option Addr) (n1 c1 : Nat) (A2 : Option Addr) (n2 c2 : Nat) (F K : List Bg) : Prop where
  f : w.ownsRow B 33 3 (.slice A1 n1 c1) n1 (flatB F)
  k : w.ownsRow B 33 3 (.slice A2 n2 c2) n2 (flatB K)
  ne : ∀ g, lies A1 g → ¬ lies A2 g
  below : Below B w0 w
section
variable {B n1 c1 n2 c2 c3 : Nat} {w0 w w3 : World} {A1 A2 A3 : Option Addr} {F K : List Bg} {x : Bg}
theorem own_len {B n c : Nat} {A : Option Addr} {F : List Bg} (h : w.ownsRow B 33 3 (.slice A n c) n (flatB F)) : F.length = n := (own_seesB h).len
theorem lies_lt {v : World} {B n cap : Nat} {A : Option Addr} {vs : List Value} (h : v.ownsRow B 33 3 (.slice A n cap) n vs) {g : Nat} (hg : lies A g) : g < v.heap.size := (h.lt g ((own_lies A n cap g).2 hg)).2
theorem Pair.symm (h : Pair B w0 w A1 n1 c1 A2 n2 c2 F K) : Pair B w0 w A2 n2 c2 A1 n1 c1 K F := ⟨h.k, h.f, fun g h1 h2 => h.ne g h2 h1, h.below⟩
theorem Pair.on (h : Pair B w0 w A1 n1 c1 A2 n2 c2 F K) (hB : B ≤ w.heap.size) (hb : Below w.heap.size w w3) : Pair B w0 w3 A1 n1 c1 A2 n2 c2 F K :=
  ⟨ownB_below h.f hb, ownB_below h.k hb, h.ne, h.below.trans (hb.mono hB)⟩
theorem pair_nil (B : Nat) (w : World) : Pair B w w none 0 0 none 0 0 [] [] := ⟨World.ownsRow_nil _ _ _ _, World.ownsRow_nil _ _ _ _, fun g h => (by cases h), Below.refl _ _⟩
/-- One more in the second. -/
theorem Pair.add (h : Pair B w0 w A1 n1 c1 A2 n2 c2 F K) (ho : w3.ownsRow B 33 3 (.slice A3 (n2 + 1) c3) (n2 + 1) (flatB (K ++ [x]))) (hg : w.grownBy w3 (Value.slice A2 n2 c2).ownBlock) (hl : ∀ g, lies A3 g → lies A2 g ∨ w.heap.size ≤ g) (hB : B ≤ w.heap.size) :
    Pair B w0 w3 A1 n1 c1 A3 (n2 + 1) c3 F (K ++ [x]) := by
  refine ⟨h.f.kept hg ?_, ho, fun g h1 h2 => ?_, h.below.trans ((kept_grown hg).under B hB (fun g e => own_new h.k g ((own_lies A2 n2 c2 g).1 e)))⟩
  · cases hw : (Value.slice A1 n1 c1).ownBlock with
    | none => exact .inl rfl
    | some g => exact .inr (fun e => h.ne g ((own_lies A1 n1 c1 g).1 hw) ((own_lies A2 n2 c2 g).1 e.symm))
  · rcases hl g h2 with e | e
    · exact h.ne g h1 e
    · have := lies_lt h.f h1
      omega
end
/-- 'append(l, x)', x just laid. -/
theorem wpList_one {w : World} {ops : Array Oper} {rest : List Oper} {o : Oper} {a : Act} {Q : Exit → Act → World → Prop} (hgd : o.guard = none) (s x : Operand)
    (ho : o.op = .call { callee := .builtin .append, args := #[s, x], argTypes := #[30, 30] })
    {B n cap : Nat} {A : Option Addr} {xs : List Bg} (hs : a.eval s = .slice A n cap) (h : w.ownsRow B 33 3 (.slice A n cap) n (flatB xs)) (hn : n ≤ 1000000) (hB : B ≤ w.heap.size)
    (ad : Nat) (y : Bg) (hx : a.eval x = .slice (some ⟨ad, 0, none⟩) 1 1) (hb : Blk w ad 33 #[.int .i64 y.c, .int .i64 y.g, .int .i64 y.n])
    (hK : ∀ A' c' w', w'.ownsRow B 33 3 (.slice A' (n + 1) c') (n + 1) (flatB (xs ++ [y])) → w.grownBy w' (Value.slice A n cap).ownBlock → (∀ g, lies A' g → lies A g ∨ w.heap.size ≤ g) → wpList Try.prog ops Q rest (a.put o.dst (.slice A' (n + 1) c')) w') :
    wpList Try.prog ops Q (o :: rest) a w := by
  obtain ⟨i0, hi, hz0, hz1, hz2⟩ := info_parts info33
  refine wpList_app hgd s x 30 ho B 33 i0 (.agg noB.cs.toArray) 3 24 Try.underlying30 hi hz0 hz1 hz2 rfl (by decide) A n cap (flatB xs) hs h (some ⟨ad, 0, none⟩) 1 1 y.cs hx ⟨by rw [Bg.len], Nat.le_refl _, by unfold maxLen; omega, fun e => (by cases e), fun ad' e _ => by
    cases e
    exact ⟨ad, 0, rfl, hb.lt, range_blk (cs := y.cs) hb⟩⟩ y.one (by unfold maxLen; omega) (by omega) hB ?_
  intro A' c' w' ho' hg hl
  rw [← flatB_snoc] at ho'
  exact hK A' c' w' ho' hg hl

/-- Those that may go, and those that stay. -/
def freeL (l : List Bg) (z : List Int) : List Bg := l.filter fun b => !decide (b.c ∈ z)
def keptL (l : List Bg) (z : List Int) : List Bg := l.filter fun b => decide (b.c ∈ z)
theorem freeL_len (l : List Bg) (z : List Int) : (freeL l z).length ≤ l.length := List.length_filter_le _ _
theorem keptL_len (l : List Bg) (z : List Int) : (keptL l z).length ≤ l.length := List.length_filter_le _ _
theorem take_next {l : List Bg} {k : Nat} {x : Bg} (hx : l[k]? = some x) : l.take (k + 1) = l.take k ++ [x] := by
  rw [List.take_add_one, hx]
  rfl
theorem parts_next {l : List Bg} {k : Nat} {x : Bg} (z : List Int) (hx : l[k]? = some x) :
    (decide (x.c ∈ z) = true → freeL (l.take (k + 1)) z = freeL (l.take k) z ∧ keptL (l.take (k + 1)) z = keptL (l.take k) z ++ [x]) ∧
    (decide (x.c ∈ z) = false → freeL (l.take (k + 1)) z = freeL (l.take k) z ++ [x] ∧ keptL (l.take (k + 1)) z = keptL (l.take k) z) := by
  rw [take_next hx]
  unfold freeL keptL
  constructor <;> intro h <;> simp [List.filter_append, h]

set_option maxRecDepth 100000 in
set_option maxHeartbeats 4000000 in
theorem split_any {w : World} {A Az : Option Addr} {n cap m cz : Nat} {l : List Bg} {z : List Int} (hS : SeesB w A n cap l) (hz : SeesI w Az m cz z) (hn : n ≤ 1000) (hm : m ≤ 1000) :
    Calls Try.prog 9 #[.slice A n cap, .slice Az m cz] w fun e w' => ∃ A1 c1 A2 c2, e = .returned (.tuple #[.slice A1 (freeL l z).length c1, .slice A2 (keptL l z).length c2]) ∧
      SeesB w' A1 (freeL l z).length c1 (freeL l z) ∧ SeesB w' A2 (keptL l z).length c2 (keptL l z) ∧ Below w.heap.size w w' := by
  have hl := hS.len
  have cv := values_any Az m cz w
  have hb1 : Below w.heap.size w (w.alloc (.cells #[.slice Az m cz] 31)) := (Below.refl _ w).alloc (Nat.le_refl _) _
  have hz1 := hz.on hb1
  have cs := sorted_any hz1 hm w.heap.size (heap_alloc_new w _)
  generalize seqV w.heap.size = V at cv cs
  generalize w.alloc (.cells #[.slice Az m cz] 31) = w1 at cv cs hb1
  go_enter Try.func9, Try.ntmps9
  go_wp2_with (first
    | (go_at_call 15; refine cv.mono ?_; rintro e w' ⟨rfl, rfl⟩)
    | (go_at_call 14; refine cs.mono ?_; rintro e W ⟨As, cq, rfl, hrow, hbW⟩))
  have hbw : Below w.heap.size w W := hb1.trans (hbW.mono hb1.size)
  have hseek : ∀ W' x, Below W.heap.size W W' → Calls Try.prog 16 #[.slice As m cq, .int .i64 x] W' fun e w' => ∃ k : Int, e = .returned (.tuple #[.int .i64 k, .bool (decide (x ∈ z))]) ∧ ∃ q, w' = W'.drewN q := fun W' x hW' => by
    have := search_any (ownB_below hrow hW') hm (risen_rises z) x
    rw [show decide (x ∈ risen z) = decide (x ∈ z) from decide_eq_decide.2 (risen_mem z x)] at this
    exact this
  have hSW := hS.on hbw
  have HK := Lib.hid (And.intro hseek (And.intro hbw (And.intro hSW hl)))
  clear hseek hrow hbW hz1 hb1 cs cv hS hz hbw hSW hl
  go_loopw [7, 8, 18] (fun f q i wr => ∃ k : Nat, k ≤ n ∧ i = .int .i64 (k : Int) ∧ ∃ A1 c1 A2 c2, f = .slice A1 (freeL (l.take k) z).length c1 ∧ q = .slice A2 (keptL (l.take k) z).length c2 ∧ Pair W.heap.size W wr A1 (freeL (l.take k) z).length c1 A2 (keptL (l.take k) z).length c2 (freeL (l.take k) z) (keptL (l.take k) z)) (fun _ _ i _ => n - (intOf i).toNat)
  case atStart => exact ⟨0, Nat.zero_le _, rfl, none, 0, none, 0, rfl, rfl, pair_nil _ _⟩
  case round =>
    obtain ⟨k, hk, rfl, A1, c1, A2, c2, rfl, rfl, hP⟩ := hrel
    obtain ⟨hseek, hbw, hSW, hl⟩ := HK.out
    by_cases hlt : k < n
    · obtain ⟨x, hx⟩ : ∃ x, l[k]? = some x := ⟨_, List.getElem?_eq_getElem (by omega)⟩
      obtain ⟨g, o, rfl, hr⟩ := (hSW.on hP.below).at_ hx
      have hnx := parts_next z hx
      have hsf : (freeL (l.take k) z).length ≤ 1000 := Nat.le_trans (freeL_len _ _) (by rw [List.length_take]; omega)
      have hsk : (keptL (l.take k) z).length ≤ 1000 := Nat.le_trans (keptL_len _ _) (by rw [List.length_take]; omega)
      have hBs := hP.below.size
      have hbx : Below wr.heap.size wr (wr.alloc (.cells #[.int .i64 x.c, .int .i64 x.g, .int .i64 x.n] 33)) := (Below.refl _ wr).alloc (Nat.le_refl _) _
      have hPx := hP.on hBs hbx
      have hxb : Blk (wr.alloc (.cells #[.int .i64 x.c, .int .i64 x.g, .int .i64 x.n] 33)) wr.heap.size 33 #[.int .i64 x.c, .int .i64 x.g, .int .i64 x.n] := heap_alloc_new wr _
      have hck := hseek (wr.alloc (.cells #[.int .i64 x.c, .int .i64 x.g, .int .i64 x.n] 33)) x.c hPx.below
      have hr' : wr.rangeAt g (o + k * 3) [.int .i64 x.c, .int .i64 x.g, .int .i64 x.n] := hr
      have hkI : (k : Int) < (n : Int) := by omega
      have hk0 : (0 : Int) ≤ (k : Int) := by omega
      have HX := Lib.hid (And.intro hPx (And.intro hxb hBs))
      clear hP hPx hbx hxb hseek hr hSW hbw hl hx
      generalize freeL (l.take k) z = F at *
      generalize keptL (l.take k) z = K at *
      obtain ⟨b, eb⟩ : ∃ b, decide (x.c ∈ z) = b := ⟨_, rfl⟩
      rw [eb] at hck hnx
      clear eb
      go_wp2_with (refine wpList_load_mid rfl 33 (.tmp 20) rfl g (o + k * 3) rfl [.int .i64 x.c, .int .i64 x.g, .int .i64 x.n] _ hr' Try.underlying33 rfl size33 ?_)
      refine hck.mono ?_
      rintro e w' ⟨j, rfl, q, rfl⟩
      have hdn : Below (wr.alloc (.cells #[.int .i64 x.c, .int .i64 x.g, .int .i64 x.n] 33)).heap.size (wr.alloc (.cells #[.int .i64 x.c, .int .i64 x.g, .int .i64 x.n] 33)) ((wr.alloc (.cells #[.int .i64 x.c, .int .i64 x.g, .int .i64 x.n] 33)).drewN q) := below_dn (Below.refl _ _) q
      obtain ⟨hPx, hxb, hBs⟩ := HX.out
      have hP2 := hPx.on (by simp; omega) hdn
      have hx2 := hxb.on hdn
      have hB2 : W.heap.size ≤ ((wr.alloc (.cells #[.int .i64 x.c, .int .i64 x.g, .int .i64 x.n] 33)).drewN q).heap.size := hP2.below.size
      clear HX hPx hxb hdn hck hr' hBs
      generalize (wr.alloc (.cells #[.int .i64 x.c, .int .i64 x.g, .int .i64 x.n] 33)).drewN q = w2 at hP2 hx2 hB2 ⊢
      have hb4 : Below w2.heap.size w2 (w2.alloc (.cells #[.int .i64 x.c, .int .i64 x.g, .int .i64 x.n] 33)) := (Below.refl _ w2).alloc (Nat.le_refl _) _
      have hP4 := hP2.on hB2 hb4
      have hx4 : Blk (w2.alloc (.cells #[.int .i64 x.c, .int .i64 x.g, .int .i64 x.n] 33)) w2.heap.size 33 #[.int .i64 x.c, .int .i64 x.g, .int .i64 x.n] := heap_alloc_new w2 _
      have hB4 : W.heap.size ≤ (w2.alloc (.cells #[.int .i64 x.c, .int .i64 x.g, .int .i64 x.n] 33)).heap.size := hP4.below.size
      clear hb4 hP2
      generalize wr.heap.size = zb at *
      cases b with
      | true =>
        obtain ⟨eF, eK⟩ := hnx.1 rfl
        have HN := Lib.hid (And.intro eF eK)
        clear hnx eF eK
        go_wp2_with (first
          | (refine wpList_load_row rfl 33 (.tmp 10) rfl zb rfl 33 #[.int .i64 x.c, .int .i64 x.g, .int .i64 x.n] (0, 0) _ hx2 Try.underlying33 rfl size33 ?_)
          | (at_builtin; refine wpList_one rfl _ _ rfl rfl hP4.k (by omega) hB4 w2.heap.size x rfl hx4 ?_; intro A3 c3 w3 ho3 hg3 hl3; have hP5 := hP4.add ho3 hg3 hl3 hB4; clear ho3 hg3 hl3 hP4 hx2))
        obtain ⟨eF, eK⟩ := HN.out
        go_roundw
        case rel => exact ⟨k + 1, by omega, by go_num, A1, c1, A3, c3, by rw [eF], by rw [eK, List.length_append]; rfl, by rw [eF, eK, List.length_append]; exact hP5⟩
        case measure => simp [intOf]; omega
      | false =>
        obtain ⟨eF, eK⟩ := hnx.2 rfl
        have HN := Lib.hid (And.intro eF eK)
        clear hnx eF eK
        go_wp2_with (first
          | (refine wpList_load_row rfl 33 (.tmp 10) rfl zb rfl 33 #[.int .i64 x.c, .int .i64 x.g, .int .i64 x.n] (0, 0) _ hx2 Try.underlying33 rfl size33 ?_)
          | (at_builtin; refine wpList_one rfl _ _ rfl rfl hP4.f (by omega) hB4 w2.heap.size x rfl hx4 ?_; intro A3 c3 w3 ho3 hg3 hl3; have hP5 := (hP4.symm.add ho3 hg3 hl3 hB4).symm; clear ho3 hg3 hl3 hP4 hx2))
        obtain ⟨eF, eK⟩ := HN.out
        go_roundw
        case rel => exact ⟨k + 1, by omega, by go_num, A3, c3, A2, c2, by rw [eF, List.length_append]; rfl, by rw [eK], by rw [eF, eK, List.length_append]; exact hP5⟩
        case measure => simp [intOf]; omega
    · have hk' : k = n := by omega
      subst hk'
      have et : l.take k = l := by rw [← hl, List.take_length]
      rw [et] at hP
      have HP := Lib.hid hP
      have HT := Lib.hid et
      clear hP et hseek hSW hl
      go_wp2
      refine bodyPost_ret (v := .tuple #[.slice A1 (freeL l z).length c1, .slice A2 (keptL l z).length c2]) (by simp [results, Try.f9, go_sem, HT.out]) rfl ?_
      exact ⟨A1, c1, A2, c2, rfl, own_seesB HP.out.f, own_seesB HP.out.k, hbw.trans (HP.out.below.mono hbw.size)⟩
end Go.Proofs.Ytfpocghjdhhkpaa
