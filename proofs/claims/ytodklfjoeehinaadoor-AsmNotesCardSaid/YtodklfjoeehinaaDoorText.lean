/- What asm's text holds between two lines: the struct's block, the list of lists that it has made itself, the last list apart from the others. Conditions: none. -/
import Derived.Test.YtodklfjoeehinaaDoorRefIns
import Derived.Deep.AppendLies
namespace Go.Proofs.YtodklfjoeehinaaDoor
open Go.RowKit Nine

theorem own_same {w w' : World} {base n sz : Nat} {e : TypeId} {v : Value} {xs : List Value} (h : w.ownsRow base e sz v n xs) (hk : ∀ k, v.ownBlock = some k → w'.heap[k]? = w.heap[k]?) : w'.ownsRow base e sz v n xs := by
  refine ⟨h.1, ?_⟩
  rcases h.2 with h2 | ⟨g, c, cur, rfl, h2, h3, h4⟩
  · exact .inl h2
  · exact .inr ⟨g, c, cur, rfl, h2, (hk g rfl).trans h3, h4⟩
theorem own_type {w : World} {base n sz k : Nat} {e : TypeId} {v : Value} {xs : List Value} (h : w.ownsRow base e sz v n xs) (hk : v.ownBlock = some k) : ∃ cur, w.heap[k]? = some (.cells cur e (0, 0)) := by
  rcases h.2 with ⟨rfl, _⟩ | ⟨g, c, cur, rfl, h2, h3, _⟩
  · cases hk
  · injection hk with hk
    subst hk
    exact ⟨cur, h3⟩
/-- Rows of two types lie apart. -/
theorem own_apart {w : World} {b1 b2 n1 n2 s1 s2 k1 k2 : Nat} {e1 e2 : TypeId} {v1 v2 : Value} {x1 x2 : List Value} (h1 : w.ownsRow b1 e1 s1 v1 n1 x1) (h2 : w.ownsRow b2 e2 s2 v2 n2 x2) (hne : e1 ≠ e2) (hk1 : v1.ownBlock = some k1) (hk2 : v2.ownBlock = some k2) : k1 ≠ k2 := by
  rintro rfl
  obtain ⟨c1, h3⟩ := own_type h1 hk1
  obtain ⟨c2, h4⟩ := own_type h2 hk2
  rw [h3] at h4
  injection h4 with h4
  injection h4 with _ h4 _
  exact hne h4
theorem own_slice {w : World} {base n sz : Nat} {e : TypeId} {v : Value} {xs : List Value} (h : w.ownsRow base e sz v n xs) : ∃ A cap, v = .slice A n cap := by
  rcases h.2 with ⟨rfl, rfl⟩ | ⟨g, c, cur, rfl, _⟩
  · exact ⟨none, 0, rfl⟩
  · exact ⟨_, c, rfl⟩
theorem own_cap {w : World} {base n sz cap : Nat} {e : TypeId} {A : Option Addr} {xs : List Value} (h : w.ownsRow base e sz (.slice A n cap) n xs) : n ≤ cap ∧ cap ≤ maxLen := by
  rcases h.2 with ⟨e1, rfl⟩ | ⟨g, c, cur, e1, _, _, h3, h4, _⟩
  · injection e1 with _ _ e3
    subst e3
    exact ⟨Nat.le_refl _, Nat.zero_le _⟩
  · injection e1 with _ _ e3
    subst e3
    exact ⟨h3, h4⟩

/-- What a text's struct holds. -/
def txtC (t : St) (v : Value) : Array Value := #[.bool t.g, .int .i64 t.r, .int .i64 t.c, .int .i64 t.s, v]
/-- The text in block g: v is its list of lists; each list but the last one lies below B, the last one from B on. -/
structure Txt (w : World) (g : Nat) (t : St) (v : Value) (B : Nat) (vs : List Value) : Prop where
  blk : Blk w g 56 (txtC t v)
  own : w.ownsRow (g + 1) 50 1 v t.xss.length vs
  low : g < B
  high : B ≤ w.heap.size
  early : ∀ (i : Nat) (xs : List Ins), t.xss[i]? = some xs → i + 1 < t.xss.length → ∃ u, vs[i]? = some u ∧ w.ownsRow (g + 1) 25 5 u xs.length (flat5 xs) ∧ ∀ k, u.ownBlock = some k → k < B
  last : ∀ (i : Nat) (xs : List Ins), t.xss[i]? = some xs → i + 1 = t.xss.length → ∃ u, vs[i]? = some u ∧ w.ownsRow B 25 5 u xs.length (flat5 xs)
/-- The text in block g. -/
def Txts (w : World) (g : Nat) (t : St) : Prop := ∃ v B vs, Txt w g t v B vs
theorem Txt.each {w : World} {g B : Nat} {t : St} {v : Value} {vs : List Value} (h : Txt w g t v B vs) {i : Nat} {xs : List Ins} (hx : t.xss[i]? = some xs) : ∃ u, vs[i]? = some u ∧ w.ownsRow (g + 1) 25 5 u xs.length (flat5 xs) := by
  have hi := (List.getElem?_eq_some_iff.1 hx).1
  rcases Nat.lt_or_ge (i + 1) t.xss.length with hl | hl
  · obtain ⟨u, h1, h2, _⟩ := h.early i xs hx hl
    exact ⟨u, h1, h2⟩
  · obtain ⟨u, h1, h2⟩ := h.last i xs hx (by omega)
    exact ⟨u, h1, own_mono h2 h.low⟩
theorem Txt.on {w w' : World} {g B : Nat} {t : St} {v : Value} {vs : List Value} (h : Txt w g t v B vs) (hb : Below w.heap.size w w') : Txt w' g t v B vs :=
  ⟨h.blk.below hb h.blk.lt, own_below h.own hb, h.low, Nat.le_trans h.high hb.size, fun i xs hx hi => by
    obtain ⟨u, h1, h2, h3⟩ := h.early i xs hx hi
    exact ⟨u, h1, own_below h2 hb, h3⟩, fun i xs hx hi => by
    obtain ⟨u, h1, h2⟩ := h.last i xs hx hi
    exact ⟨u, h1, own_below h2 hb⟩⟩
theorem Txts.on {w w' : World} {g : Nat} {t : St} (h : Txts w g t) (hb : Below w.heap.size w w') : Txts w' g t := by
  obtain ⟨v, B, vs, h⟩ := h
  exact ⟨v, B, vs, h.on hb⟩
theorem Txt.mat {w : World} {g B : Nat} {t : St} {v : Value} {vs : List Value} (h : Txt w g t v B vs) : ∃ A cap, v = .slice A t.xss.length cap ∧ Mat w (fun k => g < k ∧ k < w.heap.size) A t.xss.length cap t.xss := by
  have hM : OwnM w (g + 1) (From w (g + 1)) v t.xss.length t.xss := ⟨rfl, vs, h.own, fun i xs hx => by
    obtain ⟨u, h1, h2⟩ := h.each hx
    obtain ⟨A, cap, rfl, hL⟩ := own_lst h2
    exact ⟨A, xs.length, cap, h1, hL⟩⟩
  obtain ⟨A, cap, e, hm⟩ := hM.mat
  exact ⟨A, cap, e, hm.more fun k hk => by rcases hk with hk | hk <;> exact ⟨hk.1, hk.2⟩⟩
/-- A text that holds nothing. -/
theorem txt_new {w : World} {g : Nat} (h : Blk w g 56 (txtC St.none (.slice none 0 0))) : Txt w g St.none (.slice none 0 0) (g + 1) [] :=
  ⟨h, World.ownsRow_nil _ _ _ _, Nat.lt_succ_self _, h.lt, fun i xs hx => by simp [St.none] at hx, fun i xs hx => by simp [St.none] at hx⟩
/-- Behind the first line. -/
theorem txt_head {w w' : World} {g : Nat} {v : Value} {B : Nat} {vs : List Value} (h : Txt w g St.none v B vs) (r c s : Int) (hs : w.heap.size ≤ w'.heap.size) (hb : ∀ k, g < k → k < w.heap.size → w'.heap[k]? = w.heap[k]?) (hg : Blk w' g 56 (txtC ⟨true, r, c, s, []⟩ v)) : Txt w' g ⟨true, r, c, s, []⟩ v B vs :=
  ⟨hg, own_same h.own fun k hk => hb k (h.own.lt k hk).1 (h.own.lt k hk).2, h.low, Nat.le_trans h.high hs, fun i xs hx => by simp at hx, fun i xs hx => by simp at hx⟩
/-- Behind a line that begins a thread: w1 has the list of lists grown, w2 the struct turned. -/
theorem txt_thread {w w1 w2 : World} {g h1 cap B : Nat} {r c s : Int} {xss : List (List Ins)} {v : Value} {vs : List Value} (h : Txt w g ⟨true, r, c, s, xss⟩ v B vs)
    (hg : w.grownBy w1 v.ownBlock) (ho : w1.ownsRow (g + 1) 50 1 (.slice (some ⟨h1, 0, none⟩) (xss.length + 1) cap) (xss.length + 1) (vs ++ [.slice none 0 0]))
    (h2 : w2 = w1.setCell ⟨g, 4, none⟩ (.slice (some ⟨h1, 0, none⟩) (xss.length + 1) cap)) :
    Txt w2 g ⟨true, r, c, s, xss ++ [[]]⟩ (.slice (some ⟨h1, 0, none⟩) (xss.length + 1) cap) w1.heap.size (vs ++ [.slice none 0 0]) := by
  have hgv : some g ≠ v.ownBlock := fun e => by have := (h.own.lt g e.symm).1; omega
  have hb1 : Blk w1 g 56 (txtC ⟨true, r, c, s, xss⟩ v) := (hg.block g h.blk.lt hgv).trans h.blk
  have hvl : vs.length = xss.length := by have := h.own.1; simpa using this
  have hoth : ∀ k, k ≠ g → w2.heap[k]? = w1.heap[k]? := fun k hk => by rw [h2]; exact heap_set w1 g 4 k _ hk
  have hsz := hg.size
  have hgl := h.blk.lt
  have hlen : (xss ++ [[]]).length = xss.length + 1 := by simp
  refine ⟨?_, ?_, by omega, by rw [h2]; simp [World.setCell], fun i xs hx hi => ?_, fun i xs hx hi => ?_⟩
  · rw [h2]
    exact hb1.set_ 4 _
  · rw [hlen]
    exact own_same ho fun k hk => hoth k (by have := (ho.lt k hk).1; omega)
  · rw [hlen] at hi
    have hx' : xss[i]? = some xs := by
      rw [List.getElem?_append_left (by omega)] at hx
      exact hx
    obtain ⟨u, h3, h4⟩ := h.each hx'
    refine ⟨u, by rw [List.getElem?_append_left (by omega)]; exact h3, own_same h4 fun k hk => ?_, fun k hk => Nat.lt_of_lt_of_le (h4.lt k hk).2 hsz⟩
    have hkg : k ≠ g := by have := (h4.lt k hk).1; omega
    exact (hoth k hkg).trans (hg.block k (h4.lt k hk).2 fun e => own_apart h4 h.own (by decide) hk e.symm rfl)
  · rw [hlen] at hi
    have hx' : xs = [] := by
      rw [show i = xss.length by omega, List.getElem?_concat_length] at hx
      injection hx with hx
      exact hx.symm
    subst hx'
    exact ⟨.slice none 0 0, by rw [show i = vs.length by omega, List.getElem?_concat_length], World.ownsRow_nil _ _ _ _⟩
/-- Behind a line with an instruction: w1 has the last list grown, w2 the list of lists turned. -/
theorem txt_instr {w w1 w2 : World} {g h1 hl n1 cap cap1 B : Nat} {r c s : Int} {pre : List (List Ins)} {xs : List Ins} {x : Ins} {u : Value} {vs : List Value} (h : Txt w g ⟨true, r, c, s, pre ++ [xs]⟩ (.slice (some ⟨hl, 0, none⟩) (pre.length + 1) cap) B vs)
    (hu : vs[pre.length]? = some u) (hg : w.grownBy w1 u.ownBlock) (hn : n1 = xs.length + 1) (ho : w1.ownsRow B 25 5 (.slice (some ⟨h1, 0, none⟩) n1 cap1) n1 (flat5 xs ++ [.int .i64 x.o, .int .i64 x.a, .int .i64 x.b, .int .i64 x.c, .int .i64 x.n]))
    (h2 : w2 = w1.setCell ⟨hl, pre.length, none⟩ (.slice (some ⟨h1, 0, none⟩) n1 cap1)) :
    Txt w2 g ⟨true, r, c, s, pre ++ [xs ++ [x]]⟩ (.slice (some ⟨hl, 0, none⟩) (pre.length + 1) cap) B (vs.set pre.length (.slice (some ⟨h1, 0, none⟩) n1 cap1)) := by
  subst hn
  have hlen : ∀ y : List Ins, (pre ++ [y]).length = pre.length + 1 := fun y => by simp
  have hown : w.ownsRow (g + 1) 50 1 (.slice (some ⟨hl, 0, none⟩) (pre.length + 1) cap) (pre.length + 1) vs := by
    have := h.own
    simp only [hlen] at this
    exact this
  have hvl : vs.length = pre.length + 1 := by have := hown.1; simpa using this
  obtain ⟨u', h3, h4⟩ := h.last pre.length xs (by simp) (by simp)
  obtain rfl : u' = u := Option.some.inj (h3.symm.trans hu)
  have hlB := hown.lt hl rfl
  have hgv : some g ≠ u'.ownBlock := fun e => by have := (h4.lt g e.symm).1; have := h.low; omega
  have hhv : some hl ≠ u'.ownBlock := fun e => own_apart hown h4 (by decide) rfl e.symm rfl
  have hsz := hg.size
  have ho1 : w1.ownsRow (g + 1) 50 1 (.slice (some ⟨hl, 0, none⟩) (pre.length + 1) cap) (pre.length + 1) vs := own_same hown fun k hk => by
    injection hk with hk
    subst hk
    exact hg.block _ hlB.2 hhv
  have hst := (ho1.stored pre.length (.slice (some ⟨h1, 0, none⟩) (xs.length + 1) cap1)).1
  have hoth : ∀ k, k ≠ hl → w2.heap[k]? = w1.heap[k]? := fun k hk => by rw [h2]; exact heap_set w1 hl pre.length k _ hk
  rw [← h2] at hst
  have ho2 : w1.ownsRow B 25 5 (.slice (some ⟨h1, 0, none⟩) (xs.length + 1) cap1) (xs.length + 1) (flat5 (xs ++ [x])) := by rw [flat5_snoc]; exact ho
  refine ⟨?_, by simp only [hlen]; exact hst, h.low, by rw [h2]; simp [World.setCell]; exact Nat.le_trans h.high hsz, fun i ys hx hi => ?_, fun i ys hx hi => ?_⟩
  · refine (hoth g (by omega)).trans ((hg.block g h.blk.lt hgv).trans h.blk)
  · simp only [hlen] at hi
    rw [List.getElem?_append_left (by omega)] at hx
    obtain ⟨u2, k1, k2, k3⟩ := h.early i ys (by simp only; rw [List.getElem?_append_left (by omega)]; exact hx) (by simp only [hlen]; exact hi)
    refine ⟨u2, by rw [List.getElem?_set_ne (by omega)]; exact k1, own_same k2 fun k hk => ?_, k3⟩
    have a1 : k ≠ hl := own_apart k2 hown (by decide) hk rfl
    exact (hoth k a1).trans (hg.block k (k2.lt k hk).2 fun e => by have := (h4.lt k e.symm).1; have := k3 k hk; omega)
  · simp only [hlen] at hi
    obtain rfl : i = pre.length := by omega
    rw [List.getElem?_concat_length] at hx
    injection hx with hx
    subst hx
    refine ⟨_, by rw [List.getElem?_set_self (by omega)], ?_⟩
    rw [List.length_append]
    exact own_same ho2 fun k hk => hoth k (fun e => own_apart ho2 ho1 (by decide) hk (by rw [e]; rfl) rfl)
end Go.Proofs.YtodklfjoeehinaaDoor
