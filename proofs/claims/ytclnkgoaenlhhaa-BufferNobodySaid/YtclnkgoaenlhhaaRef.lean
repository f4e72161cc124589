/- Two lists that are the same; the last of a place in a list; how a buffer stands, told by a list. Conditions: none. -/
import Derived.Test.YtclnkgoaenlhhaaOwn
namespace Go.Proofs.Ytclnkgoaenlhhaa
open Go.RowKit Go.Conc Go.ChangeShapes Go.WideShapes

theorem sees_at' {w : World} {A : Option Addr} {n cap k : Nat} {l : List Ent} (h : SeesE w A n cap l) (hk : k < n) : ∃ g o, A = some ⟨g, o, none⟩ ∧ w.rangeAt g (o + k * 8) (l.getD k noE).cs := by
  have hl := h.len
  have hx : l[k]? = some (l.getD k noE) := by simp [List.getD, List.getElem?_eq_getElem (show k < l.length by omega)]
  exact h.at_ hx
theorem below_dn {b : Nat} {w w' : World} (h : Below b w w') (q : Nat) : Below b w (w'.drewN q) := ⟨h.os, h.tape, h.output, h.size, h.block⟩

set_option maxRecDepth 100000 in
set_option maxHeartbeats 4000000 in
/-- Two lists that are the same. -/
theorem ents_same (A A' : Option Addr) (n cap cap' : Nat) (xs : List Ent) (w : World) (h : SeesE w A n cap xs) (h' : SeesE w A' n cap' xs) :
    Calls Try.prog 22 #[.slice A n cap, .slice A' n cap'] w fun e w' => e = .returned (.bool true) ∧ Below w.heap.size w w' := by
  have hmx := h.most
  have hrm := h.room
  unfold maxLen at hmx
  go_enter Try.func22, Try.ntmps22
  go_wp2
  go_loopw [5] (fun i wr => ∃ k : Nat, k ≤ n ∧ i = .int .i64 k ∧ Below w.heap.size w wr) (fun i _ => n - (intOf i).toNat)
  case atStart => exact ⟨0, Nat.zero_le _, rfl, Below.refl _ _⟩
  case round =>
    obtain ⟨k, hk, rfl, hb⟩ := hrel
    by_cases hlt : k < n
    · obtain ⟨g, o, rfl, hr⟩ := sees_at' (h.on hb) hlt
      obtain ⟨g', o', rfl, hr'⟩ := sees_at' (h'.on hb) hlt
      generalize xs.getD k noE = x at hr hr'
      have c0 : wr.cell? ⟨g, o + k * 8, none⟩ = some (.int .i64 x.x.k) := hr 0 _ rfl
      have c1 : wr.cell? ⟨g, o + k * 8 + 1, none⟩ = some (.int .i64 x.x.i) := hr 1 _ rfl
      have c2 : wr.cell? ⟨g, o + k * 8 + 2, none⟩ = some (.int .i64 x.x.j) := hr 2 _ rfl
      have c3 : wr.cell? ⟨g, o + k * 8 + 3, none⟩ = some (.int .i64 x.v.n) := hr 3 _ rfl
      have c4 : wr.cell? ⟨g, o + k * 8 + 4, none⟩ = some (.int .i64 x.v.c) := hr 4 _ rfl
      have c5 : wr.cell? ⟨g, o + k * 8 + 5, none⟩ = some (.int .i64 x.v.g) := hr 5 _ rfl
      have c6 : wr.cell? ⟨g, o + k * 8 + 6, none⟩ = some (.int .i64 x.g) := hr 6 _ rfl
      have c7 : wr.cell? ⟨g, o + k * 8 + 7, none⟩ = some (.int .i64 x.p) := hr 7 _ rfl
      have d0 : wr.cell? ⟨g', o' + k * 8, none⟩ = some (.int .i64 x.x.k) := hr' 0 _ rfl
      have d1 : wr.cell? ⟨g', o' + k * 8 + 1, none⟩ = some (.int .i64 x.x.i) := hr' 1 _ rfl
      have d2 : wr.cell? ⟨g', o' + k * 8 + 2, none⟩ = some (.int .i64 x.x.j) := hr' 2 _ rfl
      have d3 : wr.cell? ⟨g', o' + k * 8 + 3, none⟩ = some (.int .i64 x.v.n) := hr' 3 _ rfl
      have d4 : wr.cell? ⟨g', o' + k * 8 + 4, none⟩ = some (.int .i64 x.v.c) := hr' 4 _ rfl
      have d5 : wr.cell? ⟨g', o' + k * 8 + 5, none⟩ = some (.int .i64 x.v.g) := hr' 5 _ rfl
      have d6 : wr.cell? ⟨g', o' + k * 8 + 6, none⟩ = some (.int .i64 x.g) := hr' 6 _ rfl
      have d7 : wr.cell? ⟨g', o' + k * 8 + 7, none⟩ = some (.int .i64 x.p) := hr' 7 _ rfl
      have hne : ∀ W, (binOp BinOp.neq 35 (.agg #[.int .i64 x.x.k, .int .i64 x.x.i, .int .i64 x.x.j, .int .i64 x.v.n, .int .i64 x.v.c, .int .i64 x.v.g, .int .i64 x.g, .int .i64 x.p]) (.agg #[.int .i64 x.x.k, .int .i64 x.x.i, .int .i64 x.x.j, .int .i64 x.v.n, .int .i64 x.v.c, .int .i64 x.v.g, .int .i64 x.g, .int .i64 x.p])).run Try.prog W = .ok (.bool false) W := fun W => by
        have := neq35 x x W
        rw [decide_eq_true rfl] at this
        exact this
      have hkI : (k : Int) < (n : Int) := by omega
      have hk0 : (0 : Int) ≤ (k : Int) := by omega
      clear hr hr'
      go_wp2
      go_quiet (fail)
      go_wp2
      go_roundw
      case rel => exact ⟨k + 1, by omega, by go_num, below_dn hb _⟩
      case measure => simp [intOf]; omega
    · go_wp2
      go_ret
      exact ⟨rfl, hb⟩

def idxO : Option Nat → Int
  | none => -1
  | some k => (k : Int)
set_option maxRecDepth 100000 in
set_option maxHeartbeats 4000000 in
theorem rlast_any (A : Option Addr) (n cap : Nat) (l : List Ent) (x : Pl) (g : Int) (w : World) (h : SeesE w A n cap l) :
    Calls Try.prog 21 #[.slice A n cap, .agg #[.int .i64 x.k, .int .i64 x.i, .int .i64 x.j], .int .i64 g] w fun e w' => e = .returned (.int .i64 (idxO (lastO l x g))) ∧ Below w.heap.size w w' := by
  have hmx := h.most
  have hrm := h.room
  unfold maxLen at hmx
  have hn63 : (n : Int) ≤ 9223372036854775807 := by omega
  have hn0 : (0 : Int) ≤ (n : Int) := by omega
  have hl : lastO l x g = lastI l x g n := by unfold lastO; rw [h.len]
  rw [hl]
  clear hl
  obtain ⟨W0, eW0⟩ : ∃ W, w.alloc (.cells #[.int .i64 x.k, .int .i64 x.i, .int .i64 x.j] 31) = W := ⟨_, rfl⟩
  have hb0 : Below w.heap.size w W0 := by rw [← eW0]; exact (Below.refl _ w).alloc (Nat.le_refl _) _
  have hx0 : Blk W0 w.heap.size 31 x.cs.toArray := by rw [← eW0]; exact blk_new w #[.int .i64 x.k, .int .i64 x.i, .int .i64 x.j] 31 _ rfl
  go_enter Try.func21, Try.ntmps21
  go_wp2
  clear eW0
  have hwz : w.heap.size < W0.heap.size := hx0.lt
  go_loopw [7] (fun i wr => ∃ m : Nat, m ≤ n ∧ i = .int .i64 ((m : Int) - 1) ∧ Below w.heap.size w wr ∧ Below W0.heap.size W0 wr ∧ lastI l x g n = lastI l x g m) (fun i _ => (intOf i + 1).toNat)
  case atStart => exact ⟨n, Nat.le_refl _, rfl, hb0, Below.refl _ _, rfl⟩
  case round =>
    obtain ⟨m, hm, rfl, hb, hb2, he⟩ := hrel
    by_cases h0 : m = 0
    · subst h0
      have HE := Lib.hid he
      clear he
      go_wp2
      go_ret
      exact ⟨by rw [HE.out]; rfl, hb⟩
    · obtain ⟨k, rfl⟩ : ∃ k, m = k + 1 := ⟨m - 1, by omega⟩
      have ek : ((k + 1 : Nat) : Int) - 1 = (k : Int) := by omega
      rw [ek]
      obtain ⟨q, o, rfl, hr⟩ := sees_at' (h.on hb) (show k < n by omega)
      have hs1 : hitE x g (l.getD k noE) = false → lastI l x g (k + 1) = lastI l x g k := fun hh => by rw [lastI, hh]; rfl
      have hs2 : hitE x g (l.getD k noE) = true → lastI l x g (k + 1) = some k := fun hh => by rw [lastI, hh]; rfl
      generalize l.getD k noE = E at hr hs1 hs2
      have c0 : wr.cell? ⟨q, o + k * 8, none⟩ = some (.int .i64 E.x.k) := hr 0 _ rfl
      have c1 : wr.cell? ⟨q, o + k * 8 + 1, none⟩ = some (.int .i64 E.x.i) := hr 1 _ rfl
      have c2 : wr.cell? ⟨q, o + k * 8 + 2, none⟩ = some (.int .i64 E.x.j) := hr 2 _ rfl
      have c3 : wr.cell? ⟨q, o + k * 8 + 3, none⟩ = some (.int .i64 E.v.n) := hr 3 _ rfl
      have c4 : wr.cell? ⟨q, o + k * 8 + 4, none⟩ = some (.int .i64 E.v.c) := hr 4 _ rfl
      have c5 : wr.cell? ⟨q, o + k * 8 + 5, none⟩ = some (.int .i64 E.v.g) := hr 5 _ rfl
      have c6 : wr.cell? ⟨q, o + k * 8 + 6, none⟩ = some (.int .i64 E.g) := hr 6 _ rfl
      have c7 : wr.cell? ⟨q, o + k * 8 + 7, none⟩ = some (.int .i64 E.p) := hr 7 _ rfl
      have hx := hx0.on hb2
      have x0 : wr.cell? ⟨w.heap.size, 0, none⟩ = some (.int .i64 x.k) := hx.cell 0
      have x1 : wr.cell? ⟨w.heap.size, 1, none⟩ = some (.int .i64 x.i) := hx.cell 1
      have x2 : wr.cell? ⟨w.heap.size, 2, none⟩ = some (.int .i64 x.j) := hx.cell 2
      have hkI : (k : Int) < (n : Int) := by omega
      have hk0 : (0 : Int) ≤ (k : Int) := by omega
      have heq : ∀ W, (binOp BinOp.eql 31 (.agg #[.int .i64 E.x.k, .int .i64 E.x.i, .int .i64 E.x.j]) (.agg #[.int .i64 x.k, .int .i64 x.i, .int .i64 x.j])).run Try.prog W = .ok (.bool (decide (E.x = x))) W := fun W => eq31 E.x x W
      clear hr ek
      obtain ⟨b, hbb⟩ : ∃ b, decide (E.x = x) = b := ⟨_, rfl⟩
      rw [hbb] at heq
      cases b with
      | false =>
        have e2 := he.trans (hs1 (by unfold hitE; rw [hbb]; rfl))
        have HE := Lib.hid e2
        clear hs1 hs2 hbb e2 he
        go_wp2
        go_quiet (fail)
        go_wp2
        go_roundw
        case rel => exact ⟨k, by omega, by go_num, below_dn hb _, below_dn hb2 _, HE.out⟩
        case measure => simp [intOf]
      | true =>
        obtain ⟨b2, hb2'⟩ : ∃ b, decide (E.g = g) = b := ⟨_, rfl⟩
        cases b2 with
        | false =>
          have e2 := he.trans (hs1 (by unfold hitE; rw [hb2']; simp))
          have hge : (E.g == g) = false := by simpa using hb2'
          have HE := Lib.hid e2
          clear hs1 hs2 hbb hb2' e2 he
          go_wp2
          go_quiet (fail)
          go_wp2
          go_roundw
          case rel => exact ⟨k, by omega, by go_num, below_dn hb _, below_dn hb2 _, HE.out⟩
          case measure => simp [intOf]
        | true =>
          have e2 := he.trans (hs2 (by unfold hitE; rw [hbb, hb2']; rfl))
          have hge : (E.g == g) = true := by simpa using hb2'
          have HE := Lib.hid e2
          clear hs1 hs2 hbb hb2' e2 he
          go_wp2
          go_quiet (fail)
          go_wp2
          go_ret
          exact ⟨by rw [HE.out]; rfl, below_dn hb _⟩
end Go.Proofs.Ytclnkgoaenlhhaa
