/- States, by value and by what their lists hold; their numbers, and the octets of these: unlike states have unlike octets. Conditions: numbers of 64 bits. -/
import Derived.Test.YtfmkmmmaoiepmaaMath
namespace Go.Proofs.Ytfmkmmmaoiepmaa
open Go.RowKit

/-! ### numbers as octets -/
/-- A number of 64 bits. -/
def Wide (n : Int) : Prop := -9223372036854775808 ≤ n ∧ n ≤ 9223372036854775807
def oct8 (n : Int) : List Int := digs n 8
def octs (l : List Int) : List Int := l.flatMap oct8
theorem oct8_len (n : Int) : (oct8 n).length = 8 := digs_len n 8
theorem oct8_small (n : Int) : Small (oct8 n) := digs_small n 8
theorem octs_nil : octs [] = [] := rfl
theorem octs_cons (x : Int) (l : List Int) : octs (x :: l) = oct8 x ++ octs l := rfl
theorem octs_one (x : Int) : octs [x] = oct8 x := by simp [octs]
theorem octs_app (a b : List Int) : octs (a ++ b) = octs a ++ octs b := by simp [octs]
theorem octs_snoc (a : List Int) (x : Int) : octs (a ++ [x]) = octs a ++ oct8 x := by rw [octs_app, octs_one]
theorem octs_len (l : List Int) : (octs l).length = 8 * l.length := by
  induction l with
  | nil => rfl
  | cons x l ih => rw [octs_cons, List.length_append, oct8_len, ih, List.length_cons]; omega
theorem octs_small (l : List Int) : Small (octs l) := by
  induction l with
  | nil => intro x hx; cases hx
  | cons x l ih => rw [octs_cons]; exact (oct8_small x).app ih
theorem oct8_inj {a b : Int} (ha : Wide a) (hb : Wide b) (h : oct8 a = oct8 b) : a = b := by
  unfold Wide at ha hb
  simp only [oct8, digs, dig, Nat.reduceMul, Int.reducePow, List.cons.injEq, and_true] at h
  omega
theorem octs_inj : ∀ {a b : List Int}, (∀ x ∈ a, Wide x) → (∀ x ∈ b, Wide x) → octs a = octs b → a = b
  | [], [], _, _, _ => rfl
  | [], y :: b, _, _, h => by
    have := congrArg List.length h
    rw [octs_len, octs_len] at this
    simp at this
  | x :: a, [], _, _, h => by
    have := congrArg List.length h
    rw [octs_len, octs_len] at this
    simp at this
  | x :: a, y :: b, ha, hb, h => by
    rw [octs_cons, octs_cons] at h
    obtain ⟨h1, h2⟩ := List.append_inj h (by rw [oct8_len, oct8_len])
    rw [oct8_inj (ha x (by simp)) (hb y (by simp)) h1, octs_inj (fun z hz => ha z (by simp [hz])) (fun z hz => hb z (by simp [hz])) h2]

/-! ### what there is, by value -/
/-- An entry: its place, its word, the life, from where. -/
structure Ent where
  k : Int
  i : Int
  j : Int
  n : Int
  c : Int
  g : Int
  gen : Int
  pc : Int
deriving DecidableEq
def Ent.ns (x : Ent) : List Int := [x.k, x.i, x.j, x.n, x.c, x.g, x.gen, x.pc]
def Ent.cs (x : Ent) : List Value := [.int .i64 x.k, .int .i64 x.i, .int .i64 x.j, .int .i64 x.n, .int .i64 x.c, .int .i64 x.g, .int .i64 x.gen, .int .i64 x.pc]
def noE : Ent := ⟨0, 0, 0, 0, 0, 0, 0, 0⟩
instance : Inhabited Ent := ⟨noE⟩
theorem Ent.len (x : Ent) : x.cs.length = 8 := rfl
theorem Ent.onea (x : Ent) : x.cs.toArray.all (·.oneCell') = true := by simp [Ent.cs, Value.oneCell']
/-- A cell: what it is, its life, from whom, from where; its fields. -/
structure Cel where
  st : Int
  gen : Int
  by_ : Int
  pc : Int
  n0 : Int
  c0 : Int
  g0 : Int
  n1 : Int
  c1 : Int
  g1 : Int
deriving DecidableEq
def Cel.ns (x : Cel) : List Int := [x.st, x.gen, x.by_, x.pc, x.n0, x.c0, x.g0, x.n1, x.c1, x.g1]
def Cel.cs (x : Cel) : List Value := [.int .i64 x.st, .int .i64 x.gen, .int .i64 x.by_, .int .i64 x.pc, .int .i64 x.n0, .int .i64 x.c0, .int .i64 x.g0, .int .i64 x.n1, .int .i64 x.c1, .int .i64 x.g1]
def noC : Cel := ⟨0, 0, 0, 0, 0, 0, 0, 0, 0, 0⟩
instance : Inhabited Cel := ⟨noC⟩
theorem Cel.len (x : Cel) : x.cs.length = 10 := rfl
theorem Cel.onea (x : Cel) : x.cs.toArray.all (·.oneCell') = true := by simp [Cel.cs, Value.oneCell']
def Wd.ns (x : Wd) : List Int := [x.n, x.c, x.g]
def Bg.ns (x : Bg) : List Int := [x.c, x.g, x.n]
instance : Inhabited Wd := ⟨noW⟩
/-- A state: threads, buffers, roots, slots, cells, the free ones, the epoch, marks, counts. -/
structure St where
  th : Sl
  bu : Sl
  ro : Sl
  sl : Sl
  ce : Sl
  fr : Sl
  ep : Int
  ma : Sl
  co : Sl
def St.cs (s : St) : List Value := [s.th.v, s.bu.v, s.ro.v, s.sl.v, s.ce.v, s.fr.v, .int .i64 s.ep, s.ma.v, s.co.v]
def noSt : St := ⟨noS, noS, noS, noS, noS, noS, 0, noS, noS⟩
theorem St.len (x : St) : x.cs.length = 9 := rfl
theorem St.onea (x : St) : x.cs.toArray.all (·.oneCell') = true := by simp [St.cs, Sl.v, Value.oneCell']

/-! ### their numbers -/
/-- How many there are, and each of them. -/
def many {α : Type} (f : α → List Int) (l : List α) : List Int := (l.length : Int) :: l.flatMap f
def one (x : Int) : List Int := [x]
/-- A thread, and what its lists hold. -/
structure Tc where
  x : Th
  z : List Int
  l : List Bg
  s : List Int
def Th.key (x : Th) : List Int := [x.pc, x.fu, x.st, x.a0, x.a1, x.a2, x.a3, x.a4, x.a5, x.a6, x.a7, x.a8, x.a9, x.a10, x.a11, x.k, x.i, x.n]
def Tc.con (t : Tc) : List Int × List Int × List Bg × List Int × Int := (t.x.key, t.z, t.l, t.s, t.x.old)
def Tc.ns (t : Tc) : List Int := t.x.key ++ (many one t.z ++ (many Bg.ns t.l ++ (many one t.s ++ [t.x.old])))
/-- What a state's lists hold. -/
structure Sc where
  th : List Tc
  bu : List (List Ent)
  ro : List Wd
  sl : List Wd
  ce : List Cel
  fr : List Int
  ep : Int
  ma : List Int
  co : List Int
def Sc.sh (s : Sc) : List Int := many Wd.ns s.ro ++ (many Wd.ns s.sl ++ (many Cel.ns s.ce ++ (many one s.fr ++ ([s.ep] ++ (many one s.ma ++ many one s.co)))))
def Sc.ns (s : Sc) : List Int := many Tc.ns s.th ++ (many (many Ent.ns) s.bu ++ s.sh)
abbrev Sc.con (s : Sc) := (s.th.map Tc.con, s.bu, s.ro, s.sl, s.ce, s.fr, s.ep, s.ma, s.co)

/-! ### unlike ones have unlike numbers -/
def Pre {α β : Type} (f : α → List Int) (g : α → β) : Prop := ∀ x y r q, f x ++ r = f y ++ q → g x = g y ∧ r = q
theorem pre_one : Pre one id := fun x y r q h => by simpa [one] using h
theorem pre_wd : Pre Wd.ns id := fun x y r q h => by
  obtain ⟨a, b, c⟩ := x
  obtain ⟨a', b', c'⟩ := y
  simp [Wd.ns] at h
  simp [h]
theorem pre_bg : Pre Bg.ns id := fun x y r q h => by
  obtain ⟨a, b, c⟩ := x
  obtain ⟨a', b', c'⟩ := y
  simp [Bg.ns] at h
  simp [h]
theorem pre_ent : Pre Ent.ns id := fun x y r q h => by
  obtain ⟨a, b, c, d, e, f, g, i⟩ := x
  obtain ⟨a', b', c', d', e', f', g', i'⟩ := y
  simp [Ent.ns] at h
  simp [h]
theorem pre_cel : Pre Cel.ns id := fun x y r q h => by
  obtain ⟨a, b, c, d, e, f, g, i, j, k⟩ := x
  obtain ⟨a', b', c', d', e', f', g', i', j', k'⟩ := y
  simp [Cel.ns] at h
  simp [h]
theorem pre_flat {α β : Type} {f : α → List Int} {g : α → β} (hf : Pre f g) : ∀ (l k : List α) (r q : List Int), l.length = k.length → l.flatMap f ++ r = k.flatMap f ++ q → l.map g = k.map g ∧ r = q
  | [], [], r, q, _, h => ⟨rfl, h⟩
  | [], _ :: _, _, _, hl, _ => by simp at hl
  | _ :: _, [], _, _, hl, _ => by simp at hl
  | x :: l, y :: k, r, q, hl, h => by
    rw [List.flatMap_cons, List.flatMap_cons, List.append_assoc, List.append_assoc] at h
    obtain ⟨h1, h2⟩ := hf _ _ _ _ h
    obtain ⟨h3, h4⟩ := pre_flat hf l k r q (by simpa using hl) h2
    exact ⟨by rw [List.map_cons, List.map_cons, h1, h3], h4⟩
theorem pre_many {α β : Type} {f : α → List Int} {g : α → β} (hf : Pre f g) : Pre (many f) (List.map g) := fun l k r q h => by
  unfold many at h
  rw [List.cons_append, List.cons_append, List.cons.injEq] at h
  exact pre_flat hf l k r q (by omega) h.2
theorem pre_id {α : Type} {f : α → List Int} (hf : Pre f id) : Pre (many f) id := fun l k r q h => by simpa using pre_many hf l k r q h
theorem pre_tc : Pre Tc.ns Tc.con := fun t u r q h => by
  unfold Tc.ns at h
  simp only [List.append_assoc] at h
  obtain ⟨h1, h⟩ := List.append_inj h (show t.x.key.length = u.x.key.length from rfl)
  obtain ⟨h2, h⟩ := pre_id pre_one _ _ _ _ h
  obtain ⟨h3, h⟩ := pre_id pre_bg _ _ _ _ h
  obtain ⟨h4, h⟩ := pre_id pre_one _ _ _ _ h
  obtain ⟨h5, h⟩ := pre_one t.x.old u.x.old _ _ h
  simp only [id] at h2 h3 h4 h5
  exact ⟨by unfold Tc.con; rw [h1, h2, h3, h4, h5], h⟩
/-- Of the numbers' own contents nothing else counts. -/
theorem tc_ns {t u : Tc} (h : t.con = u.con) : t.ns = u.ns := by
  unfold Tc.con at h
  simp only [Prod.mk.injEq] at h
  unfold Tc.ns
  rw [h.1, h.2.1, h.2.2.1, h.2.2.2.1, h.2.2.2.2]
theorem many_con {α β : Type} {f : α → List Int} {g : α → β} (hf : ∀ x y, g x = g y → f x = f y) : ∀ {l k : List α}, l.map g = k.map g → many f l = many f k := by
  have hl : ∀ {l k : List α}, l.map g = k.map g → l.flatMap f = k.flatMap f := by
    intro l
    induction l with
    | nil => intro k h; cases k with
      | nil => rfl
      | cons y k => simp at h
    | cons x l ih => intro k h; cases k with
      | nil => simp at h
      | cons y k =>
        simp only [List.map_cons, List.cons.injEq] at h
        rw [List.flatMap_cons, List.flatMap_cons, hf x y h.1, ih h.2]
  intro l k h
  have := congrArg List.length h
  rw [List.length_map, List.length_map] at this
  unfold many
  rw [hl h, this]
theorem sc_ns (a b : Sc) : a.ns = b.ns ↔ a.con = b.con := by
  constructor
  · intro h
    unfold Sc.ns Sc.sh at h
    obtain ⟨h1, h⟩ := pre_many pre_tc _ _ _ _ h
    obtain ⟨h2, h⟩ := pre_id (pre_id pre_ent) _ _ _ _ h
    obtain ⟨h3, h⟩ := pre_id pre_wd _ _ _ _ h
    obtain ⟨h4, h⟩ := pre_id pre_wd _ _ _ _ h
    obtain ⟨h5, h⟩ := pre_id pre_cel _ _ _ _ h
    obtain ⟨h6, h⟩ := pre_id pre_one _ _ _ _ h
    obtain ⟨h7, h⟩ := pre_one a.ep b.ep _ _ h
    obtain ⟨h8, h⟩ := pre_id pre_one _ _ _ _ h
    rw [← List.append_nil (many one a.co), ← List.append_nil (many one b.co)] at h
    obtain ⟨h9, _⟩ := pre_id pre_one _ _ _ _ h
    simp only [id] at h2 h3 h4 h5 h6 h7 h8 h9
    simp only [Sc.con, h1, h2, h3, h4, h5, h6, h7, h8, h9]
  · intro h
    simp only [Sc.con, Prod.mk.injEq] at h
    obtain ⟨h1, h2, h3, h4, h5, h6, h7, h8, h9⟩ := h
    unfold Sc.ns Sc.sh
    rw [many_con (fun _ _ => tc_ns) h1, h2, h3, h4, h5, h6, h7, h8, h9]
end Go.Proofs.Ytfmkmmmaoiepmaa
