/- What a thread's octets tell; a struct stored into the midst of a row. Conditions: none. -/
import Derived.Test.YtcbekkbhhepeaaaDoorInstr
import Derived.Deep.MidRow
namespace Go.Proofs.YtcbekkbhhepeaaaDoor
open Go.RowKit

/-- The next instructions, and a thread. -/
def thrI (xs : List Int) (r s k : Int) : Nat → Nat → Except (Int × Nat) (List Ins)
  | 0, _ => .ok []
  | j + 1, a => match insP xs a r s k with
    | .error e => .error e
    | .ok x => match thrI xs r s k j (a + 12) with
      | .error e => .error e
      | .ok l => .ok (x :: l)
def thrP (xs : List Int) (a : Nat) (r s : Int) : Except (Int × Nat) (List Ins) :=
  match num1 xs a 0 16 4 with
  | .error e => .error e
  | .ok k => thrI xs r s k k.toNat (a + 1)
/-- What is parsed, behind what was. -/
def andL {α : Type} (pre : List α) : Except (Int × Nat) (List α) → Except (Int × Nat) (List α)
  | .error e => .error e
  | .ok l => .ok (pre ++ l)
theorem andL_nil {α : Type} (p : Except (Int × Nat) (List α)) : andL [] p = p := by cases p <;> rfl
theorem thrI_step {xs : List Int} {r s k : Int} {j a : Nat} {x : Ins} {pre : List Ins} (h : insP xs a r s k = .ok x) : andL pre (thrI xs r s k (j + 1) a) = andL (pre ++ [x]) (thrI xs r s k j (a + 12)) := by
  rw [thrI, h]
  simp only
  cases thrI xs r s k j (a + 12) with
  | error e => rfl
  | ok l => simp [andL]
theorem thrI_stop {xs : List Int} {r s k : Int} {j a : Nat} {err : Int × Nat} {pre : List Ins} (h : insP xs a r s k = .error err) : andL pre (thrI xs r s k (j + 1) a) = .error err := by
  rw [thrI, h]
  rfl
theorem thrI_len {xs : List Int} {r s k : Int} : ∀ {j a : Nat} {l : List Ins}, thrI xs r s k j a = .ok l → l.length = j
  | 0, a, l, h => by
    rw [thrI] at h
    injection h with h
    subst h
    rfl
  | j + 1, a, l, h => by
    rw [thrI] at h
    split at h
    · cases h
    · split at h
      · cases h
      · rename_i h2
        injection h with h
        subst h
        rw [List.length_cons, thrI_len h2]

def ins0 : Ins := ⟨0, 0, 0, 0, 0⟩
theorem flat5_zero : ∀ (n : Nat), flat5 (List.replicate n ins0) = List.replicate (n * 5) (.int .i64 0)
  | 0 => rfl
  | n + 1 => by
    have e : (n + 1) * 5 = n * 5 + 5 := by omega
    have ih := flat5_zero n
    unfold flat5 at *
    rw [List.replicate_succ, List.flatMap_cons, ih, e]
    simp [ins0, List.replicate_succ]
theorem made_zero (n : Nat) : (madeCells (Value.agg #[.int .i64 0, .int .i64 0, .int .i64 0, .int .i64 0, .int .i64 0]).cells (n * 5)).toList = flat5 (List.replicate n ins0) := by
  rw [flat5_zero]
  apply List.ext_getElem?
  intro j
  by_cases hj : j < n * 5
  · have hm : j % 5 = 0 ∨ j % 5 = 1 ∨ j % 5 = 2 ∨ j % 5 = 3 ∨ j % 5 = 4 := by omega
    rcases hm with h | h | h | h | h <;> simp [madeCells, hj, Value.cells, h]
  · simp [madeCells, hj, Value.cells]

theorem flat5_cons (y : Ins) (t : List Ins) : flat5 (y :: t) = .int .i64 y.o :: .int .i64 y.a :: .int .i64 y.b :: .int .i64 y.c :: .int .i64 y.n :: flat5 t := by simp [flat5]
theorem flat5_set : ∀ (ys : List Ins) (i : Nat) (x : Ins), i < ys.length →
    (((((flat5 ys).set (i * 5) (.int .i64 x.o)).set (i * 5 + 1) (.int .i64 x.a)).set (i * 5 + 1 + 1) (.int .i64 x.b)).set (i * 5 + 1 + 1 + 1) (.int .i64 x.c)).set (i * 5 + 1 + 1 + 1 + 1) (.int .i64 x.n) = flat5 (ys.set i x)
  | [], i, x, h => absurd h (by simp)
  | y :: t, 0, x, _ => by
    rw [show (y :: t).set 0 x = x :: t from rfl, flat5_cons, flat5_cons]
    rfl
  | y :: t, i + 1, x, h => by
    have e : (i + 1) * 5 = i * 5 + 1 + 1 + 1 + 1 + 1 := by omega
    rw [show (y :: t).set (i + 1) x = y :: t.set i x from rfl, flat5_cons, flat5_cons, e]
    simp only [List.set_cons_succ]
    rw [flat5_set t i x (by simpa using h)]
/-- The row with one instruction stored. -/
def five5 (x : Ins) : List Value := [.int .i64 x.o, .int .i64 x.a, .int .i64 x.b, .int .i64 x.c, .int .i64 x.n]
theorem own_set5 {w : World} {base g n cap i : Nat} {ys : List Ins} {x : Ins} (h : w.ownsRow base 45 5 (.slice (some ⟨g, 0, none⟩) n cap) n (flat5 ys)) (hi : i < ys.length) :
    (w.setCells g (i * 5) (five5 x)).ownsRow base 45 5 (.slice (some ⟨g, 0, none⟩) n cap) n (flat5 (ys.set i x)) := by
  rw [← flat5_set ys i x hi]
  exact ((((((h.stored (i * 5) (.int .i64 x.o)).1.stored (i * 5 + 1) (.int .i64 x.a)).1.stored (i * 5 + 1 + 1) (.int .i64 x.b)).1.stored (i * 5 + 1 + 1 + 1) (.int .i64 x.c)).1.stored (i * 5 + 1 + 1 + 1 + 1) (.int .i64 x.n)).1)
theorem heap_cells (w : World) (g k : Nat) (hk : k ≠ g) : ∀ (vs : List Value) (o : Nat), (w.setCells g o vs).heap[k]? = w.heap[k]? := by
  intro vs
  induction vs generalizing w with
  | nil => intro o; rfl
  | cons v r ih => intro o; rw [World.setCells, ih, heap_set w g o k v hk]
theorem size_cells (w : World) (g : Nat) : ∀ (vs : List Value) (o : Nat), (w.setCells g o vs).heap.size = w.heap.size := by
  intro vs
  induction vs generalizing w with
  | nil => intro o; rfl
  | cons v r ih => intro o; rw [World.setCells, ih]; simp [World.setCell]
theorem cells_same (w : World) (g : Nat) : ∀ (vs : List Value) (o : Nat), (w.setCells g o vs).os = w.os ∧ (w.setCells g o vs).tape = w.tape ∧ (w.setCells g o vs).output = w.output := by
  intro vs
  induction vs generalizing w with
  | nil => intro o; exact ⟨rfl, rfl, rfl⟩
  | cons v r ih => intro o; rw [World.setCells]; exact ih _ _
theorem own_there {w : World} {base g n cap i : Nat} {ys : List Ins} (h : w.ownsRow base 45 5 (.slice (some ⟨g, 0, none⟩) n cap) n (flat5 ys)) (hi : i < n) : w.there g (i * 5) 5 := fun j hj => by
  refine ⟨?_, h.frozenAt _⟩
  have hl := h.1
  rw [h.cellAt (i * 5 + j) (by omega), List.getElem?_eq_getElem (by omega)]
  rfl
theorem ins_size (x : Ins) : (Tryd.prog.info? 45).map (·.size) = some (#[.int .i64 x.o, .int .i64 x.a, .int .i64 x.b, .int .i64 x.c, .int .i64 x.n] : Array Value).size := by
  rw [size45]
  rfl
theorem ins_ones (x : Ins) : (#[.int .i64 x.o, .int .i64 x.a, .int .i64 x.b, .int .i64 x.c, .int .i64 x.n] : Array Value).all (·.oneCell') = true := by simp [Value.oneCell']
theorem five5_size (x : Ins) : (Tryd.prog.info? 45).map (·.size) = some (five5 x).toArray.size := by
  rw [size45]
  rfl
theorem five5_one (x : Ins) : (five5 x).toArray.all (·.oneCell') = true := by simp [five5, Value.oneCell']
theorem Two.cells {w w1 : World} {g h i : Nat} (t : Two w w1 g h) (vs : List Value) : Two w (w1.setCells h i vs) g h := by
  obtain ⟨e1, e2, e3⟩ := cells_same w1 h vs i
  exact ⟨e1.trans t.os, e2.trans t.tape, e3.trans t.output, by rw [size_cells]; exact t.size, fun k hk hg hh => (heap_cells w1 h k hh vs i).trans (t.block k hk hg hh)⟩
end Go.Proofs.YtcbekkbhhepeaaaDoor
