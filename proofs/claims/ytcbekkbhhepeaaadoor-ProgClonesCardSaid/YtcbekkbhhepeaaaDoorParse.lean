/- What a program's octets tell: the parser, plainly. Conditions: none. -/
import Derived.Test.YtcbekkbhhepeaaaDoorThrWalk
namespace Go.Proofs.YtcbekkbhhepeaaaDoor
open Go.RowKit

/-- A program. -/
structure Pr where
  r : Int
  c : Int
  s : Int
  m : List (List Ins)
/-- So many threads. -/
def thrs (xs : List Int) (r s : Int) : Nat → Nat → Except (Int × Nat) (List (List Ins))
  | 0, _ => .ok []
  | t + 1, a => match thrP xs a r s with
    | .error e => .error e
    | .ok l => match thrs xs r s t (a + (1 + 12 * l.length)) with
      | .error e => .error e
      | .ok ls => .ok (l :: ls)
def bodyP (xs : List Int) (r c s n : Int) : Except (Int × Nat) Pr :=
  match thrs xs r s n.toNat 5 with
  | .error e => .error e
  | .ok m => if 5 + sizeM m < xs.length then .error (1, 5 + sizeM m) else .ok ⟨r, c, s, m⟩
def getP (xs : List Int) : Except (Int × Nat) Pr :=
  match num1 xs 0 83 83 1 with
  | .error e => .error e
  | .ok _ => match num1 xs 1 0 4 3 with
    | .error e => .error e
    | .ok r => match num1 xs 2 0 6 3 with
      | .error e => .error e
      | .ok c => match num1 xs 3 0 2 3 with
        | .error e => .error e
        | .ok s => match num1 xs 4 1 4 4 with
          | .error e => .error e
          | .ok n => bodyP xs r c s n
theorem getP_0 {xs : List Int} {err : Int × Nat} (h0 : num1 xs 0 83 83 1 = .error err) : getP xs = .error err := by unfold getP; rw [h0]
theorem getP_1 {xs : List Int} {err : Int × Nat} {x : Int} (h0 : num1 xs 0 83 83 1 = .ok x) (h1 : num1 xs 1 0 4 3 = .error err) : getP xs = .error err := by unfold getP; rw [h0, h1]
theorem getP_2 {xs : List Int} {err : Int × Nat} {x r : Int} (h0 : num1 xs 0 83 83 1 = .ok x) (h1 : num1 xs 1 0 4 3 = .ok r) (h2 : num1 xs 2 0 6 3 = .error err) : getP xs = .error err := by unfold getP; simp only [h0, h1, h2]
theorem getP_3 {xs : List Int} {err : Int × Nat} {x r c : Int} (h0 : num1 xs 0 83 83 1 = .ok x) (h1 : num1 xs 1 0 4 3 = .ok r) (h2 : num1 xs 2 0 6 3 = .ok c) (h3 : num1 xs 3 0 2 3 = .error err) : getP xs = .error err := by unfold getP; simp only [h0, h1, h2, h3]
theorem getP_4 {xs : List Int} {err : Int × Nat} {x r c s : Int} (h0 : num1 xs 0 83 83 1 = .ok x) (h1 : num1 xs 1 0 4 3 = .ok r) (h2 : num1 xs 2 0 6 3 = .ok c) (h3 : num1 xs 3 0 2 3 = .ok s) (h4 : num1 xs 4 1 4 4 = .error err) : getP xs = .error err := by unfold getP; simp only [h0, h1, h2, h3, h4]
theorem getP_5 {xs : List Int} {x r c s n : Int} (h0 : num1 xs 0 83 83 1 = .ok x) (h1 : num1 xs 1 0 4 3 = .ok r) (h2 : num1 xs 2 0 6 3 = .ok c) (h3 : num1 xs 3 0 2 3 = .ok s) (h4 : num1 xs 4 1 4 4 = .ok n) : getP xs = bodyP xs r c s n := by unfold getP; simp only [h0, h1, h2, h3, h4]
theorem num1_in {xs : List Int} {i : Nat} {lo hi why n : Int} (h : num1 xs i lo hi why = .ok n) : lo ≤ n ∧ n ≤ hi ∧ xs[i]? = some n := by
  unfold num1 at h
  split at h
  · cases h
  · rename_i x hx
    split at h
    · rename_i hr
      injection h with h
      subst h
      exact ⟨hr.1, hr.2, hx⟩
    · cases h
theorem thrs_step {xs : List Int} {r s : Int} {t a : Nat} {l : List Ins} {pre : List (List Ins)} (h : thrP xs a r s = .ok l) : andL pre (thrs xs r s (t + 1) a) = andL (pre ++ [l]) (thrs xs r s t (a + (1 + 12 * l.length))) := by
  rw [thrs, h]
  simp only
  cases thrs xs r s t (a + (1 + 12 * l.length)) with
  | error e => rfl
  | ok ls => simp [andL]
theorem thrs_stop {xs : List Int} {r s : Int} {t a : Nat} {err : Int × Nat} {pre : List (List Ins)} (h : thrP xs a r s = .error err) : andL pre (thrs xs r s (t + 1) a) = .error err := by
  rw [thrs, h]
  rfl
theorem sizeM_snoc (pre : List (List Ins)) (l : List Ins) : sizeM (pre ++ [l]) = sizeM pre + (1 + 12 * l.length) := by
  rw [sizeM_app, sizeM, sizeM]
  omega
end Go.Proofs.YtcbekkbhhepeaaaDoor
