/- Of a program's places: which there are, that they rise, how many there are. Conditions: none. -/
import Derived.Test.YtlajjadpcaobiaaAll
import Derived.Deep.QuietTactic
namespace Go.Proofs.Ytlajjadpcaobiaa
open Go.RowKit Go.ChangeShapes Go.WideShapes

theorem mem_rowI {K : Int} {s : Sp} {i n : Nat} {x : Pl} : x ∈ rowI K s i n ↔ ∃ j : Nat, j < n ∧ x = ⟨K, s.f + (i : Int), (j : Int)⟩ := by
  unfold rowI
  simp only [List.mem_map, List.mem_range]
  exact ⟨fun ⟨j, h, e⟩ => ⟨j, h, e.symm⟩, fun ⟨j, h, e⟩ => ⟨j, h, e.symm⟩⟩
theorem mem_kindI {K : Int} {s : Sp} {n : Nat} {x : Pl} : x ∈ kindI K s n ↔ ∃ i : Nat, i < n ∧ ∃ j : Nat, j < s.p.toNat ∧ x = ⟨K, s.f + (i : Int), (j : Int)⟩ := by
  unfold kindI
  simp only [List.mem_flatMap, List.mem_range, mem_rowI]
theorem mem_allP {p : Pg} {x : Pl} : x ∈ allP p ↔ isP x p = true := by
  have h0 : x ∈ allP p ↔ ∃ k : Nat, k < 9 ∧ ∃ i : Nat, i < (spanP (k : Int) p).m.toNat ∧ ∃ j : Nat, j < (spanP (k : Int) p).p.toNat ∧ x = ⟨(k : Int), (spanP (k : Int) p).f + (i : Int), (j : Int)⟩ := by
    unfold allP kindsP
    simp only [List.mem_flatMap, List.mem_range, mem_kindI]
  rw [h0]
  unfold isP inB
  constructor
  · rintro ⟨k, _, i, hi, j, hj, rfl⟩
    simp only [Bool.and_eq_true, decide_eq_true_eq]
    clear h0
    generalize spanP (k : Int) p = S at *
    obtain ⟨f, m, q⟩ := S
    simp only at *
    omega
  · intro h
    simp only [Bool.and_eq_true, decide_eq_true_eq] at h
    obtain ⟨⟨h1, h2⟩, h3, h4⟩ := h
    have hk : 1 ≤ x.k ∧ x.k ≤ 8 := by
      by_cases hk : 1 ≤ x.k ∧ x.k ≤ 8
      · exact hk
      · rw [spanP_else x.k p hk] at h1 h2
        simp only at h1 h2
        omega
    obtain ⟨k, i, j⟩ := x
    simp only at *
    have ek : ((k.toNat : Nat) : Int) = k := by omega
    refine ⟨k.toNat, by omega, ?_⟩
    rw [ek]
    refine ⟨(i - (spanP k p).f).toNat, by omega, j.toNat, by omega, ?_⟩
    rw [show (spanP k p).f + (((i - (spanP k p).f).toNat : Nat) : Int) = i by omega, show ((j.toNat : Nat) : Int) = j by omega]
theorem kindI_many (K : Int) (s : Sp) : ∀ n, (kindI K s n).length = n * s.p.toNat
  | 0 => by simp [kindI]
  | n + 1 => by
    rw [kindI_succ, List.length_append, rowI_len, kindI_many K s n, Nat.add_mul, Nat.one_mul]
/-- How many places a program has. -/
def manyP (p : Pg) : Int := cl p.r 4 + 3 * cl p.c 6 + 2 + cl (p.n : Int) 4 * cl p.s 2 + 2 * cl (p.n : Int) 4
theorem allP_many (p : Pg) : ((allP p).length : Int) = manyP p := by
  have h1 := cl_of p.r 4 (by omega)
  have h2 := cl_of p.c 6 (by omega)
  have h3 := cl_of (p.n : Int) 4 (by omega)
  have h4 := cl_of p.s 2 (by omega)
  unfold allP manyP
  iterate 9 rw [kindsP_succ, List.length_append, kindI_many]
  rw [show (kindsP p 0).length = 0 from rfl]
  simp only [show spanP ((0 : Nat) : Int) p = ⟨0, 0, 0⟩ from rfl, show spanP ((1 : Nat) : Int) p = ⟨0, cl p.r 4, 1⟩ from rfl, show spanP ((2 : Nat) : Int) p = ⟨1, cl p.c 6, 1⟩ from rfl, show spanP ((3 : Nat) : Int) p = ⟨1, cl p.c 6, 2⟩ from rfl, show spanP ((4 : Nat) : Int) p = ⟨0, 1, 1⟩ from rfl, show spanP ((5 : Nat) : Int) p = ⟨0, cl p.n 4, cl p.s 2⟩ from rfl, show spanP ((6 : Nat) : Int) p = ⟨0, 1, 1⟩ from rfl, show spanP ((7 : Nat) : Int) p = ⟨0, cl p.n 4, 1⟩ from rfl, show spanP ((8 : Nat) : Int) p = ⟨0, cl p.n 4, 1⟩ from rfl]
  generalize cl p.r 4 = a at *
  generalize cl p.c 6 = b at *
  generalize cl (p.n : Int) 4 = c at *
  generalize cl p.s 2 = d at *
  obtain ⟨a', rfl⟩ : ∃ q : Nat, a = (q : Int) := ⟨a.toNat, by omega⟩
  obtain ⟨b', rfl⟩ : ∃ q : Nat, b = (q : Int) := ⟨b.toNat, by omega⟩
  obtain ⟨c', rfl⟩ : ∃ q : Nat, c = (q : Int) := ⟨c.toNat, by omega⟩
  obtain ⟨d', rfl⟩ : ∃ q : Nat, d = (q : Int) := ⟨d.toNat, by omega⟩
  simp only [Int.toNat_natCast]
  have e : ((c' * d' : Nat) : Int) = (c' : Int) * (d' : Int) := Int.natCast_mul c' d'
  generalize (c' : Int) * (d' : Int) = X at *
  generalize c' * d' = Y at *
  simp
  omega
end Go.Proofs.Ytlajjadpcaobiaa
