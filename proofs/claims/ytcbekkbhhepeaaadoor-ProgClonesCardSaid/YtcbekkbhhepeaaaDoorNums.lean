/- A program's octets; the contract of putNumbers. Conditions: at most 2000 octets. -/
import Derived.Test.YtcbekkbhhepeaaaDoorRefProg
import Derived.Laws.OwnMore
namespace Go.Proofs.YtcbekkbhhepeaaaDoor
open Go.RowKit

/-- The octets of an instruction, of a thread's code, of all of it, of a program. -/
def octI (x : Ins) : List Int := five x.o x.a x.b x.c x.n
def octT (xs : List Ins) : List Int := dig xs.length 0 :: xs.flatMap octI
def octM (xss : List (List Ins)) : List Int := xss.flatMap octT
def octH (r c s n : Int) : List Int := [dig 83 0, dig r 0, dig c 0, dig s 0, dig n 0]
def octP (r c s : Int) (xss : List (List Ins)) : List Int := octH r c s xss.length ++ octM xss
theorem octI_len (x : Ins) : (octI x).length = 12 := rfl
theorem octT_len : ∀ (xs : List Ins), (xs.flatMap octI).length = 12 * xs.length
  | [] => rfl
  | x :: t => by rw [List.flatMap_cons, List.length_append, octT_len t, octI_len, List.length_cons]; omega
theorem flat_small {α : Type} {f : α → List Int} (hf : ∀ x, Small (f x)) : ∀ (l : List α), Small (l.flatMap f)
  | [] => fun x hx => by cases hx
  | a :: t => by rw [List.flatMap_cons]; exact (hf a).app (flat_small hf t)
theorem octI_small (x : Ins) : Small (octI x) := five_small _ _ _ _ _
theorem octT_small (xs : List Ins) : Small (octT xs) := by
  intro y hy
  rcases List.mem_cons.1 hy with rfl | hy
  · exact dig_in _ _
  · exact flat_small octI_small xs y hy
theorem octM_small (xss : List (List Ins)) : Small (octM xss) := flat_small octT_small xss
theorem octH_small (r c s n : Int) : Small (octH r c s n) := by
  intro y hy
  simp only [octH, List.mem_cons, List.not_mem_nil, or_false] at hy
  rcases hy with rfl | rfl | rfl | rfl | rfl <;> exact dig_in _ _
theorem octP_small (r c s : Int) (xss : List (List Ins)) : Small (octP r c s xss) := (octH_small _ _ _ _).app (octM_small xss)
/-- How many octets. -/
def sizeM : List (List Ins) → Nat
  | [] => 0
  | xs :: t => (1 + 12 * xs.length) + sizeM t
theorem octM_len : ∀ (xss : List (List Ins)), (octM xss).length = sizeM xss
  | [] => rfl
  | xs :: t => by
    unfold octM
    rw [List.flatMap_cons, List.length_append]
    have := octM_len t
    unfold octM at this
    rw [this, sizeM, octT, List.length_cons, octT_len]
    omega
theorem octP_len (r c s : Int) (xss : List (List Ins)) : (octP r c s xss).length = 5 + sizeM xss := by
  rw [octP, List.length_append, octM_len]
  rfl
theorem sizeM_le (k : Nat) : ∀ (xss : List (List Ins)), (∀ xs ∈ xss, xs.length ≤ k) → sizeM xss ≤ (1 + 12 * k) * xss.length
  | [], _ => by simp [sizeM]
  | xs :: t, h => by
    have h1 := h xs (by simp)
    have h2 := sizeM_le k t fun y hy => h y (List.mem_cons_of_mem _ hy)
    rw [sizeM, List.length_cons, Nat.mul_succ]
    have : 12 * xs.length ≤ 12 * k := by omega
    omega
theorem sizeM_app : ∀ (l m : List (List Ins)), sizeM (l ++ m) = sizeM l + sizeM m
  | [], m => by simp [sizeM]
  | x :: t, m => by
    rw [List.cons_append, sizeM, sizeM, sizeM_app t m]
    omega
theorem sizeM_take (l : List (List Ins)) (k : Nat) : sizeM (l.take k) ≤ sizeM l := by
  have h := congrArg sizeM (List.take_append_drop k l)
  rw [sizeM_app] at h
  omega

theorem take_snoc {α : Type} {l : List α} {i : Nat} {x : α} (h : l[i]? = some x) : l.take (i + 1) = l.take i ++ [x] := by
  rw [List.take_add_one, h]
  rfl

/-- Numbers, one octet each. -/
def small8 (ns : List Int) : List Int := ns.map fun n => dig n 0
theorem digs_one (n : Int) : digs n 1 = [dig n 0] := rfl

set_option maxRecDepth 100000 in
set_option maxHeartbeats 1000000 in
theorem numbers_any (xs ns : List Int) (A : Option Addr) (n cap g m : Nat) (w : World) (h : Oct w w.heap.size A n cap xs) (hm : ns.length = m) (h1 : 1 ≤ m) (hnm : n + m ≤ 2000)
    (hc : ∀ i x, ns[i]? = some x → w.cell? ⟨g, i, none⟩ = some (.int .i64 x)) (hg : g < w.heap.size) :
    Calls Tryd.prog 21 #[.slice A n cap, .slice (some ⟨g, 0, none⟩) m m] w (Gives (xs ++ small8 ns) w) := by
  have hl := Lib.hid h.len
  have HM := Lib.hid hm
  clear hm
  have m1 : (m : Int) ≤ 2000 := by omega
  go_enter Tryd.func21, Tryd.ntmps21
  go_wp2
  go_loopw [0, 9] (fun v i wr => ∃ k : Nat, i = .int .i64 k ∧ k ≤ m ∧ ∃ A' cap', v = .slice A' (n + k) cap' ∧ Oct wr wr.heap.size A' (n + k) cap' (xs ++ small8 (ns.take k)) ∧ Below w.heap.size w wr ∧ (1 ≤ k → wr.ownsRow w.heap.size 5 1 v (n + k) (nums (xs ++ small8 (ns.take k))))) (fun _ i _ => m - (intOf i).toNat)
  case atStart => exact ⟨0, rfl, Nat.zero_le _, A, cap, rfl, by simpa [small8] using h, Below.refl _ _, fun h => absurd h (by omega)⟩
  case round =>
    obtain ⟨k, rfl, hk, A', cap', rfl, ho, hb, hown⟩ := hrel
    by_cases hlt : k < m
    · have t0 : decide ((k : Int) < (m : Int)) = true := decide_eq_true (by omega)
      have i0 : (0 : Int) ≤ (k : Int) := by omega
      have i1 : (k : Int) < (m : Int) := by omega
      have hx : ns[k]? = some (ns[k]'(by rw [HM.out]; exact hlt)) := List.getElem?_eq_getElem _
      generalize ns[k]'(by rw [HM.out]; exact hlt) = x at hx
      have c0 : wr.cell? ⟨g, k, none⟩ = some (.int .i64 x) := (hb.cell hg).trans (hc k x hx)
      have hP := put_yes _ A' (n + k) cap' x 1 wr ho (by omega) (by omega) (by omega)
      have hE : (xs ++ small8 (ns.take k)) ++ digs x 1 = xs ++ small8 (ns.take (k + 1)) := by
        rw [take_snoc hx, digs_one]
        simp [small8]
      rw [hE] at hP
      clear hE hown ho hx hc h
      obtain ⟨N, hN⟩ : ∃ N, n + k = N := ⟨_, rfl⟩
      rw [hN] at hP ⊢
      have HN := Lib.hid hN
      clear hN
      go_wp2_with fail
      refine hP.mono ?_
      rintro e w1 ⟨A1, n1, cap1, rfl, ho1, hb1, hown1⟩
      have hn1 := ho1.len
      obtain rfl : n1 = n + (k + 1) := by
        rw [← hn1, List.length_append, hl.out]
        simp [small8, HM.out]
        omega
      have hb2 := hb.trans (hb1.mono hb.size)
      have hown2 := own_mono hown1 hb.size
      clear hP hn1 hown1 hb1 c0
      have HQ : Hid (Oct w1 w1.heap.size A1 (n + (k + 1)) cap1 (xs ++ small8 (ns.take (k + 1))) ∧ Below w.heap.size w w1 ∧ w1.ownsRow w.heap.size 5 1 (.slice A1 (n + (k + 1)) cap1) (n + (k + 1)) (nums (xs ++ small8 (ns.take (k + 1))))) := Lib.hid ⟨ho1, hb2, hown2⟩
      clear ho1 hb2 hown2
      go_wp2
      go_roundw
      case rel => exact ⟨k + 1, by go_num, by omega, A1, cap1, rfl, HQ.out.1, HQ.out.2.1, fun _ => HQ.out.2.2⟩
      case measure => simp [intOf]; omega
    · have t0 : decide ((k : Int) < (m : Int)) = false := decide_eq_false (by omega)
      obtain rfl : k = m := by omega
      have e : ns.take k = ns := List.take_of_length_le (by rw [HM.out]; exact Nat.le_refl _)
      rw [e] at ho hown
      have hown' := hown h1
      clear hown e
      go_wp2
      go_ret
      exact ⟨A', _, cap', rfl, ho, hb, hown'⟩
end Go.Proofs.YtcbekkbhhepeaaaDoor
