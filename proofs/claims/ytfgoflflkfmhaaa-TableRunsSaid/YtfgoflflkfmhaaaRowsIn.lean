/- How the law's Rows came in: a sum, a text and a sign each, in three cells; each text as long as memory bears. Conditions: none. -/
import Derived.Test.YtfgoflflkfmhaaaGets
import Derived.Deep.Slices
import Derived.Deep.Fields
import Derived.ChangeSame
import Derived.OpenShut
import Derived.SizedLaws
namespace Go.Proofs.Ytfgoflflkfmhaaa
open Go.RowKit Go.ChangeShapes Go.WideShapes Go.Deep

theorem cells29 : Try.prog.cellsOf 29 = 3 := by kernel_rfl
theorem cells27 : Try.prog.cellsOf 27 = 1 := by kernel_rfl
theorem cells9 : Try.prog.cellsOf 9 = 1 := by kernel_rfl
theorem cells4 : Try.prog.cellsOf 4 = 1 := by kernel_rfl

/-- The Rows that came in: row i is R i. -/
def IsRows (w : World) (A : Option Addr) (n cap : Nat) (R : Nat → Int × ByteArray × Bool) : Prop :=
  n ≤ cap ∧ cap ≤ maxLen ∧ ∀ i, i < n → Fits ((R i).1, (R i).2.1) ∧ ∃ b off, A = some ⟨b, off, none⟩ ∧ b < w.heap.size ∧
    w.cell? ⟨b, off + i * 3, none⟩ = some (.int .u64 (R i).1) ∧ w.cell? ⟨b, off + i * 3 + 1, none⟩ = some (.string (R i).2.1) ∧ w.cell? ⟨b, off + i * 3 + 2, none⟩ = some (.bool (R i).2.2)

theorem plain_add (b o j : Nat) : (⟨b, o, none⟩ : Addr).add j = ⟨b, o + j, none⟩ := by unfold Addr.add; split <;> simp_all

theorem weights_all {H : Type} {P : Program} {e : TypeId} {d : DataW H} {n : Nat} (hn : n ∈ d.weights P e) : ∀ {l : List (DataW H)}, d ∈ l → n ∈ DataW.weightsAll P e l
  | [], hd => by simp at hd
  | x :: r, hd => by
    unfold DataW.weightsAll
    rcases List.mem_cons.1 hd with rfl | hd
    · exact List.mem_append.2 (.inl hn)
    · exact List.mem_append.2 (.inr (weights_all hn hd))

theorem rows_in {H : Type} {enc : TypeId × Value → H} {w : World} {base : Nat} {spare : Nat → Bool} {held : Bool} {fuel : Nat} {A : Option Addr} {n c : Nat} {x : DataW H × List MemPlace}
    (h : DataW.trod enc Try.prog w base spare held fuel 22 [.slice A n c] = some x) (hsz : ∀ k ∈ x.1.weights Try.prog 22, k ≤ reachBytes) : ∃ R, IsRows w A n c R := by
  rcases open_slice Try.underlying22 h with ⟨hcs, _⟩ | ⟨a, len, cap, m, n', D, Pl, hcs, hb, hl, hm, hmm, hx, hi⟩
  · simp at hcs
    obtain ⟨rfl, rfl, rfl⟩ := hcs
    exact ⟨fun _ => (0, ByteArray.empty, false), Nat.le_refl _, Nat.zero_le _, fun i hi => absurd hi (Nat.not_lt_zero _)⟩
  · simp at hcs
    obtain ⟨rfl, rfl, rfl⟩ := hcs
    have hlm : n ≤ m := by rw [hmm]; split <;> omega
    have each : ∀ i, i < n → ∃ (p : Int × ByteArray × Bool), Fits (p.1, p.2.1) ∧ w.cell? (a.add (i * 3)) = some (.int .u64 p.1) ∧ w.cell? ((a.add (i * 3)).add 1) = some (.string p.2.1) ∧ w.cell? ((a.add (i * 3)).add 2) = some (.bool p.2.2) := by
      intro i hin
      obtain ⟨cs, hc, ht⟩ := hi i (by omega)
      rw [cells29] at hc
      obtain ⟨_, hcl, hat⟩ := World.cells?_some hc
      match cs, hcl with
      | [v0, v1, v2], _ =>
        obtain ⟨ys, k, _, hD, _, hyl, hf⟩ := DataW.trod_struct Try.underlying29 ht
        match ys, hyl with
        | [y0, y1, y2], _ =>
          have f0 : DataW.trod enc Try.prog w base spare held k 27 (([v0, v1, v2].drop 0).take (Try.prog.cellsOf 27)) = some y0 := hf 0 _ rfl
          have f1 : DataW.trod enc Try.prog w base spare held k 9 (([v0, v1, v2].drop 1).take (Try.prog.cellsOf 9)) = some y1 := hf 1 _ rfl
          have f2 : DataW.trod enc Try.prog w base spare held k 4 (([v0, v1, v2].drop 2).take (Try.prog.cellsOf 4)) = some y2 := hf 2 _ rfl
          rw [cells27] at f0
          rw [cells9] at f1
          rw [cells4] at f2
          obtain ⟨z, e0, _, wz⟩ := DataW.trod_int Try.underlying27 f0
          obtain ⟨s, e1, d1, _⟩ := DataW.trod_string Try.underlying9 f1
          obtain ⟨b, e2, _⟩ := DataW.trod_bool Try.underlying4 f2
          simp at e0 e1 e2
          subst e0 e1 e2
          have hlen : s.data.toList.length ≤ reachBytes := by
            refine hsz _ ?_
            rw [hx]
            have hDi : D i = .agg [y0.1, y1.1, y2.1] := by
              injection hD
            have h1 : s.data.toList.length ∈ (D i).weights Try.prog 29 := by
              rw [hDi, d1]
              unfold DataW.weights
              rw [Try.underlying29]
              exact DataW.weights_mem_each (j := 1) (t := 9) rfl rfl _ (by simp [DataW.weights])
            unfold DataW.weights
            rw [Try.underlying22]
            exact List.mem_cons_of_mem _ (List.mem_append.2 (.inl (weights_all h1 (List.mem_map.2 ⟨i, List.mem_range.2 hin, rfl⟩))))
          refine ⟨(z, s, b), ⟨wz, ?_⟩, by simpa [Addr.add] using hat 0 (by omega), by simpa using hat 1 (by omega), by simpa using hat 2 (by omega)⟩
          have e1 : s.size = s.data.toList.length := by rw [Array.length_toList]; rfl
          have e2 : reachBytes = 140737488351232 := rfl
          show s.size ≤ _
          omega
    obtain ⟨f, hf⟩ := choose_lt each
    refine ⟨f, hl, hm, fun i hin => ?_⟩
    obtain ⟨hF, h0, h1, h2⟩ := hf i hin
    obtain ⟨b, off, spot⟩ := a
    have hspot : spot = none := by simpa [Addr.add] using World.cell?_spot (hf 0 (by omega)).2.1
    subst hspot
    rw [plain_add] at h0 h1 h2
    rw [plain_add] at h1 h2
    exact ⟨hF, b, off, rfl, World.block_lt_of_cell? w _ h0, h0, h1, h2⟩
end Go.Proofs.Ytfgoflflkfmhaaa
