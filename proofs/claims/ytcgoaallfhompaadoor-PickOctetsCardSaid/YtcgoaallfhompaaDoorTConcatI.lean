/- Lists of numbers behind one another, in a list of the call's own. Conditions: at most ten lists, and room for all. -/
import Derived.Test.YtcgoaallfhompaaDoorTBase
import Derived.OwnWalk
import Derived.Lib.AppendZeros
namespace Go.Proofs.YtcgoaallfhompaaDoor.T
set_option linter.unusedSimpArgs false
set_option linter.unusedVariables false
open Go.RowKit Go.ChangeShapes Go.WideShapes
/-- A slice value. -/
structure _root_.Go.Proofs.YtcgoaallfhompaaDoor.Sl where
  A : Option Addr
  n : Nat
  cap : Nat
def _root_.Go.Proofs.YtcgoaallfhompaaDoor.Sl.v (s : Sl) : Value := .slice s.A s.n s.cap
theorem _root_.Go.Proofs.YtcgoaallfhompaaDoor.int1_one (x : Int) : ∀ v ∈ int1 x, v.oneCell' = true := by
  intro v h
  simp [int1] at h
  subst h
  rfl
theorem _root_.Go.Proofs.YtcgoaallfhompaaDoor.under_Lint64 : Tryd.prog.underlying 28 = some (.slice (Tryd.prog.elem 28)) := by kernel_rfl
theorem _root_.Go.Proofs.YtcgoaallfhompaaDoor.under_Lint64' : Tryd.prog.underlying 28 = some (.slice 3) := by kernel_rfl
theorem _root_.Go.Proofs.YtcgoaallfhompaaDoor.sizeE_Lint64 (w : World) : (sizeOf (Tryd.prog.elem 28)).run Tryd.prog w = .ok 1 w := by kernel_rfl
theorem _root_.Go.Proofs.YtcgoaallfhompaaDoor.upto_Lint64 (A : Option Addr) (n cap k : Nat) (hk : k ≤ cap) (hA : A = none → cap = 0) (w : World) :
    (Instr.slice 28 (.slice A n cap) none (some (.int .i64 (k : Int))) none).run Tryd.prog w = .ok (.slice A k cap) w := by
  rw [run_slice_h w 28 _ n cap under_Lint64 .i64 _ (by omega) (by omega), sizeE_Lint64]
  simp only [Result.andThen, sliced, Int.toNat_natCast, Nat.sub_zero, Nat.zero_mul]
  rcases A with _ | ad
  · have := hA rfl
    subst this
    obtain rfl : k = 0 := by omega
    rfl
  · split <;> simp [Addr.add]
set_option maxRecDepth 100000 in
theorem _root_.Go.Proofs.YtcgoaallfhompaaDoor.growI_zero (w : World) : Calls Tryd.prog 29 #[.slice none 0 0, .int .i64 0] w fun e w' => e = .returned (.slice none 0 0) ∧ w = w' := by
  go_enter Tryd.func29, Tryd.ntmps29
  go_wp2
  go_ret
  exact ⟨rfl, rfl⟩
set_option maxRecDepth 100000 in
set_option maxHeartbeats 1000000 in
theorem _root_.Go.Proofs.YtcgoaallfhompaaDoor.growI_some (n : Nat) (h0 : 0 < n) (hn : n * 8 ≤ 140737488355328) (w : World) : Calls Tryd.prog 29 #[.slice none 0 0, .int .i64 (n : Int)] w fun e w' =>
    ∃ cap, e = .returned (.slice (some ⟨w.heap.size, 0, none⟩) 0 cap) ∧ w'.ownsRow w.heap.size 3 1 (.slice (some ⟨w.heap.size, 0, none⟩) 0 cap) 0 [] ∧ Below w.heap.size w w' := by
  obtain ⟨i, hi, hz, hs, hb⟩ : ∃ (i : TypeInfo), Tryd.prog.info? 3 = some i ∧ i.zero = some (.int .i64 0) ∧ i.size = 1 ∧ i.bytes = 8 := by
    have h := info3
    cases e : Tryd.prog.info? 3 with
    | none => rw [e] at h; simp at h
    | some i =>
      rw [e] at h
      simp only [Option.map_some, Option.some.injEq, Prod.mk.injEq] at h
      exact ⟨i, rfl, h.1, h.2.1, h.2.2⟩
  have hrun := fun ty => Lib.run_append_nil_zeros (P := Tryd.prog) w 28 3 ty 3 i _ .i64 .i64 under_Lint64' Tryd.underlying3 hi hz n h0 (by omega) (by omega) (by rw [hb]; omega)
  obtain ⟨cp, ecp⟩ : ∃ cp, cp = grownCap w n 0 3 := ⟨_, rfl⟩
  rw [← ecp] at hrun
  have hge : n ≤ cp := by rw [ecp]; exact grownCap_ge w n 0 3
  have hle : cp ≤ maxLen := by rw [ecp]; exact grownCap_le_maxLen w n 0 3 (by unfold maxLen; omega)
  obtain ⟨cur, ecur⟩ : ∃ cur, cur = Builtin.zeroCells (Value.int .i64 0).cells n ++ Builtin.zeroCells (Value.int .i64 0).cells (cp - n) := ⟨_, rfl⟩
  rw [← ecur] at hrun
  have hcs : cur.size = cp * 1 := by
    rw [ecur, Array.size_append, size_zeroCells, size_zeroCells]
    show n * 1 + (cp - n) * 1 = cp * 1
    omega
  have hcut := upto_Lint64 (some ⟨w.heap.size, 0, none⟩) n cp 0 (Nat.zero_le _) (fun e => by cases e)
  have hnil : (Instr.slice 28 (.slice none 0 0) none (some (.int .i64 0)) none).run Tryd.prog w = .ok (.slice none 0 0) w := upto_Lint64 none 0 0 0 (Nat.le_refl _) (fun _ => rfl) w
  have t0 : decide ((n : Int) < 0) = false := decide_eq_false (by omega)
  have t1 : decide (0 < (n : Int)) = true := decide_eq_true (by omega)
  have hw : IntKind.i64.wrap (n : Int) = (n : Int) := by rw [IntKind.wrap_i64]; omega
  have hfin : (w.drew.alloc (.cells cur 3)).ownsRow w.heap.size 3 1 (.slice (some ⟨w.heap.size, 0, none⟩) 0 cp) 0 [] ∧ Below w.heap.size w (w.drew.alloc (.cells cur 3)) :=
    ⟨⟨rfl, .inr ⟨w.heap.size, cp, cur, rfl, Nat.le_refl _, heap_alloc_new w.drew _, Nat.zero_le _, hle, hcs, by simp⟩⟩, (Below.refl _ w).drew.alloc (Nat.le_refl _) _⟩
  have HF := Lib.hid hfin
  clear hfin hcs ecur hle hge ecp hi hz hs hb
  go_enter Tryd.func29, Tryd.ntmps29
  go_wp2_with (at_builtin; refine Lib.wpList_append_run _ rfl _ _ _ _ rfl _ _ rfl rfl _ _ (hrun _) ?_)
  go_ret
  exact ⟨cp, rfl, HF.out⟩
theorem _root_.Go.Proofs.YtcgoaallfhompaaDoor.growI_any (n : Nat) (hn : n * 8 ≤ 140737488355328) (w : World) : Calls Tryd.prog 29 #[.slice none 0 0, .int .i64 (n : Int)] w fun e w' =>
    ∃ A cap, e = .returned (.slice A 0 cap) ∧ w'.ownsRow w.heap.size 3 1 (.slice A 0 cap) 0 (ints []) ∧ Below w.heap.size w w' := by
  by_cases h : n = 0
  · subst h
    refine (growI_zero w).mono ?_
    rintro e w' ⟨rfl, rfl⟩
    exact ⟨none, 0, rfl, ⟨rfl, .inl ⟨rfl, rfl⟩⟩, Below.refl _ _⟩
  · refine (growI_some n (by omega) hn w).mono ?_
    rintro e w' ⟨cap, rfl, h1, h2⟩
    exact ⟨_, cap, rfl, h1, h2⟩
/-- Some slices side by side in a block, each with what it reads as. -/
structure _root_.Go.Proofs.YtcgoaallfhompaaDoor.HeadI (w : World) (g : Nat) (H : List (Sl × List Int)) : Prop where
  blk : Blk w g 28 (H.map fun h => h.1.v).toArray
  all : ∀ h ∈ H, SeesI w h.1.A h.1.n h.1.cap h.2
theorem _root_.Go.Proofs.YtcgoaallfhompaaDoor.HeadI.on {w w' : World} {g : Nat} {H : List (Sl × List Int)} (h : HeadI w g H) (hb : Below w.heap.size w w') : HeadI w' g H := ⟨h.blk.on hb, fun x hx => (h.all x hx).on hb⟩
theorem _root_.Go.Proofs.YtcgoaallfhompaaDoor.HeadI.cell {w : World} {g : Nat} {H : List (Sl × List Int)} (h : HeadI w g H) {k : Nat} {s : Sl} {l : List Int} (hk : H[k]? = some (s, l)) : w.cell? ⟨g, k, none⟩ = some (.slice s.A s.n s.cap) := by
  rw [h.blk.cell]
  simp [hk]
  rfl
/-- All places of the first so many. -/
def _root_.Go.Proofs.YtcgoaallfhompaaDoor.catI (H : List (Sl × List Int)) (k : Nat) : List Int := (H.take k).flatMap (·.2)
theorem _root_.Go.Proofs.YtcgoaallfhompaaDoor.catI_succ {H : List (Sl × List Int)} {k : Nat} {s : Sl} {l : List Int} (hk : H[k]? = some (s, l)) : catI H (k + 1) = catI H k ++ l := by
  unfold catI
  rw [List.take_add_one, hk, List.flatMap_append]
  simp
theorem _root_.Go.Proofs.YtcgoaallfhompaaDoor.catI_all (H : List (Sl × List Int)) : catI H H.length = H.flatMap (·.2) := by
  unfold catI
  rw [List.take_length]
theorem _root_.Go.Proofs.YtcgoaallfhompaaDoor.catI_le (H : List (Sl × List Int)) (k : Nat) : (catI H k).length ≤ (H.flatMap (·.2)).length := by
  unfold catI
  conv => rhs; rw [← List.take_append_drop k H, List.flatMap_append, List.length_append]
  omega
theorem _root_.Go.Proofs.YtcgoaallfhompaaDoor.ints_len (l : List Int) : (ints l).length = l.length * 1 := flat_len int1_len l
theorem _root_.Go.Proofs.YtcgoaallfhompaaDoor.ints_app (a b : List Int) : ints (a ++ b) = ints a ++ ints b := List.flatMap_append
theorem _root_.Go.Proofs.YtcgoaallfhompaaDoor.lenI_own {w : World} {B n cap : Nat} {A : Option Addr} {l : List Int} (h : w.ownsRow B 3 1 (.slice A n cap) n (ints l)) : l.length = n := by
  have := h.1
  rw [ints_len] at this
  omega
set_option maxRecDepth 100000 in
set_option maxHeartbeats 2000000 in
theorem _root_.Go.Proofs.YtcgoaallfhompaaDoor.concatI_any {w : World} {g : Nat} {H : List (Sl × List Int)} {L : List Int} (h : HeadI w g H) (hL : H.flatMap (·.2) = L) (hn : L.length * 8 ≤ 140737488355328) (hm : H.length ≤ 10) :
    Calls Tryd.prog 21 #[.slice (some ⟨g, 0, none⟩) H.length H.length] w fun e w' => ∃ A cap, e = .returned (.slice A L.length cap) ∧ w'.ownsRow w.heap.size 3 1 (.slice A L.length cap) L.length (ints L) ∧ Below w.heap.size w w' := by
  obtain ⟨m, em⟩ : ∃ m, m = H.length := ⟨_, rfl⟩
  rw [← em]
  have hall : catI H m = L := by rw [em, catI_all, hL]
  have hle : ∀ k, (catI H k).length ≤ L.length := fun k => by rw [← hL]; exact catI_le H k
  obtain ⟨i0, hi, hz0, hz1, hz2⟩ : ∃ (i : TypeInfo), Tryd.prog.info? 3 = some i ∧ i.zero = some (.int .i64 0) ∧ i.size = 1 ∧ i.bytes = 8 := by
    have h := info3
    cases e : Tryd.prog.info? 3 with
    | none => rw [e] at h; simp at h
    | some i =>
      rw [e] at h
      simp only [Option.map_some, Option.some.injEq, Prod.mk.injEq] at h
      exact ⟨i, rfl, h.1, h.2.1, h.2.2⟩
  have HM := Lib.hid em
  have HL := Lib.hid hL
  rw [← em] at hm
  have hnL : (0 : Int) ≤ L.length := by omega
  clear em hL
  go_enter Tryd.func21, Tryd.ntmps21
  go_wp2_with fail
  go_loop [3, 5, 11] (fun v _ i => ∃ k : Nat, i = .int .i64 k ∧ k ≤ m ∧ v = .int .i64 ((catI H k).length : Int)) (fun _ _ i => m - (intOf i).toNat)
  case atStart => exact ⟨0, rfl, Nat.zero_le _, rfl⟩
  case round =>
    obtain ⟨k, rfl, hk, rfl⟩ := hrel
    by_cases hlt : k < m
    · obtain ⟨⟨s, l⟩, hs⟩ : ∃ x, H[k]? = some x := ⟨_, List.getElem?_eq_getElem (by rw [← HM.out]; exact hlt)⟩
      have t0 : decide ((k : Int) < (m : Int)) = true := decide_eq_true (by omega)
      have c0 := h.cell hs
      have hl : l.length = s.n := (h.all _ (List.mem_of_getElem? hs)).len
      have hnx : (catI H (k + 1)).length = (catI H k).length + s.n := by rw [catI_succ hs, List.length_append, hl]
      have hb := hle (k + 1)
      have HX := Lib.hid hnx
      obtain ⟨q, eq⟩ : ∃ q, q = (catI H k).length := ⟨_, rfl⟩
      rw [← eq] at hnx ⊢
      have t1 : decide (((q + s.n : Nat) : Int) < 0) = false := decide_eq_false (by omega)
      have hw : IntKind.i64.wrap ((q : Int) + (s.n : Int)) = ((q + s.n : Nat) : Int) := by rw [IntKind.wrap_i64]; omega
      have hk1 : IntKind.i64.wrap ((k : Int) + 1) = ((k + 1 : Nat) : Int) := by rw [IntKind.wrap_i64]; omega
      have b0 : (0 : Int) ≤ (k : Int) := by omega
      have b1 : (k : Int) < (m : Int) := by omega
      have HQ := Lib.hid (And.intro eq (And.intro hs hl))
      clear hnx hs hl eq
      obtain ⟨sA, sn, sc⟩ := s
      go_wp2
      go_round
      case rel => exact ⟨k + 1, by simp, by omega, by rw [HX.out, ← HQ.out.1, Int.natCast_add]⟩
      case measure => simp [intOf]; omega
    · obtain rfl : k = m := by omega
      rw [hall]
      have t0 : decide ((k : Int) < (k : Int)) = false := decide_eq_false (by omega)
      have hgr := fun W => growI_any L.length hn W
      obtain ⟨q, eq⟩ : ∃ q, q = L.length := ⟨_, rfl⟩
      rw [← eq] at hgr
      rw [← eq]
      have HQ := Lib.hid (And.intro eq (And.intro hle hall))
      rw [← eq] at hn
      clear eq hle hall hnL
      go_wp2_with (go_at_call 29; refine (hgr _).mono ?_; rintro e w1 ⟨A, cap, rfl, ho, hb⟩)
      go_loopw [6, 8, 27] (fun v _ i wr => ∃ (j : Nat) (A : Option Addr) (cap : Nat), i = .int .i64 j ∧ j ≤ k ∧ v = .slice A (catI H j).length cap ∧ wr.ownsRow w.heap.size 3 1 (.slice A (catI H j).length cap) (catI H j).length (ints (catI H j)) ∧ Below w.heap.size w wr) (fun _ _ i _ => k - (intOf i).toNat)
      case atStart => exact ⟨0, A, cap, rfl, Nat.zero_le _, rfl, ho, hb⟩
      case round =>
        obtain ⟨j, A1, cap1, rfl, hj, rfl, ho1, hb1⟩ := hrel
        clear ho hb
        by_cases hlt : j < k
        · obtain ⟨⟨s, l⟩, hs⟩ : ∃ x, H[j]? = some x := ⟨_, List.getElem?_eq_getElem (by rw [← HM.out]; exact hlt)⟩
          have h1 := h.on hb1
          have t0 : decide ((j : Int) < (k : Int)) = true := decide_eq_true (by omega)
          have c0 := h1.cell hs
          have hv : SeesI wr s.A s.n s.cap l := h1.all _ (List.mem_of_getElem? hs)
          have hl : l.length = s.n := hv.len
          have hnx : (catI H (j + 1)).length = (catI H j).length + s.n := by rw [catI_succ hs, List.length_append, hl]
          have hfl : ints (catI H (j + 1)) = ints (catI H j) ++ ints l := by rw [catI_succ hs, ints_app]
          have hb := HQ.out.2.1 (j + 1)
          have hqn : q * 8 ≤ 140737488355328 := hn
          have hpn : ((catI H j).length + s.n) * 8 ≤ 140737488355328 := by have := HQ.out.1; omega
          have b0 : (0 : Int) ≤ (j : Int) := by omega
          have b1 : (j : Int) < (k : Int) := by omega
          have hk1 : IntKind.i64.wrap ((j : Int) + 1) = ((j + 1 : Nat) : Int) := by rw [IntKind.wrap_i64]; omega
          have hnew := own_new ho1
          obtain ⟨sA, sn, sc⟩ := s
          have HX := Lib.hid (And.intro hnx (And.intro hfl (And.intro hs hl)))
          clear hnx hfl hs hl h1 hb
          simp only at c0 hpn
          go_wp2_with (at_builtin; refine wpList_app rfl _ _ 28 rfl w.heap.size 3 i0 (.int .i64 0) 1 8 Tryd.underlying28 hi hz0 hz1 hz2 rfl (by decide) A1 (catI H j).length cap1 (ints (catI H j)) rfl ho1 sA sn sc (ints l) rfl hv (flat_one int1_one _) (by unfold maxLen; omega) (by omega) hb1.size ?_; intro A3 c3 w3 ho3 hg3 hl3; have hb3 := hb1.grown hg3 hb1.size (fun k e => hnew k ((own_lies A1 _ cap1 k).1 e)))
          go_roundw
          case rel => exact ⟨j + 1, A3, c3, by simp, by omega, by rw [HX.out.1], by rw [HX.out.1, HX.out.2.1]; exact ho3, hb3⟩
          case measure => simp [intOf]; omega
        · obtain rfl : j = k := by omega
          have hall := HQ.out.2.2
          rw [hall] at ho1 ⊢
          have eq := HQ.out.1
          rw [← eq] at ho1 ⊢
          have t0 : decide ((j : Int) < (j : Int)) = false := decide_eq_false (by omega)
          have HE := Lib.hid (And.intro eq ho1)
          clear hall eq ho1
          go_wp2
          go_ret
          obtain ⟨eq, ho1⟩ := HE.out
          rw [← eq]
          exact ⟨A1, cap1, rfl, ho1, hb1⟩
theorem _root_.Go.Proofs.YtcgoaallfhompaaDoor.headI_one {w W : World} {g : Nat} {A : Option Addr} {n cap : Nat} {l : List Int} (eg : w.heap.size = g) (eW : W = w.alloc (.cells #[.slice A n cap] 28)) (h : SeesI w A n cap l) : HeadI W g [(⟨A, n, cap⟩, l)] := by
  subst eg
  have hb1 : Below w.heap.size w W := by rw [eW]; exact (Below.refl _ w).alloc (Nat.le_refl _) _
  exact ⟨by rw [eW]; exact heap_alloc_new w _, fun x hx => by
    rw [List.mem_singleton] at hx
    subst hx
    exact h.on hb1⟩
theorem _root_.Go.Proofs.YtcgoaallfhompaaDoor.concatI_one {w : World} {g : Nat} {A : Option Addr} {n cap : Nat} {l : List Int} (h : HeadI w g [(⟨A, n, cap⟩, l)]) (hn : n * 8 ≤ 140737488355328) :
    Calls Tryd.prog 21 #[.slice (some ⟨g, 0, none⟩) 1 1] w fun e w' => ∃ A' c', e = .returned (.slice A' n c') ∧ w'.ownsRow w.heap.size 3 1 (.slice A' n c') n (ints l) ∧ Below w.heap.size w w' := by
  have hl : l.length = n := (h.all _ (List.mem_singleton.2 rfl)).len
  refine (concatI_any h (L := l) (by simp) (by omega) (by simp)).mono ?_
  rintro e w' ⟨A', c', rfl, ho, hb⟩
  rw [hl] at ho
  exact ⟨A', c', by rw [hl], ho, hb⟩
end Go.Proofs.YtcgoaallfhompaaDoor.T
