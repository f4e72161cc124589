/- Two lists of bagged cells of the call's own, side by side, held in an array; a bag parted by an epoch. Conditions: at most 1000 cells. -/
import Derived.Test.YtllcgidachbnlaaMarks
import Derived.Test.YtllcgidachbnlaaPair
import Derived.Deep.QuietTactic
namespace Go.Proofs.Ytllcgidachbnlaa
open Go.RowKit Go.ChangeShapes Go.WideShapes

/-- Both lists stand in an array. -/
structure Arr (B : Nat) (w0 w : World) (A1 : Option Addr) (n1 c1 : Nat) (A2 : Option Addr) (n2 c2 : Nat) (F K : List Bg) : Prop where
  box : Blk w B 90 #[.slice A1 n1 c1, .slice A2 n2 c2]
  both : Pair B w0 w A1 n1 c1 A2 n2 c2 F K
section
variable {B n1 c1 n2 c2 c3 : Nat} {w0 w w3 : World} {A1 A2 A3 : Option Addr} {F K : List Bg} {x : Bg}
theorem own_ne {n c : Nat} {A : Option Addr} {l : List Bg} {t : TypeId} {cs : Array Value} (h : w.ownsRow B 48 3 (.slice A n c) n (flatB l)) (hb : Blk w B t cs) (ht : 48 ≠ t) : ∀ g, (Value.slice A n c).ownBlock = some g → g ≠ B := fun g hg e => by
  subst e
  exact own_off (own_low h) hb ht ((own_lies A n c _).1 hg)
theorem own_set {n c i : Nat} {A : Option Addr} {l : List Bg} {cs : Array Value} {v : Value} (h : w.ownsRow B 48 3 (.slice A n c) n (flatB l)) (hb : Blk w B 90 cs) : (w.setCell ⟨B, i, none⟩ v).ownsRow B 48 3 (.slice A n c) n (flatB l) := by
  refine h.kept (row := some B) ((kept_cell w ⟨B, i, none⟩ v).grown (some B) (fun k hk => by rw [hk])) ?_
  cases hw : (Value.slice A n c).ownBlock with
  | none => exact .inl rfl
  | some g => exact .inr (fun e => own_ne h hb (by decide) g hw (by injection e))
theorem pair_set {cs : Array Value} {i : Nat} {v : Value} (h : Pair B w0 w A1 n1 c1 A2 n2 c2 F K) (hb : Blk w B 90 cs) : Pair B w0 (w.setCell ⟨B, i, none⟩ v) A1 n1 c1 A2 n2 c2 F K :=
  ⟨own_set h.f hb, own_set h.k hb, h.ne, h.below.trans ((kept_cell w ⟨B, i, none⟩ v).under B (Nat.le_of_lt hb.lt) (fun k hk => by rw [hk]; exact Nat.le_refl _))⟩
/-- The block of the array stands behind an append. -/
theorem box_on {n c : Nat} {A : Option Addr} {l : List Bg} {cs : Array Value} (h : w.ownsRow B 48 3 (.slice A n c) n (flatB l)) (hb : Blk w B 90 cs) (hg : w.grownBy w3 (Value.slice A n c).ownBlock) : Blk w3 B 90 cs :=
  blk_grown hb hg (fun e => own_ne h hb (by decide) B e.symm rfl)
theorem arr_left (h : Arr B w0 w A1 n1 c1 A2 n2 c2 F K) (ho : w3.ownsRow B 48 3 (.slice A3 (n1 + 1) c3) (n1 + 1) (flatB (F ++ [x]))) (hg : w.grownBy w3 (Value.slice A1 n1 c1).ownBlock) (hl : ∀ g, lies A3 g → lies A1 g ∨ w.heap.size ≤ g) :
    Arr B w0 (w3.setCell ⟨B, 0, none⟩ (.slice A3 (n1 + 1) c3)) A3 (n1 + 1) c3 A2 n2 c2 (F ++ [x]) K := by
  have hb := box_on h.both.f h.box hg
  exact ⟨blk_set hb 0 _, pair_set (h.both.symm.add ho hg hl (Nat.le_of_lt h.box.lt)).symm hb⟩
theorem arr_right (h : Arr B w0 w A1 n1 c1 A2 n2 c2 F K) (ho : w3.ownsRow B 48 3 (.slice A3 (n2 + 1) c3) (n2 + 1) (flatB (K ++ [x]))) (hg : w.grownBy w3 (Value.slice A2 n2 c2).ownBlock) (hl : ∀ g, lies A3 g → lies A2 g ∨ w.heap.size ≤ g) :
    Arr B w0 (w3.setCell ⟨B, 1, none⟩ (.slice A3 (n2 + 1) c3)) A1 n1 c1 A3 (n2 + 1) c3 F (K ++ [x]) := by
  have hb := box_on h.both.k h.box hg
  exact ⟨blk_set hb 1 _, pair_set (h.both.add ho hg hl (Nat.le_of_lt h.box.lt)) hb⟩
theorem Arr.on (h : Arr B w0 w A1 n1 c1 A2 n2 c2 F K) (hb : Below w.heap.size w w3) : Arr B w0 w3 A1 n1 c1 A2 n2 c2 F K := ⟨h.box.on hb, h.both.on (Nat.le_of_lt h.box.lt) hb⟩
end

/-- Those that may go, and those that stay. -/
def goL (l : List Bg) (e : Int) : List Bg := l.filter fun b => goB b.n e
def stayL (l : List Bg) (e : Int) : List Bg := l.filter fun b => !goB b.n e
theorem goL_len (l : List Bg) (e : Int) : (goL l e).length ≤ l.length := List.length_filter_le _ _
theorem stayL_len (l : List Bg) (e : Int) : (stayL l e).length ≤ l.length := List.length_filter_le _ _
theorem eparts_next {l : List Bg} {k : Nat} {x : Bg} (e : Int) (hx : l[k]? = some x) :
    (goB x.n e = true → goL (l.take (k + 1)) e = goL (l.take k) e ++ [x] ∧ stayL (l.take (k + 1)) e = stayL (l.take k) e) ∧
    (goB x.n e = false → goL (l.take (k + 1)) e = goL (l.take k) e ∧ stayL (l.take (k + 1)) e = stayL (l.take k) e ++ [x]) := by
  rw [take_next hx]
  unfold goL stayL
  constructor <;> intro h <;> simp [List.filter_append, h]
/-- With a later epoch no fewer go. -/
theorem goL_more (l : List Bg) {e e' : Int} (h : e ≤ e') : (goL l e).length ≤ (goL l e').length := by
  unfold goL
  induction l with
  | nil => exact Nat.le_refl _
  | cons x r ih =>
    rw [List.filter_cons, List.filter_cons]
    by_cases h1 : goB x.n e = true
    · have h2 : goB x.n e' = true := decide_eq_true (by have := of_decide_eq_true h1; omega)
      rw [if_pos h1, if_pos h2, List.length_cons, List.length_cons]
      omega
    · rw [if_neg h1]
      split
      · rw [List.length_cons]
        omega
      · exact ih

set_option maxRecDepth 100000 in
set_option maxHeartbeats 4000000 in
theorem esplit_any {w : World} {A : Option Addr} {n cap : Nat} {l : List Bg} {e : Int} (hS : SeesB w A n cap l) (hn : n ≤ 1000) (hW : ∀ b ∈ l, Wide b.n) (he : Wide e) :
    Calls Try.prog 46 #[.slice A n cap, .int .i64 e] w fun r w' => ∃ A1 c1 A2 c2, r = .returned (.tuple #[.slice A1 (goL l e).length c1, .slice A2 (stayL l e).length c2]) ∧
      w'.ownsRow w.heap.size 48 3 (.slice A1 (goL l e).length c1) (goL l e).length (flatB (goL l e)) ∧ w'.ownsRow w.heap.size 48 3 (.slice A2 (stayL l e).length c2) (stayL l e).length (flatB (stayL l e)) ∧ Below w.heap.size w w' := by
  have hl := hS.len
  obtain ⟨i0, hi, hz0, hz1, hz2⟩ := info_parts info48
  have hb0 : Below w.heap.size w (w.alloc (.cells #[.slice none 0 0, .slice none 0 0] 90)) := (Below.refl _ w).alloc (Nat.le_refl _) _
  have hA0 : Arr w.heap.size w (w.alloc (.cells #[.slice none 0 0, .slice none 0 0] 90)) none 0 0 none 0 0 [] [] :=
    ⟨heap_alloc_new w _, ⟨World.ownsRow_nil _ _ _ _, World.ownsRow_nil _ _ _ _, fun g h => (by cases h), hb0⟩⟩
  have HA := Lib.hid hA0
  have HK := Lib.hid (And.intro hS (And.intro hl hW))
  clear hS hl hW hA0 hb0
  go_enter Try.func46, Try.ntmps46
  go_wp2_with fail
  have hA0 := HA.out
  generalize w.alloc (.cells #[.slice none 0 0, .slice none 0 0] 90) = w1 at hA0 ⊢
  obtain ⟨B, eB⟩ : ∃ B, w.heap.size = B := ⟨_, rfl⟩
  rw [eB] at hA0 ⊢
  go_loopw [12] (fun i wr => ∃ k : Nat, k ≤ n ∧ i = .int .i64 (k : Int) ∧ ∃ A1 c1 A2 c2, Arr B w wr A1 (goL (l.take k) e).length c1 A2 (stayL (l.take k) e).length c2 (goL (l.take k) e) (stayL (l.take k) e)) (fun i _ => n - (intOf i).toNat)
  case atStart => exact ⟨0, Nat.zero_le _, rfl, none, 0, none, 0, hA0⟩
  case round =>
    clear hA0 HA
    obtain ⟨k, hk, rfl, A1, c1, A2, c2, hA⟩ := hrel
    obtain ⟨hS, hl, hW⟩ := HK.out
    rw [← eB] at hA
    have hSr := hS.on hA.both.below
    rw [eB] at hA
    by_cases hlt : k < n
    · obtain ⟨x, hx⟩ : ∃ x, l[k]? = some x := ⟨_, List.getElem?_eq_getElem (by omega)⟩
      obtain ⟨g, o, rfl, hr⟩ := hSr.at_ hx
      have hr' : wr.rangeAt g (o + k * 3) [.int .i64 x.c, .int .i64 x.g, .int .i64 x.n] := hr
      have hnx := eparts_next e hx
      have cp := part_any x.n e (hW x (List.mem_of_getElem? hx)) he
      have hsf : (goL (l.take k) e).length ≤ 1000 := Nat.le_trans (goL_len _ _) (by rw [List.length_take]; omega)
      have hsk : (stayL (l.take k) e).length ≤ 1000 := Nat.le_trans (stayL_len _ _) (by rw [List.length_take]; omega)
      have hkI : (k : Int) < (n : Int) := by omega
      have hk0 : (0 : Int) ≤ (k : Int) := by omega
      have hb1 : Below wr.heap.size wr (wr.alloc (.cells #[.int .i64 x.c, .int .i64 x.g, .int .i64 x.n] 48)) := (Below.refl _ wr).alloc (Nat.le_refl _) _
      have hA1 := hA.on hb1
      have hx1 : Blk (wr.alloc (.cells #[.int .i64 x.c, .int .i64 x.g, .int .i64 x.n] 48)) wr.heap.size 48 #[.int .i64 x.c, .int .i64 x.g, .int .i64 x.n] := heap_alloc_new wr _
      have HA := Lib.hid (And.intro hA1 hx1)
      clear hA hb1 hA1 hx1 hr hSr hS hl hW hx he
      generalize goL (l.take k) e = F at *
      generalize stayL (l.take k) e = K at *
      unfold partZ at cp
      obtain ⟨b, eb⟩ : ∃ b, goB x.n e = b := ⟨_, rfl⟩
      rw [eb] at cp hnx
      clear eb
      cases b with
      | true =>
        obtain ⟨eF, eK⟩ := hnx.1 rfl
        have HN := Lib.hid (And.intro eF eK)
        clear hnx eF eK
        have cp : ∀ W, Calls Try.prog 57 #[.int .i64 x.n, .int .i64 e] W fun r w' => r = .returned (.int .i64 0) ∧ W = w' := cp
        go_wp2_with (first
          | (refine wpList_load_mid rfl 48 (.tmp 14) rfl g (o + k * 3) rfl [.int .i64 x.c, .int .i64 x.g, .int .i64 x.n] _ hr' Try.underlying48 rfl size48 ?_)
          | (go_at_call 57; refine (cp _).mono ?_; rintro r w' ⟨rfl, rfl⟩))
        obtain ⟨hA1, hx1⟩ := HA.out
        clear HA hr' cp
        generalize wr.alloc (.cells #[.int .i64 x.c, .int .i64 x.g, .int .i64 x.n] 48) = w2 at hA1 hx1 ⊢
        generalize wr.heap.size = z at hx1 ⊢
        have hd : Below w2.heap.size w2 w2.drew := (Below.refl _ w2).drew
        have hAd := hA1.on hd
        have hxd := hx1.on hd
        have c0 : w2.drew.cell? ⟨B, 0, none⟩ = some (.slice A1 F.length c1) := hAd.box.cell 0
        have c9 : w2.drew.cell? ⟨B, 1, none⟩ = some (.slice A2 K.length c2) := hAd.box.cell 1
        have c0a : ∀ o, (w2.alloc o).cell? ⟨B, 0, none⟩ = some (.slice A1 F.length c1) := fun o => (World.cell?_alloc_lt _ _ _ hA1.box.lt).trans (hA1.box.cell 0)
        have c9a : ∀ o, (w2.alloc o).cell? ⟨B, 1, none⟩ = some (.slice A2 K.length c2) := fun o => (World.cell?_alloc_lt _ _ _ hA1.box.lt).trans (hA1.box.cell 1)
        have e0 : w2.cell? ⟨z, 0, none⟩ = some (.int .i64 x.c) := hx1.cell 0
        have e1 : w2.cell? ⟨z, 1, none⟩ = some (.int .i64 x.g) := hx1.cell 1
        have e2 : w2.cell? ⟨z, 2, none⟩ = some (.int .i64 x.n) := hx1.cell 2
        have hb3 : Below w2.drew.heap.size w2.drew (w2.drew.alloc (.cells #[.int .i64 x.c, .int .i64 x.g, .int .i64 x.n] 48)) := (Below.refl _ w2.drew).alloc (Nat.le_refl _) _
        have hA3 := hAd.on hb3
        have HP := Lib.hid hA3
        have HO := Lib.hid hA3.both.f
        have hBs : B ≤ w2.heap.size := Nat.le_of_lt hA1.box.lt
        clear hA1 hx1 hd hAd hxd hb3 hA3
        generalize hFl : F.length = f at *
        generalize hKl : K.length = q at *
        have HL := Lib.hid (And.intro hFl hKl)
        clear hFl hKl
        go_region_law ((refine step_append_lies _ (by rfl) _ _ 33 (by rfl) B 48 i0 _ 3 24 Try.underlying33 hi hz0 hz1 hz2 rfl (by decide) (.slice A1 f c1) f (flatB F) (by rfl) HO.out ⟨w2.heap.size, 0, none⟩ 1 1 x.cs (by rfl) (by rfl) (World.news_of_block (cs := #[.int .i64 x.c, .int .i64 x.g, .int .i64 x.n]) (t := 48) (fr := (0, 0)) (heap_alloc_new w2.drew _)) x.one (by decide) (by unfold maxLen; omega) (by omega) (by simp; omega) (w2.heap.size + 1) (by simp) ?_; intro gg cq w5 hown hgrow hat hlt; have hbx := box_on HP.out.both.f HP.out.box hgrow; have d0 := hbx.cell 0; have d1 := hbx.free 0))
        all_goals (
          have hown' := hown
          rw [← flatB_snoc] at hown'
          have hA5 := arr_left (x := x) HP.out hown' hgrow (fun g' hg' => by
            have e2 : gg = g' := by simpa [lies] using hg'
            subst e2
            rcases hat with hat | hat
            · exact .inl ((own_lies A1 f c1 _).1 hat)
            · exact .inr (by simp; omega))
          have HA5 := Lib.hid hA5
          clear hown' hA5 hbx d0 d1
          go_wp2
          obtain ⟨eF, eK⟩ := HN.out
          go_roundw
          case rel => exact ⟨k + 1, by omega, by go_num, _, cq, A2, c2, by rw [eF, eK, List.length_append, HL.out.1, HL.out.2]; exact HA5.out⟩
          case measure => simp [intOf]; omega)
      | false =>
        obtain ⟨eF, eK⟩ := hnx.2 rfl
        have HN := Lib.hid (And.intro eF eK)
        clear hnx eF eK
        have cp : ∀ W, Calls Try.prog 57 #[.int .i64 x.n, .int .i64 e] W fun r w' => r = .returned (.int .i64 1) ∧ W = w' := cp
        go_wp2_with (first
          | (refine wpList_load_mid rfl 48 (.tmp 14) rfl g (o + k * 3) rfl [.int .i64 x.c, .int .i64 x.g, .int .i64 x.n] _ hr' Try.underlying48 rfl size48 ?_)
          | (go_at_call 57; refine (cp _).mono ?_; rintro r w' ⟨rfl, rfl⟩))
        obtain ⟨hA1, hx1⟩ := HA.out
        clear HA hr' cp
        generalize wr.alloc (.cells #[.int .i64 x.c, .int .i64 x.g, .int .i64 x.n] 48) = w2 at hA1 hx1 ⊢
        generalize wr.heap.size = z at hx1 ⊢
        have hd : Below w2.heap.size w2 w2.drew := (Below.refl _ w2).drew
        have hAd := hA1.on hd
        have hxd := hx1.on hd
        have c0 : w2.drew.cell? ⟨B, 0, none⟩ = some (.slice A1 F.length c1) := hAd.box.cell 0
        have c9 : w2.drew.cell? ⟨B, 1, none⟩ = some (.slice A2 K.length c2) := hAd.box.cell 1
        have c0a : ∀ o, (w2.alloc o).cell? ⟨B, 0, none⟩ = some (.slice A1 F.length c1) := fun o => (World.cell?_alloc_lt _ _ _ hA1.box.lt).trans (hA1.box.cell 0)
        have c9a : ∀ o, (w2.alloc o).cell? ⟨B, 1, none⟩ = some (.slice A2 K.length c2) := fun o => (World.cell?_alloc_lt _ _ _ hA1.box.lt).trans (hA1.box.cell 1)
        have e0 : w2.cell? ⟨z, 0, none⟩ = some (.int .i64 x.c) := hx1.cell 0
        have e1 : w2.cell? ⟨z, 1, none⟩ = some (.int .i64 x.g) := hx1.cell 1
        have e2 : w2.cell? ⟨z, 2, none⟩ = some (.int .i64 x.n) := hx1.cell 2
        have hb3 : Below w2.drew.heap.size w2.drew (w2.drew.alloc (.cells #[.int .i64 x.c, .int .i64 x.g, .int .i64 x.n] 48)) := (Below.refl _ w2.drew).alloc (Nat.le_refl _) _
        have hA3 := hAd.on hb3
        have HP := Lib.hid hA3
        have HO := Lib.hid hA3.both.k
        have hBs : B ≤ w2.heap.size := Nat.le_of_lt hA1.box.lt
        clear hA1 hx1 hd hAd hxd hb3 hA3
        generalize hFl : F.length = f at *
        generalize hKl : K.length = q at *
        have HL := Lib.hid (And.intro hFl hKl)
        clear hFl hKl
        go_region_law ((refine step_append_lies _ (by rfl) _ _ 33 (by rfl) B 48 i0 _ 3 24 Try.underlying33 hi hz0 hz1 hz2 rfl (by decide) (.slice A2 q c2) q (flatB K) (by rfl) HO.out ⟨w2.heap.size, 0, none⟩ 1 1 x.cs (by rfl) (by rfl) (World.news_of_block (cs := #[.int .i64 x.c, .int .i64 x.g, .int .i64 x.n]) (t := 48) (fr := (0, 0)) (heap_alloc_new w2.drew _)) x.one (by decide) (by unfold maxLen; omega) (by omega) (by simp; omega) (w2.heap.size + 1) (by simp) ?_; intro gg cq w5 hown hgrow hat hlt; have hbx := box_on HP.out.both.k HP.out.box hgrow; have d0 := hbx.cell 1; have d1 := hbx.free 1))
        all_goals (
          have hown' := hown
          rw [← flatB_snoc] at hown'
          have hA5 := arr_right (x := x) HP.out hown' hgrow (fun g' hg' => by
            have e2 : gg = g' := by simpa [lies] using hg'
            subst e2
            rcases hat with hat | hat
            · exact .inl ((own_lies A2 q c2 _).1 hat)
            · exact .inr (by simp; omega))
          have HA5 := Lib.hid hA5
          clear hown' hA5 hbx d0 d1
          go_wp2
          obtain ⟨eF, eK⟩ := HN.out
          go_roundw
          case rel => exact ⟨k + 1, by omega, by go_num, A1, c1, _, cq, by rw [eF, eK, List.length_append, HL.out.1, HL.out.2]; exact HA5.out⟩
          case measure => simp [intOf]; omega)
    · have hk' : k = n := by omega
      subst hk'
      have et : l.take k = l := by rw [← hl, List.take_length]
      rw [et] at hA
      have d0 : wr.cell? ⟨B, 0, none⟩ = some (.slice A1 (goL l e).length c1) := hA.box.cell 0
      have d1 : wr.cell? ⟨B, 1, none⟩ = some (.slice A2 (stayL l e).length c2) := hA.box.cell 1
      have HP := Lib.hid hA
      clear hA et hS hSr hl hW he
      obtain ⟨f, ef⟩ : ∃ f, (goL l e).length = f := ⟨_, rfl⟩
      obtain ⟨q, eq⟩ : ∃ q, (stayL l e).length = q := ⟨_, rfl⟩
      have HE := Lib.hid (And.intro ef eq)
      rw [ef] at d0
      rw [eq] at d1
      clear ef eq
      go_wp2
      go_quiet (fail)
      go_wp2
      refine bodyPost_ret (v := .tuple #[.slice A1 f c1, .slice A2 q c2]) (by simp [results, Try.f46, go_sem]) rfl ?_
      obtain ⟨ef, eq⟩ := HE.out
      have hA := HP.out
      rw [← ef, ← eq]
      subst eB
      have hq : Below wr.heap.size wr (wr.drewN nq) := below_dn (Below.refl _ _) _
      exact ⟨A1, c1, A2, c2, rfl, ownB_below hA.both.f hq, ownB_below hA.both.k hq, hA.both.below.trans (hq.mono (Nat.le_of_lt hA.box.lt))⟩
end Go.Proofs.Ytllcgidachbnlaa
