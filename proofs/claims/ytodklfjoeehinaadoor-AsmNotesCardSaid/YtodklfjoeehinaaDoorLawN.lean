/- The walk of AsmNotes, and how octets came in. Conditions: the variables lie as they are laid; operands of 64 bits. -/
import Derived.Test.YtodklfjoeehinaaDoorTrial
import Derived.Test.YtodklfjoeehinaaDoorSame
import Derived.Test.YtodklfjoeehinaaDoorInP
import Derived.Deep.Slices
namespace Go.Proofs.YtodklfjoeehinaaDoor
open Go.RowKit Nine
set_option linter.unusedSimpArgs false

theorem oct_in {w : World} {a : Option Addr} {len cap : Nat} {zs : List Int} (h : (a = none ∧ len = 0 ∧ cap = 0 ∧ zs = []) ∨
    ∃ x, a = some x ∧ len ≤ cap ∧ cap ≤ maxLen ∧ zs.length = cap ∧ (∀ i, i < zs.length → w.cell? (x.add i) = some (.int .u8 (zs.getD i 0))) ∧ ∀ n ∈ zs, (Lit.int .u8 n).wf = true) :
    Oct w w.heap.size a len cap (zs.take len) := by
  rcases h with ⟨rfl, rfl, rfl, rfl⟩ | ⟨x, rfl, hl, hm, hz, hc, hw⟩
  · exact Oct.nil _ _
  · refine ⟨by rw [List.length_take]; omega, hl, hm, fun h => (by cases h), ?_, fun ad ha i hi => ?_⟩
    · intro n hn
      have := (Lit.wf_int_iff .u8 n).1 (hw n (List.mem_of_mem_take hn))
      exact ⟨this.1, this.2⟩
    · injection ha with ha
      subst ha
      have hci := hc i (by omega)
      refine ⟨by have := World.block_lt_of_cell? w _ hci; rwa [add_block] at this, ?_⟩
      rw [hci]
      simp [List.getD, hi]
/-- A slice of octets that came in. -/
theorem octs_in {H : Type} {enc : TypeId × Value → H} {w : World} {base : Nat} {held : Bool} {a : Option Addr} {len cap : Nat} {d : DataW H} {p : List MemPlace}
    (h : DataW.Trod enc Tryd.prog w base (fun _ => true) held 42 (.slice a len cap) d p) : ∃ xs, Oct w w.heap.size a len cap xs := by
  obtain ⟨fuel, hf⟩ := h
  rcases Go.ChangeShapes.open_ints Tryd.underlying42 Tryd.underlying5 (by kernel_rfl) hf with ⟨hcs, _⟩ | ⟨x, l, c, zs, hcs, _, hl, hm, hz, _, hcell, hwz⟩
  · simp [Value.cells] at hcs
    obtain ⟨rfl, rfl, rfl⟩ := hcs
    exact ⟨_, oct_in (.inl ⟨rfl, rfl, rfl, rfl⟩)⟩
  · simp [Value.cells] at hcs
    obtain ⟨rfl, rfl, rfl⟩ := hcs
    exact ⟨_, oct_in (zs := zs) (.inr ⟨_, rfl, hl, hm, by simpa using hz, hcell, hwz⟩)⟩

/-- What a line becomes. -/
def noteT (K : Nat) (q y : List UInt8) : List UInt8 := q ++ textOf (noteL K y)
theorem note_cases (K : Nat) (q y : List UInt8) :
    (K % 4 = 1 ∧ K % 3 = 1 ∧ txt q ++ (⟨#[35, 32, 104, 97, 108, 116, 10]⟩ : ByteArray) ++ (⟨#[32, 32]⟩ : ByteArray) ++ txt y ++ (⟨#[32, 10]⟩ : ByteArray) = txt (noteT K q y)) ∨
    (K % 4 = 1 ∧ K % 3 ≠ 1 ∧ txt q ++ (⟨#[35, 32, 104, 97, 108, 116, 10]⟩ : ByteArray) ++ txt y ++ (⟨#[32, 10]⟩ : ByteArray) = txt (noteT K q y)) ∨
    (K % 4 = 2 ∧ K % 3 = 1 ∧ txt q ++ (⟨#[32, 32, 32, 10]⟩ : ByteArray) ++ (⟨#[32, 32]⟩ : ByteArray) ++ txt y ++ (⟨#[32, 10]⟩ : ByteArray) = txt (noteT K q y)) ∨
    (K % 4 = 2 ∧ K % 3 ≠ 1 ∧ txt q ++ (⟨#[32, 32, 32, 10]⟩ : ByteArray) ++ txt y ++ (⟨#[32, 10]⟩ : ByteArray) = txt (noteT K q y)) ∨
    (K % 4 ≠ 1 ∧ K % 4 ≠ 2 ∧ K % 3 = 1 ∧ txt q ++ (⟨#[32, 32]⟩ : ByteArray) ++ txt y ++ (⟨#[32, 10]⟩ : ByteArray) = txt (noteT K q y)) ∨
    (K % 4 ≠ 1 ∧ K % 4 ≠ 2 ∧ K % 3 ≠ 1 ∧ txt q ++ txt y ++ (⟨#[32, 10]⟩ : ByteArray) = txt (noteT K q y)) := by
  have e1 : (⟨#[35, 32, 104, 97, 108, 116, 10]⟩ : ByteArray) = txt [35, 32, 104, 97, 108, 116, 10] := rfl
  have e2 : (⟨#[32, 32, 32, 10]⟩ : ByteArray) = txt [32, 32, 32, 10] := rfl
  have e3 : (⟨#[32, 32]⟩ : ByteArray) = txt [32, 32] := rfl
  have e4 : (⟨#[32, 10]⟩ : ByteArray) = txt [32, 10] := rfl
  rw [e1, e2, e3, e4]
  simp only [txt_app]
  unfold noteT noteL textOf
  by_cases a1 : K % 4 = 1
  · have a2 : ¬ K % 4 = 2 := by omega
    by_cases a3 : K % 3 = 1
    · exact .inl ⟨a1, a3, by rw [if_pos a1, if_neg a2, if_pos a3]; simp⟩
    · exact .inr (.inl ⟨a1, a3, by rw [if_pos a1, if_neg a2, if_neg a3]; simp⟩)
  · by_cases a2 : K % 4 = 2
    · by_cases a3 : K % 3 = 1
      · exact .inr (.inr (.inl ⟨a2, a3, by rw [if_neg a1, if_pos a2, if_pos a3]; simp⟩))
      · exact .inr (.inr (.inr (.inl ⟨a2, a3, by rw [if_neg a1, if_pos a2, if_neg a3]; simp⟩)))
    · by_cases a3 : K % 3 = 1
      · exact .inr (.inr (.inr (.inr (.inl ⟨a1, a2, a3, by rw [if_neg a1, if_neg a2, if_pos a3]; simp⟩))))
      · exact .inr (.inr (.inr (.inr (.inr ⟨a1, a2, a3, by rw [if_neg a1, if_neg a2, if_neg a3]; simp⟩))))
theorem Good.lines68 {r c s : Int} {xss : List (List Ins)} (h : Good r c s xss) : cntM xss ≤ 68 := by
  have h1 := cntM_le 16 xss h.short
  have h2 : (1 + 16) * xss.length ≤ (1 + 16) * 4 := Nat.mul_le_mul_left _ h.few
  omega
/-- Which octet a line is laid with. -/
def pickK (xs : List Int) (m i : Nat) : Nat := (xs.getD (i % m) 0).toNat
theorem noted_step (f : Nat → Nat) (ls : List (List UInt8)) (i : Nat) : textOf (noted f ls (i + 1)) = noteT (f i) (textOf (noted f ls i)) (ls.getD i []) := by
  rw [noted, textOf_app]
  rfl

set_option maxRecDepth 100000 in
set_option maxHeartbeats 4000000 in
theorem asmNotes_any {w : World} {S : Nat → Prop} {A : Option Addr} {n cap : Nat} {xss : List (List Ins)} (h : Mat w S A n cap xss) (hS : ∀ g, S g → g < w.heap.size) (hw : ∀ xs ∈ xss, ∀ x ∈ xs, WideI x) (hL : Laid w) (r c s : Int) {D : Option Addr} {m capD : Nat} {os : List Int} (hD : Oct w w.heap.size D m capD os) :
    Calls Tryd.prog 5 #[.agg #[.int .i64 r, .int .i64 c, .int .i64 s, .slice A n cap], .slice D m capD] w fun e w' => e = .returned (.bool true) ∧ Below w.heap.size w w' := by
  obtain ⟨W0, eW0⟩ : ∃ W0, W0 = w.alloc (.cells #[.int .i64 r, .int .i64 c, .int .i64 s, .slice A n cap] 32) := ⟨_, rfl⟩
  have b0 : Below w.heap.size w W0 := by rw [eW0]; exact (Below.refl _ w).alloc (Nat.le_refl _) _
  have q0 : Blk W0 w.heap.size 32 (prg r c s A n cap) := by rw [eW0]; exact heap_alloc_new w _
  have hM0 := h.below b0 hS
  have hS0 : ∀ g, S g → g < W0.heap.size := fun g hg => Nat.lt_of_lt_of_le (hS g hg) b0.size
  have hL0 := hL.on b0
  have hA := alive_any W0 hL0
  have hSw := Lib.hid hS
  have hLw := Lib.hid hL
  have HWI := Lib.hid (few_wide hw)
  have HD := Lib.hid hD
  have hdr := hD.room
  have hdm := hD.most
  unfold maxLen at hdm
  clear h hS hL hw hD
  go_enter Tryd.func5, Tryd.ntmps5
  go_wp2_with fail
  rw [← eW0]
  clear eW0
  refine hA.mono ?_
  rintro e w1 ⟨rfl, hb1⟩
  have q1 := q0.below hb1 q0.lt
  have z0 : w1.cell? ⟨w.heap.size, 0, none⟩ = some (.int .i64 r) := q1.cell 0
  have z1 : w1.cell? ⟨w.heap.size, 1, none⟩ = some (.int .i64 c) := q1.cell 1
  have z2 : w1.cell? ⟨w.heap.size, 2, none⟩ = some (.int .i64 s) := q1.cell 2
  have z3 : w1.cell? ⟨w.heap.size, 3, none⟩ = some (.slice A n cap) := q1.cell 3
  have hF := few_any (hM0.below hb1 hS0) (fun g hg => Nat.lt_of_lt_of_le (hS0 g hg) hb1.size) r c s
  have b1 := b0.trans (hb1.mono b0.size)
  clear hA hM0 hS0 hL0 hb1 b0 q0
  go_wp2_with fail
  refine hF.mono ?_
  rintro e w2 ⟨A2, n2, cap2, rfl, hM2, hb2⟩
  obtain ⟨V, eV⟩ : ∃ V, V = w2.setRow w.heap.size (prg r c s A2 n2 cap2) := ⟨_, rfl⟩
  have q2 := q1.below hb2 q1.lt
  have qV : Blk V w.heap.size 32 (prg r c s A2 n2 cap2) := by rw [eV]; exact setRow_heap _ _ _ _ _ _ q2
  have sV : V.heap.size = w2.heap.size := by rw [eV]; exact size_setRow _ _ _
  have bV : Below w.heap.size w V := by rw [eV]; exact below_setRow (b1.trans (hb2.mono b1.size)) (Nat.le_refl _) _
  have zV : w.heap.size < V.heap.size := by rw [sV]; exact q2.lt
  have hMV : Mat V (fun g => g < V.heap.size) A2 n2 cap2 (few xss) := by
    refine Mat.more (hM2.keep (w' := V) fun p hp => cell_blk p ?_) fun g hg => ?_
    · rw [eV]
      refine setRow_other _ _ _ _ ?_
      rcases hp with hp | hp
      · have := hSw.out _ hp; omega
      · have := hp.1; have := q1.lt; omega
    · rw [sV]
      rcases hg with hg | hg
      · exact Nat.lt_of_lt_of_le (hSw.out _ hg) (Nat.le_of_lt q2.lt)
      · exact hg.2
  have hLV : Laid V := hLw.out.on bV
  generalize few xss = ys at *
  clear hM2 b1 hF q1 z0 z1 z2 z3
  have tc : ∀ W, Below V.heap.size V W → Blk W w.heap.size 32 (prg r c s A2 n2 cap2) := fun W hb => qV.below hb zV
  have tM : ∀ W, Below V.heap.size V W → Mat W (fun g => g < V.heap.size) A2 n2 cap2 ys := fun W hW => hMV.below hW fun g hg => hg
  have tS : ∀ W, Below V.heap.size V W → ∀ g, g < V.heap.size → g < W.heap.size := fun W hW g hg => Nat.lt_of_lt_of_le hg hW.size
  have r0 := Below.refl V.heap.size V
  have d0 : V.cell? ⟨w.heap.size, 0, none⟩ = some (.int .i64 r) := qV.cell 0
  have d1 : V.cell? ⟨w.heap.size, 1, none⟩ = some (.int .i64 c) := qV.cell 1
  have d2 : V.cell? ⟨w.heap.size, 2, none⟩ = some (.int .i64 s) := qV.cell 2
  have d3 : V.cell? ⟨w.heap.size, 3, none⟩ = some (.slice A2 n2 cap2) := qV.cell 3
  rw [eV] at d0 d1 d2 d3
  obtain ⟨v, ev⟩ : ∃ v, chkP r c s ys = v := ⟨_, rfl⟩
  have hK := ref_check (tM V r0) (tS V r0) r c s
  rw [ev] at hK
  by_cases hv : v = 0
  · subst hv
    by_cases hm0 : m = 0
    · subst hm0
      go_wp2_with (refine wpList_store_row rfl 32 (.tmp 2) (.tmp 15) rfl w.heap.size (prg r c s A2 n2 cap2) rfl rfl 32 (prg r c s A n cap) q2 info24 rfl (prg_one r c s A2 n2 cap2) ?_)
      rw [← eV]
      clear d0 d1 d2 d3 eV sV hb2 q2
      refine hK.mono ?_
      rintro e w3 ⟨rfl, hb3⟩
      have HF := Lib.hid (bV.trans (hb3.mono (Nat.le_of_lt zV)))
      go_wp2
      go_ret
      exact ⟨by simp, HF.out⟩
    have m1 : ((m : Int) == 0) = false := by simp; omega
    have m2 : (m : Int) ≠ 0 := by omega
    have hG := good_of ev HWI.out
    have HG := Lib.hid hG
    have HRun : Hid (Runs St.none (linesP r c s ys) ⟨true, r, c, s, ys⟩) := Lib.hid (runs_prog ev HWI.out)
    obtain ⟨ls, els⟩ : ∃ ls, linesP r c s ys = ls := ⟨_, rfl⟩
    have hlen : ls.length ≤ 69 := by rw [← els, linesP_len]; have := hG.lines68; omega
    have HNF : Hid (∀ l ∈ ls, (10 : UInt8) ∉ l) := Lib.hid (by rw [← els]; exact linesP_nofeed r c s ys)
    have HSH : Hid (∀ l ∈ ls, l.length ≤ 110) := Lib.hid (by rw [← els]; exact linesP_short hG)
    have HR := Lib.hid (fun W (hW : Below V.heap.size V W) => refprog_any (tM W hW) (tS W hW) r c s HG.out)
    have HSP : Hid (∀ W, Calls Tryd.prog 15 #[.string (txt (textP r c s ys))] W fun e w' => ∃ v, e = .returned v ∧ w'.ownsRow W.heap.size 9 1 v ls.length (vals ls) ∧ Below W.heap.size W w') := Lib.hid fun W => by
      have := refsplit_any (txt (textP r c s ys)) (by have := HG.out.size; omega) W
      rw [oct_txt, parts_textP, els] at this
      exact this
    rw [els] at HRun
    obtain ⟨zz, ezz⟩ : ∃ zz, ls.length = zz := ⟨_, rfl⟩
    have HZ := Lib.hid ezz
    rw [ezz] at hlen HSP
    obtain ⟨f, ef⟩ : ∃ f, pickK os m = f := ⟨_, rfl⟩
    have HP : Hid (∀ W, Below V.heap.size V W → Calls Tryd.prog 13 #[.string (txt (textOf (noted f ls zz)))] W (Parsed r c s ys (parts 10 (textOf (noted f ls zz))).length W)) := Lib.hid fun W hW => by
      have hpt := parts_text (noted f ls zz) (noted_nofeed f ls HNF.out zz)
      have hsz := noted_short f ls HSH.out zz
      have := parse_any (txt (textOf (noted f ls zz))) (by rw [txt_size]; omega) r c s ys W (hLV.on hW) ev (by
        rw [oct_txt, hpt]
        exact runs_noted f ls St.none zz _ (by rw [HZ.out]; exact Nat.le_refl _) (by rw [List.take_of_length_le (by rw [HZ.out]; exact Nat.le_refl _)]; exact HRun.out))
      rw [oct_txt] at this
      exact this
    have HDV : Hid (∀ W, Below V.heap.size V W → ∀ i : Nat, ∃ ad j K : Nat → Nat, True) := Lib.hid fun _ _ _ => ⟨id, id, id, trivial⟩
    have HPK : Hid (∀ W, Below V.heap.size V W → ∀ i : Nat, ∃ ad, D = some ad ∧ W.cell? (ad.add (i % m)) = some (.int .u8 ((f i : Nat) : Int)) ∧ f i ≤ 255) := Lib.hid fun W hW i => by
      have hj : i % m < m := Nat.mod_lt _ (by omega)
      cases D with
      | none => have := HD.out.zero.1; omega
      | some ad =>
        obtain ⟨h1, h2⟩ := HD.out.cell ad rfl (i % m) hj
        have hs := HD.out.small.at_ (i % m)
        have e : os.getD (i % m) 0 = ((f i : Nat) : Int) := by
          rw [← ef, pickK, Int.toNat_of_nonneg]
          simpa [List.getD] using hs.1
        refine ⟨ad, rfl, ?_, ?_⟩
        · rw [← e, ← h2]
          exact ((bV.trans (hW.mono (Nat.le_of_lt zV))).cell (p := ad.add (i % m)) (by rw [add_block]; exact h1))
        · have := hs.2
          simp only [List.getD] at e
          omega
    generalize txt (textP r c s ys) = tx at *
    clear hG els ezz ef HDV
    go_wp2_with (refine wpList_store_row rfl 32 (.tmp 2) (.tmp 15) rfl w.heap.size (prg r c s A2 n2 cap2) rfl rfl 32 (prg r c s A n cap) q2 info24 rfl (prg_one r c s A2 n2 cap2) ?_)
    rw [← eV]
    clear d0 d1 d2 d3 eV sV hb2 q2
    refine hK.mono ?_
    rintro e w3 ⟨rfl, hb3⟩
    have p3 := tc _ hb3
    have d0 : w3.cell? ⟨w.heap.size, 0, none⟩ = some (.int .i64 r) := p3.cell 0
    have d1 : w3.cell? ⟨w.heap.size, 1, none⟩ = some (.int .i64 c) := p3.cell 1
    have d2 : w3.cell? ⟨w.heap.size, 2, none⟩ = some (.int .i64 s) := p3.cell 2
    have d3 : w3.cell? ⟨w.heap.size, 3, none⟩ = some (.slice A2 n2 cap2) := p3.cell 3
    go_wp2_with fail
    refine (HR.out _ hb3).mono ?_
    rintro e w4 ⟨rfl, hb4⟩
    have k4 := hb3.trans (hb4.mono hb3.size)
    clear d0 d1 d2 d3 p3
    go_wp2_with fail
    refine (HSP.out _).mono ?_
    rintro e w5 ⟨v5, rfl, ho5, hb5⟩
    obtain ⟨A5, cap5, rfl, hRow⟩ := Row.own ho5
    have k5 := k4.trans (hb5.mono k4.size)
    have hrr := hRow.room
    have hrm := hRow.most
    unfold maxLen at hrm
    have HRow := Lib.hid hRow
    clear ho5 hRow hb3 hb4 hb5 hK
    go_wp2_with fail
    go_loop [6, 7] (fun sv iv => ∃ i : Nat, i ≤ zz ∧ iv = .int .i64 i ∧ sv = .string (txt (textOf (noted f ls i)))) (fun _ iv => zz - (intOf iv).toNat)
    case atStart => exact ⟨0, Nat.zero_le _, rfl, rfl⟩
    case round =>
      obtain ⟨i, hi, rfl, rfl⟩ := hrel
      have hq := noted_short f ls HSH.out i
      by_cases hlt : i < zz
      · have t0 : decide ((i : Int) < (zz : Int)) = true := decide_eq_true (by omega)
        obtain ⟨ad, rfl, hcK, hK⟩ := HPK.out w5 k5 i
        obtain ⟨ad5, rfl, _, hc5⟩ := HRow.out.at_ i hlt
        have hy : (ls.getD i []).length ≤ 110 := by
          have hil : i < ls.length := by rw [HZ.out]; exact hlt
          rw [List.getD, List.getElem?_eq_getElem hil]
          exact HSH.out _ (List.getElem_mem hil)
        have hst := noted_step f ls i
        obtain ⟨q, eq⟩ : ∃ q, textOf (noted f ls i) = q := ⟨_, rfl⟩
        obtain ⟨y, ey⟩ : ∃ y, ls.getD i [] = y := ⟨_, rfl⟩
        rw [eq, ey] at hst
        rw [eq] at hq
        rw [ey] at hc5 hy
        rw [eq]
        obtain ⟨K, eK⟩ : ∃ K, f i = K := ⟨_, rfl⟩
        rw [eK] at hcK hK hst
        have hN := note_cases K q y
        rw [← hst] at hN
        have HST := Lib.hid hst
        obtain ⟨j, ej⟩ : ∃ j, i % m = j := ⟨_, rfl⟩
        have hjm : j < m := by rw [← ej]; exact Nat.mod_lt _ (by omega)
        rw [ej] at hcK
        have i0 : (0 : Int) ≤ (i : Int) := by omega
        have i1 : (i : Int) < (zz : Int) := by omega
        have j0 : (0 : Int) ≤ (j : Int) := by omega
        have j1 : (j : Int) < (m : Int) := by omega
        have tj : (i : Int).tmod (m : Int) = (j : Int) := by rw [← ej]; exact (Int.ofNat_tmod i m)
        have s1 : (txt q).size ≤ 10000 := by rw [txt_size]; omega
        have s2 : (txt y).size ≤ 110 := by rw [txt_size]; exact hy
        have tk : (K : Int).tmod 4 = ((K % 4 : Nat) : Int) := Int.ofNat_tmod K 4
        have tl : (K : Int).tmod 3 = ((K % 3 : Nat) : Int) := Int.ofNat_tmod K 3
        rcases hN with ⟨h4, h3, hs⟩ | ⟨h4, h3, hs⟩ | ⟨h4, h3, hs⟩ | ⟨h4, h3, hs⟩ | ⟨h4, h5, h3, hs⟩ | ⟨h4, h5, h3, hs⟩
        · have x4 : (K : Int).tmod 4 = 1 := by omega
          have x3 : (K : Int).tmod 3 = 1 := by omega
          have HS := Lib.hid hs
          clear tk tl h4 h3 hs eq ey eK ej hst
          go_wp2
          go_round
          case rel => exact ⟨i + 1, by omega, by go_num, by rw [← HS.out]⟩
          case measure => simp [intOf]; omega
        · have x4 : (K : Int).tmod 4 = 1 := by omega
          obtain ⟨a3, x3⟩ : ∃ a, (K : Int).tmod 3 = a := ⟨_, rfl⟩
          have x7 : (a3 == 1) = false := by simp; omega
          have HS := Lib.hid hs
          clear tk tl h4 h3 hs eq ey eK ej hst
          go_wp2
          go_round
          case rel => exact ⟨i + 1, by omega, by go_num, by rw [← HS.out]⟩
          case measure => simp [intOf]; omega
        · have x4 : (K : Int).tmod 4 = 2 := by omega
          have x3 : (K : Int).tmod 3 = 1 := by omega
          have HS := Lib.hid hs
          clear tk tl h4 h3 hs eq ey eK ej hst
          go_wp2
          go_round
          case rel => exact ⟨i + 1, by omega, by go_num, by rw [← HS.out]⟩
          case measure => simp [intOf]; omega
        · have x4 : (K : Int).tmod 4 = 2 := by omega
          obtain ⟨a3, x3⟩ : ∃ a, (K : Int).tmod 3 = a := ⟨_, rfl⟩
          have x7 : (a3 == 1) = false := by simp; omega
          have HS := Lib.hid hs
          clear tk tl h4 h3 hs eq ey eK ej hst
          go_wp2
          go_round
          case rel => exact ⟨i + 1, by omega, by go_num, by rw [← HS.out]⟩
          case measure => simp [intOf]; omega
        · obtain ⟨a4, x4⟩ : ∃ a, (K : Int).tmod 4 = a := ⟨_, rfl⟩
          have x5 : (a4 == 1) = false := by simp; omega
          have x6 : (a4 == 2) = false := by simp; omega
          have x3 : (K : Int).tmod 3 = 1 := by omega
          have HS := Lib.hid hs
          clear tk tl h4 h3 hs eq ey eK ej hst h5
          go_wp2
          go_round
          case rel => exact ⟨i + 1, by omega, by go_num, by rw [← HS.out]⟩
          case measure => simp [intOf]; omega
        · obtain ⟨a4, x4⟩ : ∃ a, (K : Int).tmod 4 = a := ⟨_, rfl⟩
          have x5 : (a4 == 1) = false := by simp; omega
          have x6 : (a4 == 2) = false := by simp; omega
          obtain ⟨a3, x3⟩ : ∃ a, (K : Int).tmod 3 = a := ⟨_, rfl⟩
          have x7 : (a3 == 1) = false := by simp; omega
          have HS := Lib.hid hs
          clear tk tl h4 h3 hs eq ey eK ej hst h5
          go_wp2
          go_round
          case rel => exact ⟨i + 1, by omega, by go_num, by rw [← HS.out]⟩
          case measure => simp [intOf]; omega
      · obtain rfl : i = zz := by omega
        have t0 : decide ((i : Int) < (i : Int)) = false := decide_eq_false (by omega)
        have hP := HP.out w5 k5
        generalize txt (textOf (noted f ls i)) = tn at *
        generalize (parts 10 (textOf (noted f ls i))).length = ln at *
        clear hq
        go_wp2_with fail
        refine hP.mono ?_
        rintro e w6 ⟨A6, m6, cap6, rfl, hM6, hb6⟩
        unfold prg
        have k6 := k5.trans (hb6.mono k5.size)
        obtain ⟨V6, eV6⟩ : ∃ V6, V6 = w6.alloc (.cells #[.int .i64 r, .int .i64 c, .int .i64 s, .slice A6 m6 cap6] 32) := ⟨_, rfl⟩
        have a6 : Below w6.heap.size w6 V6 := by rw [eV6]; exact (Below.refl _ w6).alloc (Nat.le_refl _) _
        have k7 := k6.trans (a6.mono k6.size)
        have p7 := tc _ k7
        have d0 : V6.cell? ⟨w.heap.size, 0, none⟩ = some (.int .i64 r) := p7.cell 0
        have d1 : V6.cell? ⟨w.heap.size, 1, none⟩ = some (.int .i64 c) := p7.cell 1
        have d2 : V6.cell? ⟨w.heap.size, 2, none⟩ = some (.int .i64 s) := p7.cell 2
        have d3 : V6.cell? ⟨w.heap.size, 3, none⟩ = some (.slice A2 n2 cap2) := p7.cell 3
        have p8 : Blk V6 w6.heap.size 32 (prg r c s A6 m6 cap6) := by rw [eV6]; exact heap_alloc_new w6 _
        have x0 : V6.cell? ⟨w6.heap.size, 0, none⟩ = some (.int .i64 r) := p8.cell 0
        have x1 : V6.cell? ⟨w6.heap.size, 1, none⟩ = some (.int .i64 c) := p8.cell 1
        have x2 : V6.cell? ⟨w6.heap.size, 2, none⟩ = some (.int .i64 s) := p8.cell 2
        have x3 : V6.cell? ⟨w6.heap.size, 3, none⟩ = some (.slice A6 m6 cap6) := p8.cell 3
        have hSame := prog_same r c s (tM V6 k7) (hM6.below a6 fun k hk => hk.2) (tS V6 k7) (fun k hk => Nat.lt_of_lt_of_le hk.2 a6.size)
        rw [eV6] at d0 d1 d2 d3 x0 x1 x2 x3
        clear p7 p8 hM6
        go_wp2_with fail
        rw [← eV6]
        refine hSame.mono ?_
        rintro e w7 ⟨rfl, hb7⟩
        have k8 := k7.trans (hb7.mono k7.size)
        have HF := Lib.hid (bV.trans (k8.mono (Nat.le_of_lt zV)))
        clear d0 d1 d2 d3 x0 x1 x2 x3 eV6 hSame
        go_wp2
        go_ret
        exact ⟨by simp, HF.out⟩
  · have t0 : (v == 0) = false := by simpa using hv
    go_wp2_with (refine wpList_store_row rfl 32 (.tmp 2) (.tmp 15) rfl w.heap.size (prg r c s A2 n2 cap2) rfl rfl 32 (prg r c s A n cap) q2 info24 rfl (prg_one r c s A2 n2 cap2) ?_)
    rw [← eV]
    clear d0 d1 d2 d3 eV sV hb2 q2
    refine hK.mono ?_
    rintro e w3 ⟨rfl, hb3⟩
    have HF := Lib.hid (bV.trans (hb3.mono (Nat.le_of_lt zV)))
    go_wp2
    go_ret
    exact ⟨by simp, HF.out⟩
end Go.Proofs.YtodklfjoeehinaaDoor
