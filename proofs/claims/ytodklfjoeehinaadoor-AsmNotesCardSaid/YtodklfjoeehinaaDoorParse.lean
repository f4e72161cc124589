/- What asm's Parse answers of a text whose lines are taken, one by one, and tell a program that may be. Conditions: at most a hundred thousand octets; the variables lie as they are laid. -/
import Derived.Test.YtodklfjoeehinaaDoorTLine
namespace Go.Proofs.YtodklfjoeehinaaDoor
open Go.RowKit Nine

set_option maxRecDepth 100000 in
theorem end_line {w : World} {g : Nat} {r c s : Int} {xss : List (List Ins)} (h : Txts w g ⟨true, r, c, s, xss⟩) (hL : Laid w) (hC : chkP r c s xss = 0) :
    Calls Tryd.prog 29 #[.pointer (some ⟨g, 0, none⟩)] w fun e w' => e = .returned (.int .i64 0) ∧ Below w.heap.size w w' := by
  obtain ⟨v, B, vs, h⟩ := h
  obtain ⟨A, cap, rfl, hM⟩ := h.mat
  have hP := prog_check hM (fun k hk => hk.2) hL r c s
  rw [hC] at hP
  have y0 : w.cell? ⟨g, 0, none⟩ = some (.bool true) := h.blk.cell 0
  have y1 : w.cell? ⟨g, 1, none⟩ = some (.int .i64 r) := h.blk.cell 1
  have y2 : w.cell? ⟨g, 2, none⟩ = some (.int .i64 c) := h.blk.cell 2
  have y3 : w.cell? ⟨g, 3, none⟩ = some (.int .i64 s) := h.blk.cell 3
  have y4 : w.cell? ⟨g, 4, none⟩ = some (.slice A xss.length cap) := h.blk.cell 4
  replace hP : Calls Tryd.prog 45 #[.agg #[.int .i64 r, .int .i64 c, .int .i64 s, .slice A xss.length cap]] w fun e w' => e = .returned (.int .i64 0) ∧ Below w.heap.size w w' := hP
  generalize xss.length = m at *
  clear hM h hC hL
  go_enter Tryd.func29, Tryd.ntmps29
  go_wp2_with fail
  refine hP.mono ?_
  rintro e w1 ⟨rfl, hb⟩
  have HB := Lib.hid hb
  clear hb
  go_wp2
  go_ret
  exact ⟨rfl, HB.out⟩
theorem res13 (tmps : Array Value) (w : World) (g : Nat) (vs : Array Value) (u v : Value) (hp : tmps[2]?.getD undef = .pointer (some ⟨g, 0, none⟩)) (hu : tmps[3]?.getD undef = u) (hv : tmps[4]?.getD undef = v) (hg : Blk w g 32 vs) (hs : (Tryd.prog.info? 32).map (·.size) = some vs.size) :
    (results Tryd.f13 tmps).run Tryd.prog w = .ok (.tuple #[.agg vs, u, v]) w := by
  have hr : Tryd.f13.results = #[.cell 2 32, .tmp 3, .tmp 4] := by kernel_rfl
  have hl := run_loadVar_row w g 32 32 vs (0, 0) _ hg Tryd.underlying32 rfl hs
  simp only [results, hr]
  simp [Result.andThen, hp, hu, hv, asAddr, hl]

/-- What Parse answers of a text of n lines that tells a program. -/
def Parsed (r c s : Int) (xss : List (List Ins)) (n : Nat) (w : World) (e : Ending) (w' : World) : Prop :=
  ∃ A m cap, e = .returned (.tuple #[.agg (prg r c s A m cap), .int .i64 n, .int .i64 0]) ∧ Mat w' (fun k => w.heap.size ≤ k ∧ k < w'.heap.size) A m cap xss ∧ Below w.heap.size w w'
set_option maxRecDepth 100000 in
set_option maxHeartbeats 4000000 in
theorem parse_any (s : ByteArray) (hs : s.size ≤ 100000) (R C S : Int) (xss : List (List Ins)) (w : World) (hL : Laid w) (hC : chkP R C S xss = 0) (hrun : Runs St.none (parts 10 (oct s)) ⟨true, R, C, S, xss⟩) :
    Calls Tryd.prog 13 #[.string s] w (Parsed R C S xss (parts 10 (oct s)).length w) := by
  have hpl : ∀ l ∈ parts 10 (oct s), l.length ≤ 100000 := fun l hl => by
    have := parts_lens 10 _ _ _ hl
    rw [oct_len] at this
    omega
  have hpn := parts_le 10 (oct s)
  rw [oct_len] at hpn
  obtain ⟨W0, eW0⟩ : ∃ W0, W0 = w.alloc (.cells #[.int .i64 0, .int .i64 0, .int .i64 0, .slice none 0 0] 32) := ⟨_, rfl⟩
  have b0 : Below w.heap.size w W0 := by rw [eW0]; exact (Below.refl _ w).alloc (Nat.le_refl _) _
  have p0 : Blk W0 w.heap.size 32 (prg 0 0 0 none 0 0) := by rw [eW0]; exact heap_alloc_new w _
  have hS := split_any s hs W0
  generalize parts 10 (oct s) = ls at *
  obtain ⟨n, hn⟩ : ∃ n, ls.length = n := ⟨_, rfl⟩
  rw [hn] at hS hpn ⊢
  have HN := Lib.hid hn
  have HL := Lib.hid hL
  have HC := Lib.hid hC
  have HR := Lib.hid hrun
  have HP := Lib.hid hpl
  clear hn hL hC hrun hpl
  go_enter Tryd.func13, Tryd.ntmps13
  go_wp2_with fail
  rw [← eW0]
  clear eW0
  refine hS.mono ?_
  rintro e w1 ⟨v, rfl, ho, hb1⟩
  obtain ⟨A, cap, rfl, hRow⟩ := Row.own ho
  have p1 := p0.below hb1 p0.lt
  have q1 : Below w.heap.size w w1 := b0.trans (hb1.mono b0.size)
  have hrm := hRow.most
  have hrr := hRow.room
  unfold maxLen at hrm
  have HRow := Lib.hid hRow
  clear ho hS p0 b0 hb1 hRow
  obtain ⟨W2, eW2⟩ : ∃ W2, W2 = w1.alloc (.cells #[.bool false, .int .i64 0, .int .i64 0, .int .i64 0, .slice none 0 0] 56) := ⟨_, rfl⟩
  obtain ⟨g, eg⟩ : ∃ g, w1.heap.size = g := ⟨_, rfl⟩
  have b2 : Below g w1 W2 := by rw [eW2, ← eg]; exact (Below.refl _ w1).alloc (Nat.le_refl _) _
  have p2 : Blk W2 g 56 (txtC St.none (.slice none 0 0)) := by rw [eW2, ← eg]; exact heap_alloc_new w1 _
  have T0 : Txts W2 g St.none := ⟨_, _, _, txt_new p2⟩
  have hP1 := Lib.hid p1.lt
  rw [eg] at hP1
  have HT := Lib.hid (And.intro T0 (And.intro b2 p1))
  have HQ := Lib.hid q1
  clear p2 T0 b2 p1 q1
  go_wp2_with fail
  go_loopw [15] (fun v wr => ∃ (k : Nat) (t : St), v = .int .i64 k ∧ k ≤ n ∧ Txts wr g t ∧ Runs t (ls.drop k) ⟨true, R, C, S, xss⟩ ∧ Below g w1 wr) (fun v _ => n - (intOf v).toNat)
  case atStart => exact ⟨0, St.none, rfl, Nat.zero_le _, by rw [← eW2]; exact HT.out.1, HR.out, by rw [← eW2]; exact HT.out.2.1⟩
  case round =>
    obtain ⟨k, t, rfl, hk, hT, hrun, hb⟩ := hrel
    clear HR eW2
    have hLr : Laid wr := (HL.out.on HQ.out).below hb (by have := (HL.out.on HQ.out).big; omega)
    by_cases hlt : k < n
    · have t0 : decide ((k : Int) < (n : Int)) = true := decide_eq_true (by omega)
      have hkl : k < ls.length := by rw [HN.out]; exact hlt
      have hd : ls.drop k = ls.getD k [] :: ls.drop (k + 1) := by
        rw [List.drop_eq_getElem_cons hkl]
        simp [List.getD, List.getElem?_eq_getElem hkl]
      have hm : ls.getD k [] ∈ ls := by
        rw [List.getD, List.getElem?_eq_getElem hkl]
        exact List.getElem_mem hkl
      rw [hd] at hrun
      obtain ⟨v, hst, hrun2⟩ := hrun
      obtain ⟨ad, rfl, _, hc⟩ := (HRow.out.below (eg ▸ hb)).at_ k hlt
      obtain ⟨l, hl⟩ : ∃ l, ls.getD k [] = l := ⟨_, rfl⟩
      rw [hl] at hc hst hm
      have hll := HP.out l hm
      have hW := words_any (txt l) (by rw [txt_size]; exact hll) wr
      rw [oct_txt] at hW
      have hwl := words_len l
      have i0 : (0 : Int) ≤ (k : Int) := by omega
      have i1 : (k : Int) < (n : Int) := by omega
      have H2 := Lib.hid hrun2
      have HST := Lib.hid hst
      have HWL := Lib.hid hwl
      have HTT := Lib.hid hT
      have HLR := Lib.hid hLr
      have HB := Lib.hid hb
      clear hd hrun2 hm hl hst hwl hT hLr hb
      go_wp2_with fail
      refine hW.mono ?_
      rintro e w3 ⟨v3, rfl, ho3, hb3⟩
      obtain ⟨A3, cap3, rfl, hRow3⟩ := Row.own ho3
      have hl3 := line_line (HTT.out.on hb3) HST.out hRow3 (fun y hy => Nat.le_trans (HWL.out y hy) (by omega)) (HLR.out.on hb3)
      have HB3 := Lib.hid (HB.out.trans (hb3.mono (by have := HB.out.size; omega : g ≤ wr.heap.size)))
      clear ho3 hRow3 hb3 hW
      generalize (wordsL l).length = m3 at *
      go_wp2_with fail
      refine hl3.mono ?_
      intro e w4 h4
      obtain ⟨rfl, hT4, hb4⟩ := h4
      have HF := Lib.hid (And.intro hT4 (HB3.out.trans hb4))
      clear hT4 hb4 hl3
      go_wp2
      go_roundw
      case rel => exact ⟨k + 1, v, by go_num, by omega, HF.out.1, H2.out, HF.out.2⟩
      case measure => simp [intOf]; omega
    · obtain rfl : k = n := by omega
      have t0 : decide ((k : Int) < (k : Int)) = false := decide_eq_false (by omega)
      have hd : ls.drop k = [] := List.drop_eq_nil_of_le (by rw [HN.out]; exact Nat.le_refl _)
      rw [hd] at hrun
      obtain rfl : t = ⟨true, R, C, S, xss⟩ := hrun
      have hE := end_line hT hLr HC.out
      have HTT := Lib.hid hT
      have HB := Lib.hid hb
      clear hd hT hb hLr
      go_wp2_with fail
      refine hE.mono ?_
      rintro e w5 ⟨rfl, hb5⟩
      obtain ⟨v5, B5, vs5, h5⟩ := HTT.out.on hb5
      obtain ⟨A5, cap5, rfl, hM5⟩ := h5.mat
      have hB5 : Below g w1 w5 := HB.out.trans (hb5.mono (by have := HB.out.size; omega : g ≤ wr.heap.size))
      have y1 : w5.cell? ⟨g, 1, none⟩ = some (.int .i64 R) := h5.blk.cell 1
      have y2 : w5.cell? ⟨g, 2, none⟩ = some (.int .i64 C) := h5.blk.cell 2
      have y3 : w5.cell? ⟨g, 3, none⟩ = some (.int .i64 S) := h5.blk.cell 3
      have y4 : w5.cell? ⟨g, 4, none⟩ = some (.slice A5 xss.length cap5) := h5.blk.cell 4
      have r5 : Blk w5 w.heap.size 32 (prg 0 0 0 none 0 0) := HT.out.2.2.below hB5 hP1.out
      have HFIN : Hid (Mat (w5.setRow w.heap.size (prg R C S A5 xss.length cap5)) (fun k => w.heap.size ≤ k ∧ k < (w5.setRow w.heap.size (prg R C S A5 xss.length cap5)).heap.size) A5 xss.length cap5 xss ∧ Below w.heap.size w (w5.setRow w.heap.size (prg R C S A5 xss.length cap5))) := Lib.hid ⟨by
        have hsz : (w5.setRow w.heap.size (prg R C S A5 xss.length cap5)).heap.size = w5.heap.size := by simp
        have hlt := hP1.out
        refine (hM5.keep fun p hp => cell_blk p (setRow_other _ _ _ _ (by omega))).more fun k hk => ⟨by omega, by rw [hsz]; exact hk.2⟩, below_setRow (HQ.out.trans (hB5.mono (by have := hP1.out; omega))) (Nat.le_refl _) _⟩
      clear h5 hM5 hB5 hb5 hE
      generalize xss.length = m at *
      go_wp2_with (refine wpList_store_row rfl 32 (.tmp 2) (.tmp 37) rfl w.heap.size (prg R C S A5 m cap5) rfl rfl 32 (prg 0 0 0 none 0 0) r5 info24 rfl (prg_one R C S A5 m cap5) ?_)
      refine bodyPost_ret (res13 _ _ w.heap.size (prg R C S A5 m cap5) _ _ rfl rfl rfl (setRow_heap _ _ _ _ _ _ r5) info24) rfl ?_
      exact ⟨A5, m, cap5, rfl, HFIN.out.1, HFIN.out.2⟩
end Go.Proofs.YtodklfjoeehinaaDoor
