/- The contract of the statements' own trial, which answers true. Conditions: the variables lie as they are laid. -/
import Derived.Test.YtmkdmnaonddghaaDoorParse
namespace Go.Proofs.YtmkdmnaonddghaaDoor
open Go.RowKit Nine

def litC : Cfg := ⟨1, 1, 2, 8, 1⟩
def litA : Ask := ⟨2, 1000, false⟩
theorem lit_okC : okC litC = true := by decide
theorem lit_okA : okA litA = true := by decide
theorem lit_text : txt (lineO litC litA) = ⟨#[104, 97, 122, 97, 114, 100, 32, 116, 115, 111, 32, 50, 32, 56, 32, 49, 32, 100, 112, 111, 114, 32, 49, 48, 48, 48, 32, 97, 108, 108]⟩ := by
  have : lineO litC litA = [104, 97, 122, 97, 114, 100, 32, 116, 115, 111, 32, 50, 32, 56, 32, 49, 32, 100, 112, 111, 114, 32, 49, 48, 48, 48, 32, 97, 108, 108] := by decide +kernel
  rw [this]
  rfl
/-- A line that may be, with whatever blanks, is parsed as it was. -/
theorem parse_back {c : Cfg} {a : Ask} (hc : okC c = true) (ha : okA a = true) (s : ByteArray) (hs : s.size ≤ 100000) (hw : wordsL (oct s) = lineW c a) (w : World) (hL : Laid w) :
    Calls Tryd.prog 17 #[.string s] w fun e w' => e = .returned (.tuple #[.agg #[.int .i64 c.s, .int .i64 c.o, .int .i64 c.t, .int .i64 c.f, .int .i64 c.d], .agg #[.int .i64 a.m, .int .i64 a.b, .bool a.st], .int .i64 0]) ∧ Below w.heap.size w w' := by
  obtain ⟨b1, b2, b3, b4⟩ := back_of hc ha
  have hg : GoodW (wordsL (oct s)) := by
    rw [hw]
    refine ⟨b1, b2, ?_⟩
    rw [b3, b4, chkB_of, hc, ha]
    rfl
  refine (parse_any s hs w hL).mono ?_
  rintro e w' ⟨⟨y, _, hn, _⟩ | ⟨_, rfl⟩, hb⟩
  · exact absurd hg hn
  · rw [hw, b3, b4]
    exact ⟨rfl, hb⟩
theorem res20 (tmps : Array Value) (w : World) (g h : Nat) (cs ds : Array Value) (h2 : tmps[0]?.getD undef = .pointer (some ⟨g, 0, none⟩)) (h3 : tmps[1]?.getD undef = .pointer (some ⟨h, 0, none⟩))
    (hg : Blk w g 23 cs) (hh : Blk w h 25 ds) (hc : cs.size = 5) (hd : ds.size = 3) :
    (results Tryd.f20 tmps).run Tryd.prog w = .ok (.tuple #[.agg cs, .agg ds]) w := by
  have hr : Tryd.f20.results = #[.cell 0 23, .cell 1 25] := by kernel_rfl
  have l1 := run_loadVar_row w g 23 23 cs (0, 0) _ hg Tryd.underlying23 rfl (by rw [info23, hc])
  have l2 := run_loadVar_row w h 25 25 ds (0, 0) _ hh Tryd.underlying25 rfl (by rw [info25, hd])
  simp only [results, hr]
  simp [Sem.run_bind, Result.andThen, h2, h3, asAddr, l1, l2]
set_option maxRecDepth 100000 in
theorem some_any (w : World) : Calls Tryd.prog 20 #[] w fun e w' => e = .returned (.tuple #[.agg #[.int .i64 1, .int .i64 1, .int .i64 2, .int .i64 8, .int .i64 1], .agg #[.int .i64 2, .int .i64 1000, .bool false]]) ∧ Below w.heap.size w w' := by
  obtain ⟨W, eW⟩ : ∃ W, W = (w.alloc (.cells #[.int .i64 0, .int .i64 0, .int .i64 0, .int .i64 0, .int .i64 0] 23)).alloc (.cells #[.int .i64 0, .int .i64 0, .bool false] 25) := ⟨_, rfl⟩
  have hb : Below w.heap.size w W := by rw [eW]; exact ((Below.refl _ w).alloc (Nat.le_refl _) _).alloc (by simp) _
  have hC0 : Blk W w.heap.size 23 #[.int .i64 0, .int .i64 0, .int .i64 0, .int .i64 0, .int .i64 0] := by rw [eW]; exact Blk.below (heap_alloc_new w _) ((Below.refl _ _).alloc (Nat.le_refl _) _) (by simp)
  have hA0 : Blk W (w.heap.size + 1) 25 #[.int .i64 0, .int .i64 0, .bool false] := by rw [eW]; exact heap_alloc2_new w _ _
  have d3 : Blk (W.setRow w.heap.size #[.int .i64 1, .int .i64 1, .int .i64 2, .int .i64 8, .int .i64 1]) (w.heap.size + 1) 25 #[.int .i64 0, .int .i64 0, .bool false] := (setRow_other _ _ _ _ (by omega)).trans hA0
  go_enter Tryd.func20, Tryd.ntmps20
  go_wp2_with (first
    | (rw [← eW]; refine wpList_store_row rfl 23 (.tmp 0) (.tmp 2) rfl w.heap.size #[.int .i64 1, .int .i64 1, .int .i64 2, .int .i64 8, .int .i64 1] rfl rfl 23 #[.int .i64 0, .int .i64 0, .int .i64 0, .int .i64 0, .int .i64 0] hC0 info23 rfl (by simp [Value.oneCell']) ?_)
    | (refine wpList_store_row rfl 25 (.tmp 1) (.tmp 3) rfl (w.heap.size + 1) #[.int .i64 2, .int .i64 1000, .bool false] rfl rfl 25 #[.int .i64 0, .int .i64 0, .bool false] d3 info25 rfl (by simp [Value.oneCell']) ?_))
  refine bodyPost_ret (res20 _ _ w.heap.size (w.heap.size + 1) #[.int .i64 1, .int .i64 1, .int .i64 2, .int .i64 8, .int .i64 1] #[.int .i64 2, .int .i64 1000, .bool false] rfl rfl ((setRow_other _ _ _ _ (by omega)).trans (setRow_heap _ _ _ _ _ _ hC0)) (setRow_heap _ _ _ _ _ _ d3) rfl rfl) rfl ?_
  exact ⟨rfl, below_setRow (below_setRow hb (Nat.le_refl _) _) (by omega) _⟩
set_option maxRecDepth 100000 in
set_option maxHeartbeats 2000000 in
theorem alive_any (w : World) (hL : Laid w) : Calls Tryd.prog 6 #[] w fun e w' => e = .returned (.bool true) ∧ Below w.heap.size w w' := by
  have hLn := fun W hW => confline_good litC litA W hW lit_okC lit_okA
  have hPs := fun W hW => parse_back lit_okC lit_okA (txt (lineO litC litA)) (by rw [lit_text]; decide) (by rw [oct_txt]; exact words_lineO lit_okC lit_okA) W hW
  have hPt := fun W hW => confput_good litC litA W hW (by decide)
  have hCk := fun W hW => confcheck_any litC W hW
  have hlen := octC_len litC litA
  rw [lit_text] at hLn hPs
  simp only [litC, litA] at hLn hPs hPt hCk hlen
  generalize octC _ _ = OC at *
  rw [show chkC ⟨1, 1, 2, 8, 1⟩ = 0 by decide] at hCk
  have HL := Lib.hid hL
  clear hL
  go_enter Tryd.func6, Tryd.ntmps6
  go_wp2_with fail
  refine (some_any w).mono ?_
  rintro e w1 ⟨rfl, hb1⟩
  obtain ⟨W, eW⟩ : ∃ W, W = (w1.alloc (.cells #[.int .i64 1, .int .i64 1, .int .i64 2, .int .i64 8, .int .i64 1] 23)).alloc (.cells #[.int .i64 2, .int .i64 1000, .bool false] 25) := ⟨_, rfl⟩
  have hb : Below w1.heap.size w1 W := by rw [eW]; exact ((Below.refl _ w1).alloc (Nat.le_refl _) _).alloc (by simp) _
  have hC0 : Blk W w1.heap.size 23 #[.int .i64 1, .int .i64 1, .int .i64 2, .int .i64 8, .int .i64 1] := by rw [eW]; exact Blk.below (heap_alloc_new w1 _) ((Below.refl _ _).alloc (Nat.le_refl _) _) (by simp)
  have hA0 : Blk W (w1.heap.size + 1) 25 #[.int .i64 2, .int .i64 1000, .bool false] := by rw [eW]; exact heap_alloc2_new w1 _ _
  have q0 := hb1.trans (hb.mono hb1.size)
  clear hb hb1
  go_wp2_with fail
  rw [← eW]
  clear eW
  refine (hLn W (HL.out.on q0)).mono ?_
  rintro e w2 ⟨rfl, hb2⟩
  have hC2 := hC0.below hb2 hC0.lt
  have hA2 := hA0.below hb2 hA0.lt
  have q2 := q0.trans (hb2.mono q0.size)
  clear hb2 hC0 hA0 q0
  go_wp2_with fail
  refine (hPs w2 (HL.out.on q2)).mono ?_
  rintro e w3 ⟨rfl, hb3⟩
  have hC3 := hC2.below hb3 hC2.lt
  have hA3 := hA2.below hb3 hA2.lt
  have q3 := q2.trans (hb3.mono q2.size)
  clear hb3 hC2 hA2 q2
  obtain ⟨V, eV⟩ : ∃ W, W = (w3.alloc (.cells #[.int .i64 1, .int .i64 1, .int .i64 2, .int .i64 8, .int .i64 1] 23)).alloc (.cells #[.int .i64 2, .int .i64 1000, .bool false] 25) := ⟨_, rfl⟩
  have hb : Below w3.heap.size w3 V := by rw [eV]; exact ((Below.refl _ w3).alloc (Nat.le_refl _) _).alloc (by simp) _
  have hC4 : Blk V w3.heap.size 23 #[.int .i64 1, .int .i64 1, .int .i64 2, .int .i64 8, .int .i64 1] := by rw [eV]; exact Blk.below (heap_alloc_new w3 _) ((Below.refl _ _).alloc (Nat.le_refl _) _) (by simp)
  have hA4 : Blk V (w3.heap.size + 1) 25 #[.int .i64 2, .int .i64 1000, .bool false] := by rw [eV]; exact heap_alloc2_new w3 _ _
  have q4 := q3.trans (hb.mono q3.size)
  have hC1 := hC3.below hb hC3.lt
  have hA1 := hA3.below hb hA3.lt
  clear hb hC3 hA3 q3
  generalize w1.heap.size = G1 at *
  have hEV : V = (w3.alloc (.cells #[.int .i64 1, .int .i64 1, .int .i64 2, .int .i64 8, .int .i64 1] 23)).alloc (.cells #[.int .i64 2, .int .i64 1000, .bool false] 25) := eV
  have c0 : V.cell? ⟨G1, 0, none⟩ = some (.int .i64 1) := hC1.cell 0
  have c1 : V.cell? ⟨G1, 1, none⟩ = some (.int .i64 1) := hC1.cell 1
  have c2 : V.cell? ⟨G1, 2, none⟩ = some (.int .i64 2) := hC1.cell 2
  have c3 : V.cell? ⟨G1, 3, none⟩ = some (.int .i64 8) := hC1.cell 3
  have c4 : V.cell? ⟨G1, 4, none⟩ = some (.int .i64 1) := hC1.cell 4
  have a0 : V.cell? ⟨(G1 + 1), 0, none⟩ = some (.int .i64 2) := hA1.cell 0
  have a1 : V.cell? ⟨(G1 + 1), 1, none⟩ = some (.int .i64 1000) := hA1.cell 1
  have a2 : V.cell? ⟨(G1 + 1), 2, none⟩ = some (.bool false) := hA1.cell 2
  rw [eV] at c0 c1 c2 c3 c4 a0 a1 a2
  go_wp2_with fail
  rw [← eV]
  clear eV hEV c0 c1 c2 c3 c4 a0 a1 a2
  refine (hPt V (HL.out.on q4)).mono ?_
  rintro e w5 ⟨A, n, cap, rfl, ho, hb5⟩
  have hn := ho.len
  rw [hlen] at hn
  subst hn
  have hC5 := hC4.below hb5 hC4.lt
  have hA5 := hA4.below hb5 hA4.lt
  have hC6 := hC1.below hb5 hC1.lt
  have hA6 := hA1.below hb5 hA1.lt
  have q5 := q4.trans (hb5.mono q4.size)
  clear hb5 hC4 hA4 hC1 hA1 q4 ho
  have c0 : w5.cell? ⟨w3.heap.size, 0, none⟩ = some (.int .i64 1) := hC5.cell 0
  have c1 : w5.cell? ⟨w3.heap.size, 1, none⟩ = some (.int .i64 1) := hC5.cell 1
  have c2 : w5.cell? ⟨w3.heap.size, 2, none⟩ = some (.int .i64 2) := hC5.cell 2
  have c3 : w5.cell? ⟨w3.heap.size, 3, none⟩ = some (.int .i64 8) := hC5.cell 3
  have c4 : w5.cell? ⟨w3.heap.size, 4, none⟩ = some (.int .i64 1) := hC5.cell 4
  have a0 : w5.cell? ⟨w3.heap.size + 1, 0, none⟩ = some (.int .i64 2) := hA5.cell 0
  have a1 : w5.cell? ⟨w3.heap.size + 1, 1, none⟩ = some (.int .i64 1000) := hA5.cell 1
  have a2 : w5.cell? ⟨w3.heap.size + 1, 2, none⟩ = some (.bool false) := hA5.cell 2
  have d0 : w5.cell? ⟨G1, 0, none⟩ = some (.int .i64 1) := hC6.cell 0
  have d1 : w5.cell? ⟨G1, 1, none⟩ = some (.int .i64 1) := hC6.cell 1
  have d2 : w5.cell? ⟨G1, 2, none⟩ = some (.int .i64 2) := hC6.cell 2
  have d3 : w5.cell? ⟨G1, 3, none⟩ = some (.int .i64 8) := hC6.cell 3
  have d4 : w5.cell? ⟨G1, 4, none⟩ = some (.int .i64 1) := hC6.cell 4
  have b0 : w5.cell? ⟨(G1 + 1), 0, none⟩ = some (.int .i64 2) := hA6.cell 0
  have b1 : w5.cell? ⟨(G1 + 1), 1, none⟩ = some (.int .i64 1000) := hA6.cell 1
  have b2 : w5.cell? ⟨(G1 + 1), 2, none⟩ = some (.bool false) := hA6.cell 2
  clear hC5 hA5 hC6 hA6
  have hK := hCk w5 (HL.out.on q5)
  go_wp2_with fail
  refine hK.mono ?_
  rintro e w6 ⟨rfl, hb6⟩
  go_wp2
  go_ret
  exact ⟨by simp, q5.trans (hb6.mono q5.size)⟩
end Go.Proofs.YtmkdmnaonddghaaDoor
