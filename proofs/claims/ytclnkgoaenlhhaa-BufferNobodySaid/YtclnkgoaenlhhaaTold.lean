/- How a buffer stands, told by a list. Conditions: none. -/
import Derived.Test.YtclnkgoaenlhhaaRef
namespace Go.Proofs.Ytclnkgoaenlhhaa
open Go.RowKit Go.Conc Go.ChangeShapes Go.WideShapes

set_option maxRecDepth 100000 in
set_option maxHeartbeats 4000000 in
theorem told_any (p c room : Nat) (A : Option Addr) (cp B : Nat) (xs : List Ent) (x : Pl) (g : Int) (w : World) (h : Buf w p c room xs) (ho : Own w B A xs.length cp xs) :
    Calls Try.prog 10 #[.pointer (some ⟨p, 0, none⟩), .slice A xs.length cp, .int .i64 (room : Int), .agg #[.int .i64 x.k, .int .i64 x.i, .int .i64 x.j], .int .i64 g] w fun e w' => e = .returned (.bool true) ∧ Buf w' p c room xs ∧ w.grownBy w' (some c) := by
  have hm := h.most
  have hf := h.holds.fits
  have hlo := h.len
  obtain ⟨n, hn⟩ : ∃ n, n = xs.length := ⟨_, rfl⟩
  rw [← hn] at ho hf hlo ⊢
  have hn4 : (n : Int) ≤ 4 := by omega
  have hclt := h.holds.lt
  obtain ⟨W0, eW0⟩ : ∃ W, w.alloc (.cells #[.int .i64 x.k, .int .i64 x.i, .int .i64 x.j] 31) = W := ⟨_, rfl⟩
  have hb0 : Below w.heap.size w W0 := by rw [← eW0]; exact (Below.refl _ w).alloc (Nat.le_refl _) _
  have hx0 : Blk W0 w.heap.size 31 x.cs.toArray := by rw [← eW0]; exact blk_new w #[.int .i64 x.k, .int .i64 x.i, .int .i64 x.j] 31 _ rfl
  have h0 := h.below hb0
  have ho0 := ho.below hb0
  have hla := last_buf' p c room xs x g W0 h0
  have hrl := fun W (hW : SeesE W A n cp xs) => rlast_any A n cp xs x g W hW
  have hV : lastW xs x g = wordO xs (lastO xs x g) := rfl
  have hBo : lastB xs x g = (lastO xs x g).isSome := rfl
  have hIx : ∀ k, lastO xs x g = some k → k < n := fun k hk => by rw [hn]; exact lastI_lt _ _ _ _ _ hk
  rw [hBo] at hla
  clear hBo
  generalize lastW xs x g = V at hla hV
  have hla2 : Calls Try.prog 13 #[.pointer (some ⟨p, 0, none⟩), .agg #[.int .i64 x.k, .int .i64 x.i, .int .i64 x.j], .int .i64 g] W0 fun e w' => e = .returned (.tuple #[.agg #[.int .i64 V.n, .int .i64 V.c, .int .i64 V.g], .bool (lastO xs x g).isSome]) ∧ Buf w' p c room xs ∧ W0.grownBy w' (some c) := hla
  clear hla
  have heqV : ∀ W, (binOp BinOp.eql 33 (.agg #[.int .i64 V.n, .int .i64 V.c, .int .i64 V.g]) (.agg #[.int .i64 V.n, .int .i64 V.c, .int .i64 V.g])).run Try.prog W = .ok (.bool true) W := fun W => by
    have := eq33 V V W
    rw [decide_eq_true rfl] at this
    exact this
  have x0 : W0.cell? ⟨w.heap.size, 0, none⟩ = some (.int .i64 x.k) := hx0.cell 0
  have x1 : W0.cell? ⟨w.heap.size, 1, none⟩ = some (.int .i64 x.i) := hx0.cell 1
  have x2 : W0.cell? ⟨w.heap.size, 2, none⟩ = some (.int .i64 x.j) := hx0.cell 2
  generalize lastO xs x g = O at hla2 hrl hV hIx
  have HN := Lib.hid hn
  clear hn
  have HV := Lib.hid hV
  clear hV
  go_enter Try.func10, Try.ntmps10
  go_wp2_with fail
  refine hla2.mono ?_
  rintro e w1 ⟨rfl, h1, hg1⟩
  clear x0 x1 x2 eW0 hla2
  have hx1 : Blk w1 w.heap.size 31 x.cs.toArray := blk_grown hx0 hg1 (fun e => by injection e with e; omega)
  have ho1 := ho0.kept hg1 (ho0.chan h0.holds)
  obtain ⟨W1, eW1⟩ : ∃ W, w1.alloc (.cells #[.int .i64 V.n, .int .i64 V.c, .int .i64 V.g] 33) = W := ⟨_, rfl⟩
  have hb1 : Below w1.heap.size w1 W1 := by rw [← eW1]; exact (Below.refl _ _).alloc (Nat.le_refl _) _
  have hv1 : Blk W1 w1.heap.size 33 V.cs.toArray := by rw [← eW1]; exact blk_new w1 #[.int .i64 V.n, .int .i64 V.c, .int .i64 V.g] 33 _ rfl
  have hx1b := hx1.on hb1
  have h1b := h1.below hb1
  have ho1b := ho1.below hb1
  have hG1 : w.grownBy W1 (some c) := ((grown_below hb0 _).trans hg1).trans (grown_below hb1 _)
  have y0 : W1.cell? ⟨w.heap.size, 0, none⟩ = some (.int .i64 x.k) := hx1b.cell 0
  have y1 : W1.cell? ⟨w.heap.size, 1, none⟩ = some (.int .i64 x.i) := hx1b.cell 1
  have y2 : W1.cell? ⟨w.heap.size, 2, none⟩ = some (.int .i64 x.j) := hx1b.cell 2
  go_wp2_with fail
  refine (hrl W1 ho1b.sees).mono ?_
  rintro e w2 ⟨rfl, hb2⟩
  clear y0 y1 y2 eW1 hrl
  have h2 := h1b.below hb2
  have ho2 := ho1b.below hb2
  have hG2 := hG1.trans (grown_below hb2 _)
  have hv2 := hv1.on hb2
  have hb3 : Below w2.heap.size w2 (w2.alloc (.cells #[.int .i64 0, .int .i64 0, .int .i64 0] 33)) := (Below.refl _ _).alloc (Nat.le_refl _) _
  have hu3 : Blk (w2.alloc (.cells #[.int .i64 0, .int .i64 0, .int .i64 0] 33)) w2.heap.size 33 #[.int .i64 0, .int .i64 0, .int .i64 0] := blk_new w2 #[.int .i64 0, .int .i64 0, .int .i64 0] 33 _ rfl
  have hv3 := hv2.on hb3
  have hB3 := h2.below hb3
  have hO3 := ho2.below hb3
  have hGR3 := hG2.trans (grown_below hb3 _)
  have v30 : (w2.alloc (.cells #[.int .i64 0, .int .i64 0, .int .i64 0] 33)).cell? ⟨w1.heap.size, 0, none⟩ = some (.int .i64 V.n) := hv3.cell 0
  have v31 : (w2.alloc (.cells #[.int .i64 0, .int .i64 0, .int .i64 0] 33)).cell? ⟨w1.heap.size, 1, none⟩ = some (.int .i64 V.c) := hv3.cell 1
  have v32 : (w2.alloc (.cells #[.int .i64 0, .int .i64 0, .int .i64 0] 33)).cell? ⟨w1.heap.size, 2, none⟩ = some (.int .i64 V.g) := hv3.cell 2
  have u30 : (w2.alloc (.cells #[.int .i64 0, .int .i64 0, .int .i64 0] 33)).cell? ⟨w2.heap.size, 0, none⟩ = some (.int .i64 0) := hu3.cell 0
  have u31 : (w2.alloc (.cells #[.int .i64 0, .int .i64 0, .int .i64 0] 33)).cell? ⟨w2.heap.size, 1, none⟩ = some (.int .i64 0) := hu3.cell 1
  have u32 : (w2.alloc (.cells #[.int .i64 0, .int .i64 0, .int .i64 0] 33)).cell? ⟨w2.heap.size, 2, none⟩ = some (.int .i64 0) := hu3.cell 2
  clear h1b ho1b hx1 hx1b h1 hg1 ho1 hb1 hv1 hG1 h0 ho0 hx0 hb0
  cases O with
  | none =>
    have eV : V = noW := HV.out
    have heq0 : ∀ W, (binOp BinOp.eql 33 (.agg #[.int .i64 V.n, .int .i64 V.c, .int .i64 V.g]) (.agg #[.int .i64 0, .int .i64 0, .int .i64 0])).run Try.prog W = .ok (.bool true) W := fun W => by
      have := eq33 V noW W
      rw [decide_eq_true eV] at this
      exact this
    clear eV
    simp only [idxO, Option.isSome_none]
    have hall := all_buf p c room xs _ hB3
    rw [← HN.out] at hall
    go_wp2_with fail
    refine hall.mono ?_
    rintro e w6 ⟨A6, cp6, rfl, ho6, h6, hg6⟩
    have hs6 : SeesE w6 A6 n cp6 xs := own_seesE ho6
    have hl6 := hO3.kept hg6 (hO3.chan hB3.holds)
    go_wp2_with fail
    refine (ents_same _ _ _ _ _ xs w6 hs6 hl6.sees).mono ?_
    rintro e w7 ⟨rfl, hb7⟩
    have h7 := h6.below hb7
    have hlen := len_buf p c room xs w7 h7
    rw [← HN.out] at hlen
    have hful := full_buf p c room xs w7 h7 _ rfl
    rw [← HN.out] at hful
    go_wp2_with fail
    refine hlen.mono ?_
    rintro e w' ⟨rfl, rfl⟩
    go_wp2_with fail
    refine hful.mono ?_
    rintro e w' ⟨rfl, rfl⟩
    go_wp2
    go_ret
    exact ⟨by simp, h7, hGR3.trans (hg6.trans (grown_below hb7 _))⟩
  | some k =>
    have hk := hIx k rfl
    have eV : (xs.getD k noE).v = V := HV.out.symm
    obtain ⟨q, o, rfl, hr⟩ := sees_at' hO3.sees hk
    have r3 : (w2.alloc (.cells #[.int .i64 0, .int .i64 0, .int .i64 0] 33)).cell? ⟨q, o + k * 8 + 3, none⟩ = some (.int .i64 V.n) := by rw [← eV]; exact hr 3 _ rfl
    have r4 : (w2.alloc (.cells #[.int .i64 0, .int .i64 0, .int .i64 0] 33)).cell? ⟨q, o + k * 8 + 3 + 1, none⟩ = some (.int .i64 V.c) := by rw [← eV]; exact hr 4 _ rfl
    have r5 : (w2.alloc (.cells #[.int .i64 0, .int .i64 0, .int .i64 0] 33)).cell? ⟨q, o + k * 8 + 3 + 2, none⟩ = some (.int .i64 V.g) := by rw [← eV]; exact hr 5 _ rfl
    have hkI : (k : Int) < (n : Int) := by omega
    have hk0 : (0 : Int) ≤ (k : Int) := by omega
    clear hr eV
    have hb4 : Below w2.heap.size w2 (w2.alloc (.cells #[.int .i64 V.n, .int .i64 V.c, .int .i64 V.g] 33)) := (Below.refl _ _).alloc (Nat.le_refl _) _
    have hu4 : Blk (w2.alloc (.cells #[.int .i64 V.n, .int .i64 V.c, .int .i64 V.g] 33)) w2.heap.size 33 #[.int .i64 V.n, .int .i64 V.c, .int .i64 V.g] := blk_new w2 #[.int .i64 V.n, .int .i64 V.c, .int .i64 V.g] 33 _ rfl
    have hv4 := hv2.on hb4
    have hB4 := h2.below hb4
    have hO4 := ho2.below hb4
    have hGR4 := hG2.trans (grown_below hb4 _)
    have v40 : (w2.alloc (.cells #[.int .i64 V.n, .int .i64 V.c, .int .i64 V.g] 33)).cell? ⟨w1.heap.size, 0, none⟩ = some (.int .i64 V.n) := hv4.cell 0
    have v41 : (w2.alloc (.cells #[.int .i64 V.n, .int .i64 V.c, .int .i64 V.g] 33)).cell? ⟨w1.heap.size, 1, none⟩ = some (.int .i64 V.c) := hv4.cell 1
    have v42 : (w2.alloc (.cells #[.int .i64 V.n, .int .i64 V.c, .int .i64 V.g] 33)).cell? ⟨w1.heap.size, 2, none⟩ = some (.int .i64 V.g) := hv4.cell 2
    have u40 : (w2.alloc (.cells #[.int .i64 V.n, .int .i64 V.c, .int .i64 V.g] 33)).cell? ⟨w2.heap.size, 0, none⟩ = some (.int .i64 V.n) := hu4.cell 0
    have u41 : (w2.alloc (.cells #[.int .i64 V.n, .int .i64 V.c, .int .i64 V.g] 33)).cell? ⟨w2.heap.size, 1, none⟩ = some (.int .i64 V.c) := hu4.cell 1
    have u42 : (w2.alloc (.cells #[.int .i64 V.n, .int .i64 V.c, .int .i64 V.g] 33)).cell? ⟨w2.heap.size, 2, none⟩ = some (.int .i64 V.g) := hu4.cell 2
    simp only [idxO, Option.isSome_some]
    have hall := all_buf p c room xs _ hB4
    rw [← HN.out] at hall
    go_wp2_with fail
    refine hall.mono ?_
    rintro e w6 ⟨A6, cp6, rfl, ho6, h6, hg6⟩
    have hs6 : SeesE w6 A6 n cp6 xs := own_seesE ho6
    have hl6 := hO4.kept hg6 (hO4.chan hB4.holds)
    go_wp2_with fail
    refine (ents_same _ _ _ _ _ xs w6 hs6 hl6.sees).mono ?_
    rintro e w7 ⟨rfl, hb7⟩
    have h7 := h6.below hb7
    have hlen := len_buf p c room xs w7 h7
    rw [← HN.out] at hlen
    have hful := full_buf p c room xs w7 h7 _ rfl
    rw [← HN.out] at hful
    go_wp2_with fail
    refine hlen.mono ?_
    rintro e w' ⟨rfl, rfl⟩
    go_wp2_with fail
    refine hful.mono ?_
    rintro e w' ⟨rfl, rfl⟩
    go_wp2
    go_ret
    exact ⟨by simp, h7, hGR4.trans (hg6.trans (grown_below hb7 _))⟩
end Go.Proofs.Ytclnkgoaenlhhaa
