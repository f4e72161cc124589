/- What conf's front, number and the two closures of Parse answer. Conditions: the variables lie as they are laid; texts of at most 100000 octets. -/
import Derived.Test.YtmkdmnaonddghaaDoorWordsP
import Derived.Test.YtmkdmnaonddghaaDoorCtake
import Derived.Deep.MidRow
namespace Go.Proofs.YtmkdmnaonddghaaDoor
open Go.RowKit Nine

theorem info64 : (Tryd.prog.info? 64).map (·.size) = some 4 := by kernel_rfl
def nameV (k : Nat) : List Value := [.string (txt (nameAt k 0)), .string (txt (nameAt k 1)), .string (txt (nameAt k 2)), .string (txt (nameAt k 3))]
theorem nidx (k j : Nat) (hj : j < 4) (W : World) : (Instr.index 64 (.agg (nameV k).toArray) (.int .i64 (j : Int))).run Tryd.prog W = .ok (.string (txt (nameAt k j))) W := by
  rcases (by omega : j = 0 ∨ j = 1 ∨ j = 2 ∨ j = 3) with rfl | rfl | rfl | rfl <;> kernel_rfl
theorem Laid.names4 {w : World} (h : Laid w) (k : Nat) (hk : k < 4) : w.rangeAt 1 (k * 4) (nameV k) := by
  intro j v hv
  have hj : j < 4 := by
    have := (List.getElem?_eq_some_iff.1 hv).1
    simpa [nameV] using this
  have hn := h.name k j hk hj
  rcases (by omega : j = 0 ∨ j = 1 ∨ j = 2 ∨ j = 3) with rfl | rfl | rfl | rfl <;> (simp [nameV] at hv; rw [← hv]; exact hn)
set_option maxRecDepth 100000 in
theorem number_any (k : Nat) (hk : k < 4) (x : List UInt8) (w : World) (hL : Laid w) :
    Calls Tryd.prog 40 #[.int .i64 (k : Int), .string (txt x)] w fun e w' => e = .returned (.tuple #[.int .i64 (numK k x).1, .bool (numK k x).2]) ∧ w = w' := by
  have hr := hL.names4 k hk
  have hi := fun j hj W => nidx k j hj W
  have hl : (Tryd.prog.info? 64).map (·.size) = some (nameV k).length := info64
  have j0 : (0 : Int) ≤ (k : Int) := by omega
  have j1 : (k : Int) < 4 := by omega
  have hK : numK k x = numFrom k x 4 0 := rfl
  rw [hK]
  clear hK
  obtain ⟨z, ez⟩ : ∃ z, numFrom k x 4 0 = z := ⟨_, rfl⟩
  rw [ez]
  have EZ := Lib.hid ez
  clear ez
  generalize nameV k = NV at *
  go_enter Tryd.func40, Tryd.ntmps40
  go_wp2_with (refine wpList_load_mid rfl 64 (.tmp 9) rfl 1 (k * 4) rfl NV _ hr Tryd.underlying64 rfl hl ?_)
  clear hr hl
  go_loop [6, 7, 11] (fun _ _ i => ∃ j : Nat, j ≤ 4 ∧ i = .int .i64 j ∧ numFrom k x (4 - j) j = z) (fun _ _ i => 4 - (intOf i).toNat)
  case atStart => exact ⟨0, by omega, rfl, EZ.out⟩
  case round =>
    obtain ⟨j, hj, rfl, hz⟩ := hrel
    clear EZ
    by_cases hlt : j < 4
    · have hix := hi j hlt
      have t0 : decide ((j : Int) < 4) = true := decide_eq_true (by omega)
      rw [show 4 - j = (4 - (j + 1)) + 1 by omega] at hz
      unfold numFrom at hz
      by_cases he : nameAt k j = x
      · rw [if_pos he] at hz
        have t1 : ((txt (nameAt k j)).toList == (txt x).toList) = true := by rw [eq_txt, he]; simp
        have HZ := Lib.hid hz
        clear hz he
        go_wp2
        go_ret2
        rw [← HZ.out]
        exact ⟨rfl, rfl⟩
      · rw [if_neg he] at hz
        have t1 : ((txt (nameAt k j)).toList == (txt x).toList) = false := by rw [eq_txt]; exact decide_eq_false fun e => he (txt_inj e)
        have HZ := Lib.hid hz
        clear hz he
        go_wp2
        go_round
        case rel => exact ⟨j + 1, by omega, by go_num, HZ.out⟩
        case measure => simp [intOf]; omega
    · obtain rfl : j = 4 := by omega
      have HZ := Lib.hid hz
      clear hz
      go_wp2
      go_ret2
      rw [← HZ.out]
      exact ⟨rfl, rfl⟩
set_option maxRecDepth 100000 in
theorem front_any (s : ByteArray) (hs : s.size ≤ 100000) (n : Nat) (hn : n ≤ 1000) (w : World) :
    Calls Tryd.prog 38 #[.string s, .int .i64 (n : Int)] w fun e w' => e = .returned (.string (txt (frontL n (oct s)))) ∧ Below w.heap.size w w' := by
  go_enter Tryd.func38, Tryd.ntmps38
  go_wp2
  go_loopw [5, 8] (fun v i wr => ∃ j : Nat, j ≤ n ∧ i = .int .i64 j ∧ v = .string (txt (leftN j (oct s))) ∧ Below w.heap.size w wr) (fun _ i _ => n - (intOf i).toNat)
  case atStart => exact ⟨0, Nat.zero_le _, rfl, by rw [leftN, txt_oct], Below.refl _ _⟩
  case round =>
    obtain ⟨j, hj, rfl, rfl, hb⟩ := hrel
    have hll := leftN_len j (oct s)
    rw [oct_len] at hll
    by_cases hlt : j < n
    · have t0 : decide ((j : Int) < (n : Int)) = true := decide_eq_true (by omega)
      have HN := Lib.hid (leftN_snoc j (oct s))
      have hT := fun W => Tryd.strings_TrimLeft_one (txt (leftN j (oct s))) 32 (by decide) W
      have e1 : (⟨(Lib.trimLeftB (txt (leftN j (oct s))).data.toList 32).toArray⟩ : ByteArray) = txt (Lib.trimLeftB (leftN j (oct s)) 32) := rfl
      rw [e1] at hT
      clear e1
      have htl : (Lib.trimLeftB (leftN j (oct s)) 32).length ≤ s.size := Nat.le_trans (List.dropWhile_sublist _).length_le hll
      have hCt := fun W => cutc_any (txt (Lib.trimLeftB (leftN j (oct s)) 32)) 32 (by rw [txt_size]; omega) W
      rw [oct_txt] at hCt
      have HX : Hid (((Lib.trimLeftB (leftN j (oct s)) 32).dropWhile (off 32)).drop 1 = leftN (j + 1) (oct s)) := Lib.hid HN.out.symm
      rw [HX.out] at hCt
      generalize ((Lib.trimLeftB (leftN j (oct s)) 32).takeWhile (off 32)) = x1 at *
      generalize Lib.trimLeftB (leftN j (oct s)) 32 = x2 at *
      go_wp2_with fail
      refine (hT _).mono ?_
      rintro e w1 ⟨rfl, rfl⟩
      go_wp2_with fail
      refine (hCt _).mono ?_
      rintro e w2 ⟨b, rfl, hb2⟩
      go_wp2
      go_roundw
      case rel => exact ⟨j + 1, by omega, by go_num, rfl, hb.trans (hb2.mono hb.size)⟩
      case measure => simp [intOf]; omega
    · obtain rfl : j = n := by omega
      have t0 : decide ((j : Int) < (j : Int)) = false := decide_eq_false (by omega)
      have hF : frontL j (oct s) = (oct s).take (s.size - (leftN j (oct s)).length) := by unfold frontL; rw [oct_len]
      have hz := txt_size (leftN j (oct s))
      obtain ⟨q, eq⟩ : ∃ q, s.size - (leftN j (oct s)).length = q := ⟨_, rfl⟩
      have e1 : (s.size : Int) - ((txt (leftN j (oct s))).size : Int) = (q : Int) := by omega
      have hq : q ≤ s.size := by omega
      rw [eq] at hF
      have HF := Lib.hid hF
      clear hF eq hll hz
      generalize txt (leftN j (oct s)) = tl at *
      go_wp2
      go_ret
      refine ⟨?_, hb⟩
      have hx : s.extract 0 q = txt ((oct s).take q) := by rw [extract_txt]; rfl
      rw [HF.out, ← hx]
      rfl
/-- Behind a closure of Parse: whether all words were good so far, in block g. -/
def Formed (g : Nat) (b : Bool) (w : World) (v : Int) (e : Ending) (w' : World) : Prop := e = .returned (.int .i64 v) ∧ Blk w' g 4 #[.bool b] ∧ w.grownBy w' (some g)
theorem form_set {w w' : World} {g : Nat} {b b' : Bool} (h : Blk w g 4 #[.bool b]) (hg : w.grownBy w' none) : Blk (w'.setCell ⟨g, 0, none⟩ (.bool b')) g 4 #[.bool b'] ∧ w.grownBy (w'.setCell ⟨g, 0, none⟩ (.bool b')) (some g) := by
  have h' : Blk w' g 4 #[.bool b] := (hg.block g h.lt (by simp)).trans h
  exact ⟨h'.set_ 0 (.bool b'), grown_set (hg.but _) _⟩
set_option maxRecDepth 100000 in
theorem pname_any (k : Nat) (hk : k < 4) (x : List UInt8) (g : Nat) (b : Bool) (w : World) (hL : Laid w) (hB : Blk w g 4 #[.bool b]) :
    Calls Tryd.prog 39 #[.int .i64 (k : Int), .string (txt x), .pointer (some ⟨g, 0, none⟩)] w (Formed g (b && (numK k x).2) w (numK k x).1) := by
  have hN := number_any k hk x w hL
  obtain ⟨⟨v, ok⟩, ez⟩ : ∃ z, numK k x = z := ⟨_, rfl⟩
  rw [ez] at hN ⊢
  simp only at hN ⊢
  clear ez
  have c0 : w.cell? ⟨g, 0, none⟩ = some (.bool b) := hB.cell 0
  have f0 := hB.free 0
  cases b
  · have hE := form_set (b' := false) hB (World.grownBy.refl w none)
    go_enter Tryd.func39, Tryd.ntmps39
    go_wp2_with (refine hN.mono ?_; rintro e w1 ⟨rfl, rfl⟩)
    go_ret
    exact ⟨rfl, hE⟩
  · have hE := form_set (b' := ok) hB (World.grownBy.refl w none)
    go_enter Tryd.func39, Tryd.ntmps39
    go_wp2_with (refine hN.mono ?_; rintro e w1 ⟨rfl, rfl⟩)
    go_ret
    exact ⟨rfl, by simpa using hE⟩
set_option maxRecDepth 100000 in
theorem pnum_any (x : List UInt8) (hx : x.length ≤ 100000) (g : Nat) (b : Bool) (w : World) (hL : Laid w) (hB : Blk w g 4 #[.bool b]) :
    Calls Tryd.prog 41 #[.string (txt x), .pointer (some ⟨g, 0, none⟩)] w (Formed g (b && (numL x).2) w (boundI (numL x).1)) := by
  have hN := num_any (txt x) (by rw [txt_size]; omega) w hL
  rw [oct_txt] at hN
  obtain ⟨⟨v, ok⟩, ez⟩ : ∃ z, numL x = z := ⟨_, rfl⟩
  rw [ez] at hN ⊢
  simp only at hN ⊢
  clear ez
  cases b
  · go_enter Tryd.func41, Tryd.ntmps41
    go_wp2_with fail
    refine hN.mono ?_
    rintro e w1 ⟨rfl, hb⟩
    have hg := grown_below hb none
    have hE := form_set (b' := false) hB hg
    have hB1 := hB.below hb hB.lt
    have c0 : w1.cell? ⟨g, 0, none⟩ = some (.bool false) := hB1.cell 0
    have f0 := hB1.free 0
    go_wp2_with fail
    refine (bounded_any _ _).mono ?_
    rintro e w2 ⟨rfl, rfl⟩
    go_wp2
    go_ret
    exact ⟨rfl, hE⟩
  · go_enter Tryd.func41, Tryd.ntmps41
    go_wp2_with fail
    refine hN.mono ?_
    rintro e w1 ⟨rfl, hb⟩
    have hg := grown_below hb none
    have hE := form_set (b' := ok) hB hg
    have hB1 := hB.below hb hB.lt
    have c0 : w1.cell? ⟨g, 0, none⟩ = some (.bool true) := hB1.cell 0
    have f0 := hB1.free 0
    go_wp2_with fail
    refine (bounded_any _ _).mono ?_
    rintro e w2 ⟨rfl, rfl⟩
    go_wp2
    go_ret
    exact ⟨rfl, by simpa using hE⟩
end Go.Proofs.YtmkdmnaonddghaaDoor
