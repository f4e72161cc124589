/- What asm's instr and Instr answer: the instruction of a line, or what is wrong. Conditions: the variables lie as they are laid; no word is longer than memory bears. -/
import Derived.Test.YtodklfjoeehinaaDoorOps
import Derived.Deep.RegionHeld3
import Derived.Deep.CutRange
namespace Go.Proofs.YtodklfjoeehinaaDoor
open Go.RowKit Nine

theorem ins_one (o a b c n : Int) : (ins o a b c n).all (·.oneCell') = true := by simp [ins, Value.oneCell']
theorem info25 : (Tryd.prog.info? 25).map (·.size) = some 5 := by kernel_rfl
theorem resI (f : Func) (hr : f.results = #[.cell 2 25, .tmp 3]) (tmps : Array Value) (w : World) (g : Nat) (o a b c n : Int) (u : Value) (hp : tmps[2]?.getD undef = .pointer (some ⟨g, 0, none⟩)) (hu : tmps[3]?.getD undef = u) (hg : Blk w g 25 (ins o a b c n)) :
    (results f tmps).run Tryd.prog w = .ok (.tuple #[.agg (ins o a b c n), u]) w := by
  rw [results_cell_tmp hr]
  have h2 : tmps.getD 2 undef = .pointer (some ⟨g, 0, none⟩) := by simpa using hp
  have h3 : tmps.getD 3 undef = u := by simpa using hu
  rw [h2, h3]
  have hl := run_loadVar_row w g 25 25 (ins o a b c n) (0, 0) _ hg Tryd.underlying25 rfl info25
  simp [asAddr, Result.andThen, hl]
theorem narrow_any (n : Int) (w : World) : Calls Tryd.prog 34 #[.int .i64 n] w fun e w' => e = .returned (.bool (narrow n)) ∧ w = w' := by
  unfold narrow
  by_cases h0 : 0 ≤ n
  · have t0 : decide (0 ≤ n) = true := decide_eq_true h0
    rw [t0, Bool.true_and]
    go_enter Tryd.func34, Tryd.ntmps34
    go_wp2
    go_ret
    exact ⟨rfl, rfl⟩
  · have t0 : decide (0 ≤ n) = false := decide_eq_false h0
    rw [t0, Bool.false_and]
    clear h0
    go_enter Tryd.func34, Tryd.ntmps34
    go_wp2
    go_ret
    exact ⟨rfl, rfl⟩
theorem shape_ascii (k : Nat) (h1 : 1 ≤ k) (h2 : k ≤ 25) : ∀ c ∈ shapeAt k, c.toNat < 128 :=
  (by decide +kernel : ∀ k, k < 26 → ∀ c ∈ shapeAt k, c.toNat < 128) k (by omega)
theorem insA_none (k : Nat) (l : Option (List Int)) (h : ∀ a b c n, l ≠ some [a, b, c, n]) : insA k l = (zeroI, 1) := by
  unfold insA
  split
  · rename_i a b c n
    exact absurd rfl (h a b c n)
  · rfl
theorem parts_lens (c : UInt8) : ∀ (n : Nat) (l x : List UInt8), x ∈ partsF c n l → x.length ≤ l.length
  | 0, _, _, h => by simp [partsF] at h
  | n + 1, l, x, h => by
    by_cases e : l = []
    · simp [partsF, e] at h
    · simp only [partsF, e, if_false] at h
      rcases List.mem_cons.1 h with rfl | h
      · exact (List.takeWhile_sublist _).length_le
      · have h1 := parts_lens c n _ _ h
        have h2 := drop_len c l e
        omega
theorem words_len (l : List UInt8) : ∀ x ∈ wordsL l, x.length ≤ l.length := fun _ hx => parts_lens 32 _ _ _ (List.mem_filter.1 hx).1
/-- What instr answers. -/
def Told (x : Ins × Int) (w : World) (e : Ending) (w' : World) : Prop := e = .returned (.tuple #[.agg (ins x.1.o x.1.a x.1.b x.1.c x.1.n), .int .i64 x.2]) ∧ Below w.heap.size w w'

set_option maxRecDepth 100000 in
set_option maxHeartbeats 4000000 in
theorem instr_any (A : Option Addr) (n cap : Nat) (ws : List (List UInt8)) (w : World) (hR : Row w w.heap.size A n cap ws) (hx : ∀ x ∈ ws, x.length ≤ 140737488355328) (hL : Laid w) :
    Calls Tryd.prog 16 #[.slice A n cap] w (Told (instrA ws) w) := by
  have hrl := hR.len
  have hrm := hR.room
  have hmx := hR.most
  unfold maxLen at hmx
  obtain ⟨W0, eW0⟩ : ∃ W0, W0 = w.alloc (.cells #[.int .i64 0, .int .i64 0, .int .i64 0, .int .i64 0, .int .i64 0] 25) := ⟨_, rfl⟩
  have b0 : Below w.heap.size w W0 := by rw [eW0]; exact (Below.refl _ w).alloc (Nat.le_refl _) _
  have p0 : Blk W0 w.heap.size 25 (ins 0 0 0 0 0) := by rw [eW0]; exact heap_alloc_new w _
  cases ws with
  | nil =>
    obtain rfl : n = 0 := by simpa using hrl.symm
    clear hR hrl hrm hL
    go_enter Tryd.func16, Tryd.ntmps16
    go_wp2_with fail
    rw [← eW0]
    clear eW0
    refine bodyPost_ret (resI _ (by kernel_rfl) _ _ w.heap.size 0 0 0 0 0 _ rfl rfl p0) rfl ?_
    exact ⟨rfl, b0⟩
  | cons x r =>
    obtain ⟨m, rfl⟩ : ∃ m, n = m + 1 := ⟨r.length, by simpa using hrl.symm⟩
    obtain ⟨ad, rfl, hadl, hcw⟩ := (hR.below b0).at_ 0 (by omega)
    rw [add_nought] at hcw
    simp only [List.getD_cons_zero] at hcw
    rw [eW0] at hcw
    have hO := op_any (txt x) W0 (hL.on b0)
    rw [oct_txt] at hO
    have htl := tl_row hR
    obtain ⟨k, hk⟩ : ∃ k, opOf x = k := ⟨_, rfl⟩
    have hcs := opOf_cases x
    rw [hk] at hO hcs
    have HL := Lib.hid hL
    by_cases h0 : k = 0
    · have hI : instrA (x :: r) = (zeroI, 2) := by simp [instrA, hk, h0]
      rw [hI]
      subst h0
      clear hI hk hcs hR hrl htl hL
      go_enter Tryd.func16, Tryd.ntmps16
      go_wp2_with fail
      rw [← eW0]
      clear eW0
      refine hO.mono ?_
      rintro e w1 ⟨rfl, hb1⟩
      have p1 := p0.below hb1 p0.lt
      go_wp2_with (refine wpList_store_row rfl 25 (.tmp 2) (.tmp 17) rfl w.heap.size (ins 0 0 0 0 0) rfl rfl 25 (ins 0 0 0 0 0) p1 info25 rfl (ins_one 0 0 0 0 0) ?_)
      refine bodyPost_ret (resI _ (by kernel_rfl) _ _ w.heap.size 0 0 0 0 0 _ rfl rfl (setRow_heap _ _ _ _ _ _ p1)) rfl ?_
      exact ⟨rfl, below_setRow (b0.trans (hb1.mono b0.size)) (Nat.le_refl _) _⟩
    · have hI : instrA (x :: r) = insA k (opsA (shapeAt k) r) := by simp [instrA, hk, h0]
      obtain ⟨hk1, hk2, _⟩ := hcs.resolve_right h0
      rw [hI]
      have eS : shapeZ (k : Int) = shapeAt k := by
        have : isOp (k : Int) = true := decide_eq_true (by omega)
        simp [shapeZ, this]
      have HS : Hid (∀ W, Laid W → Calls Tryd.prog 33 #[.int .i64 k] W fun e w' => e = .returned (.string (txt (shapeAt k))) ∧ Below W.heap.size W w') := Lib.hid fun W hW => by rw [← eS]; exact shape_any k W hW
      have HO : Hid (∀ W, Below w.heap.size w W → Calls Tryd.prog 32 #[.string (txt (shapeAt k)), .slice (tl (some ad) cap) m (cap - 1)] W fun e w' => ∃ a b c n ok, e = .returned (.tuple #[.agg #[.int .i64 a, .int .i64 b, .int .i64 c, .int .i64 n], .bool ok]) ∧ Below W.heap.size W w' ∧ Hid (if ok = true then opsA (shapeAt k) r = some [a, b, c, n] else ∀ a b c n, opsA (shapeAt k) r ≠ some [a, b, c, n])) :=
        Lib.hid fun W hW => (ops_any (shapeAt k) (shapes_four k hk1 hk2) (shape_ascii k hk1 hk2) _ _ _ r W ((htl.below hW).more hW.size) (fun y hy => hx y (List.mem_cons_of_mem _ hy)) (HL.out.on hW)).mono fun e w' h => by
          rcases h with ⟨a, b, c, n, h1, h2, h3⟩ | ⟨a, b, c, n, h1, h2, h3⟩
          · exact ⟨a, b, c, n, true, h1, h3, Lib.hid (by rw [if_pos rfl]; exact h2)⟩
          · exact ⟨a, b, c, n, false, h1, h3, Lib.hid (by rw [if_neg (by decide)]; exact h2)⟩
      have t0 : ((k : Int) == 0) = false := by simp; omega
      have hsl := cut_first (some ad) m cap
      have K1 := Lib.hid hk1
      clear hI hk hcs hR hrl htl hL hk2 hk1 eS hx
      generalize txt (shapeAt k) = sh at *
      generalize opsA (shapeAt k) r = ol at *
      obtain ⟨z, hz⟩ : ∃ z, insA k ol = z := ⟨_, rfl⟩
      rw [hz]
      have HZ := Lib.hid hz
      clear hz
      go_enter Tryd.func16, Tryd.ntmps16
      go_wp2_with fail
      rw [← eW0]
      clear eW0
      refine hO.mono ?_
      rintro e w1 ⟨rfl, hb1⟩
      have p1 := p0.below hb1 p0.lt
      have q1 : Below w.heap.size w w1 := b0.trans (hb1.mono b0.size)
      clear hb1 p0 b0 hO hcw
      have k0 : Below w1.heap.size w1 w1.drew := (Below.refl _ _).drew
      have tS : ∀ W, Below w1.heap.size w1 W → Calls Tryd.prog 33 #[.int .i64 k] W fun e w' => e = .returned (.string sh) ∧ Below W.heap.size W w' := fun W hW => HS.out W ((HL.out.on q1).on hW)
      have tO := fun W (hW : Below w1.heap.size w1 W) => HO.out W (q1.trans (hW.mono q1.size))
      clear HS HO
      go_upto_region 6 with fail
      go_cut [5, 6] from 18 to 25 (fun p o wx => ∃ g a b c n ok, p = .pointer (some ⟨g, 0, none⟩) ∧ o = .bool ok ∧ Blk wx g 60 #[.int .i64 a, .int .i64 b, .int .i64 c, .int .i64 n] ∧ Below w1.heap.size w1 wx ∧ Hid (if ok = true then ol = some [a, b, c, n] else ∀ a b c n, ol ≠ some [a, b, c, n]))
      case first =>
        refine wp_region_noPanic ?_
        refine wp_region_held_drew (S := fun _ => True) (by kernel_rfl) trivial (fun hHeld => ?_)
        refine wpAnyH_take (i := 0) (oi := ⟨some 19, _, _, _, _, _⟩) (v := ?_) rfl (by kernel_rfl) (by kernel_rfl) (by kernel_rfl) (fun _ _ _ h => h) (Or.inl ⟨by rfl, ?_⟩) (by assumption) ?_
        rotate_left 1
        · (intro W hSw; go_simp <;> with_reducible rfl)
        try simp only [Act.put, List.setIfInBounds_toArray, List.set_cons_zero, List.set_cons_succ]
        refine wpAnyH_take (i := 2) (oi := ⟨some 21, _, _, _, _, _⟩) (v := ?_) rfl (by kernel_rfl) (by kernel_rfl) (by kernel_rfl) (fun _ _ _ h => h) (Or.inl ⟨by rfl, ?_⟩) (by assumption) ?_
        rotate_left 1
        · (intro W hSw; go_simp <;> with_reducible rfl)
        try simp only [Act.put, List.setIfInBounds_toArray, List.set_cons_zero, List.set_cons_succ]
        refine wpAnyH_take (i := 3) (oi := ⟨some 22, _, _, _, _, _⟩) (v := ?_) rfl (by kernel_rfl) (by kernel_rfl) (by kernel_rfl) (fun _ _ _ h => h) (Or.inl ⟨by rfl, ?_⟩) (by assumption) ?_
        rotate_left 1
        · (intro W hSw; go_simp <;> with_reducible rfl)
        try simp only [Act.put, List.setIfInBounds_toArray, List.set_cons_zero, List.set_cons_succ]
        refine wpAnyH_ready (rs := [1, 8]) (by kernel_rfl) (by simp) ?_
        refine AllReadyH.cons rfl (fun K hK => ?_) (AllReadyH.cons rfl (fun K hK => ?_) AllReadyH.nil)
        · go_simp
          refine (tS _ k0).mono ?_
          rintro e w5 ⟨rfl, hb5⟩
          have k5 := Below.trans k0 (hb5.mono (Below.size k0))
          refine hK.out _ _ trivial (fun hHeld0 => ?_)
          clear hK K
          try simp only [Act.put, List.setIfInBounds_toArray, List.set_cons_zero, List.set_cons_succ]
          refine wpAnyH_ready (rs := [4, 8]) (by kernel_rfl) (by simp) ?_
          refine AllReadyH.cons rfl (fun K hK => ?_) (AllReadyH.cons rfl (fun K hK => ?_) AllReadyH.nil)
          · go_simp
            refine (tO _ k5).mono ?_
            rintro e w6 ⟨a, b, c, n, ok, rfl, hb6, hf⟩
            have k6 := Below.trans k5 (hb6.mono (Below.size k5))
            refine hK.out _ _ trivial (fun hHeld1 => ?_)
            clear hK K
            try simp only [Act.put, List.setIfInBounds_toArray, List.set_cons_zero, List.set_cons_succ]
            refine wpAnyH_take (i := 5) (oi := ⟨some 18, _, _, _, _, _⟩) (v := ?_) rfl (by kernel_rfl) (by kernel_rfl) (by kernel_rfl) (fun _ _ _ h => h) (Or.inl ⟨by rfl, ?_⟩) (by assumption) ?_
            rotate_left 1
            · (intro W hSw; go_simp <;> with_reducible rfl)
            try simp only [Act.put, List.setIfInBounds_toArray, List.set_cons_zero, List.set_cons_succ]
            refine wpAnyH_take (i := 6) (oi := ⟨some 24, _, _, _, _, _⟩) (v := ?_) rfl (by kernel_rfl) (by kernel_rfl) (by kernel_rfl) (fun _ _ _ h => h) (Or.inl ⟨by rfl, ?_⟩) (by assumption) ?_
            rotate_left 1
            · (intro W hSw; go_simp <;> with_reducible rfl)
            try simp only [Act.put, List.setIfInBounds_toArray, List.set_cons_zero, List.set_cons_succ]
            refine wpAnyH_take (i := 7) (oi := ⟨some 25, _, _, _, _, _⟩) (v := ?_) rfl (by kernel_rfl) (by kernel_rfl) (by kernel_rfl) (fun _ _ _ h => h) (Or.inl ⟨by rfl, ?_⟩) (by assumption) ?_
            rotate_left 1
            · (intro W hSw; go_simp <;> with_reducible rfl)
            try simp only [Act.put, List.setIfInBounds_toArray, List.set_cons_zero, List.set_cons_succ]
            refine wpAnyH_ready (rs := [8]) (by kernel_rfl) (by simp) ?_
            refine AllReadyH.cons rfl (fun K hK => ?_) AllReadyH.nil
            go_simp
            refine hK.out _ _ trivial (fun hHeld2 => ?_)
            clear hK K
            try simp only [Act.put, List.setIfInBounds_toArray, List.set_cons_zero, List.set_cons_succ]
            have zz : Blk (w6.alloc (.cells #[.int .i64 0, .int .i64 0, .int .i64 0, .int .i64 0] 60)) w6.heap.size 60 _ := heap_alloc_new w6 _
            refine wpAnyH_ready (rs := [9]) (by kernel_rfl) (by simp) ?_
            refine AllReadyH.cons rfl (fun K hK => ?_) AllReadyH.nil
            rw [if_pos (by rfl)]
            refine wp_store_row 60 (.tmp 5) (.tmp 24) rfl w6.heap.size #[.int .i64 a, .int .i64 b, .int .i64 c, .int .i64 n] rfl rfl 60 _ zz info60 rfl (four_one a b c n) ?_
            refine hK.out _ _ trivial (fun hHeld7 => ?_)
            clear hK K
            try simp only [Act.put, List.setIfInBounds_toArray]
            refine wpAnyH_take (i := 10) (oi := ⟨some 6, _, _, _, _, _⟩) (v := ?_) rfl (by kernel_rfl) (by kernel_rfl) (by kernel_rfl) (fun _ _ _ h => h) (Or.inl ⟨by rfl, ?_⟩) (by assumption) ?_
            rotate_left 1
            · (intro W hSw; go_simp <;> with_reducible rfl)
            try simp only [Act.put]
            refine wpAnyH_done (by kernel_rfl) ?_ _
            refine NoPanic.normal ?_
            go_wp2_with fail
            go_meet
            exact ⟨_, a, b, c, n, ok, rfl, rfl, setRow_heap _ _ _ _ _ _ zz, below_setRow (k6.alloc k6.size _) k6.size _, hf⟩
          · go_simp
            refine hK.out _ _ trivial (fun hHeld1 => ?_)
            clear hK K
            try simp only [Act.put, List.setIfInBounds_toArray, List.set_cons_zero, List.set_cons_succ]
            refine wpAnyH_ready (rs := [4]) (by kernel_rfl) (by simp) ?_
            refine AllReadyH.cons rfl (fun K hK => ?_) AllReadyH.nil
            go_simp
            refine (tO _ (k5.alloc k5.size _)).mono ?_
            rintro e w6 ⟨a, b, c, n, ok, rfl, hb6, hf⟩
            have k6 := Below.trans (k5.alloc k5.size _) (hb6.mono (Below.size (k5.alloc k5.size _)))
            refine hK.out _ _ trivial (fun hHeld2 => ?_)
            clear hK K
            try simp only [Act.put, List.setIfInBounds_toArray, List.set_cons_zero, List.set_cons_succ]
            refine wpAnyH_take (i := 5) (oi := ⟨some 18, _, _, _, _, _⟩) (v := ?_) rfl (by kernel_rfl) (by kernel_rfl) (by kernel_rfl) (fun _ _ _ h => h) (Or.inl ⟨by rfl, ?_⟩) (by assumption) ?_
            rotate_left 1
            · (intro W hSw; go_simp <;> with_reducible rfl)
            try simp only [Act.put, List.setIfInBounds_toArray, List.set_cons_zero, List.set_cons_succ]
            refine wpAnyH_take (i := 6) (oi := ⟨some 24, _, _, _, _, _⟩) (v := ?_) rfl (by kernel_rfl) (by kernel_rfl) (by kernel_rfl) (fun _ _ _ h => h) (Or.inl ⟨by rfl, ?_⟩) (by assumption) ?_
            rotate_left 1
            · (intro W hSw; go_simp <;> with_reducible rfl)
            try simp only [Act.put, List.setIfInBounds_toArray, List.set_cons_zero, List.set_cons_succ]
            refine wpAnyH_take (i := 7) (oi := ⟨some 25, _, _, _, _, _⟩) (v := ?_) rfl (by kernel_rfl) (by kernel_rfl) (by kernel_rfl) (fun _ _ _ h => h) (Or.inl ⟨by rfl, ?_⟩) (by assumption) ?_
            rotate_left 1
            · (intro W hSw; go_simp <;> with_reducible rfl)
            try simp only [Act.put, List.setIfInBounds_toArray, List.set_cons_zero, List.set_cons_succ]
            have zz := Blk.below (heap_alloc_new w5 (.cells #[.int .i64 0, .int .i64 0, .int .i64 0, .int .i64 0] 60)) hb6 (by simp)
            refine wpAnyH_ready (rs := [9]) (by kernel_rfl) (by simp) ?_
            refine AllReadyH.cons rfl (fun K hK => ?_) AllReadyH.nil
            rw [if_pos (by rfl)]
            refine wp_store_row 60 (.tmp 5) (.tmp 24) rfl w5.heap.size #[.int .i64 a, .int .i64 b, .int .i64 c, .int .i64 n] rfl rfl 60 _ zz info60 rfl (four_one a b c n) ?_
            refine hK.out _ _ trivial (fun hHeld7 => ?_)
            clear hK K
            try simp only [Act.put, List.setIfInBounds_toArray]
            refine wpAnyH_take (i := 10) (oi := ⟨some 6, _, _, _, _, _⟩) (v := ?_) rfl (by kernel_rfl) (by kernel_rfl) (by kernel_rfl) (fun _ _ _ h => h) (Or.inl ⟨by rfl, ?_⟩) (by assumption) ?_
            rotate_left 1
            · (intro W hSw; go_simp <;> with_reducible rfl)
            try simp only [Act.put]
            refine wpAnyH_done (by kernel_rfl) ?_ _
            refine NoPanic.normal ?_
            go_wp2_with fail
            go_meet
            exact ⟨_, a, b, c, n, ok, rfl, rfl, setRow_heap _ _ _ _ _ _ zz, below_setRow k6 k5.size _, hf⟩
        · go_simp
          refine hK.out _ _ trivial (fun hHeld0 => ?_)
          clear hK K
          try simp only [Act.put, List.setIfInBounds_toArray, List.set_cons_zero, List.set_cons_succ]
          refine wpAnyH_ready (rs := [1]) (by kernel_rfl) (by simp) ?_
          refine AllReadyH.cons rfl (fun K hK => ?_) AllReadyH.nil
          go_simp
          refine (tS _ (k0.alloc k0.size _)).mono ?_
          rintro e w5 ⟨rfl, hb5⟩
          have k5 := Below.trans (k0.alloc k0.size _) (hb5.mono (Below.size (k0.alloc k0.size _)))
          refine hK.out _ _ trivial (fun hHeld1 => ?_)
          clear hK K
          try simp only [Act.put, List.setIfInBounds_toArray, List.set_cons_zero, List.set_cons_succ]
          refine wpAnyH_ready (rs := [4]) (by kernel_rfl) (by simp) ?_
          refine AllReadyH.cons rfl (fun K hK => ?_) AllReadyH.nil
          go_simp
          refine (tO _ k5).mono ?_
          rintro e w6 ⟨a, b, c, n, ok, rfl, hb6, hf⟩
          have k6 := Below.trans k5 (hb6.mono (Below.size k5))
          refine hK.out _ _ trivial (fun hHeld2 => ?_)
          clear hK K
          try simp only [Act.put, List.setIfInBounds_toArray, List.set_cons_zero, List.set_cons_succ]
          refine wpAnyH_take (i := 5) (oi := ⟨some 18, _, _, _, _, _⟩) (v := ?_) rfl (by kernel_rfl) (by kernel_rfl) (by kernel_rfl) (fun _ _ _ h => h) (Or.inl ⟨by rfl, ?_⟩) (by assumption) ?_
          rotate_left 1
          · (intro W hSw; go_simp <;> with_reducible rfl)
          try simp only [Act.put, List.setIfInBounds_toArray, List.set_cons_zero, List.set_cons_succ]
          refine wpAnyH_take (i := 6) (oi := ⟨some 24, _, _, _, _, _⟩) (v := ?_) rfl (by kernel_rfl) (by kernel_rfl) (by kernel_rfl) (fun _ _ _ h => h) (Or.inl ⟨by rfl, ?_⟩) (by assumption) ?_
          rotate_left 1
          · (intro W hSw; go_simp <;> with_reducible rfl)
          try simp only [Act.put, List.setIfInBounds_toArray, List.set_cons_zero, List.set_cons_succ]
          refine wpAnyH_take (i := 7) (oi := ⟨some 25, _, _, _, _, _⟩) (v := ?_) rfl (by kernel_rfl) (by kernel_rfl) (by kernel_rfl) (fun _ _ _ h => h) (Or.inl ⟨by rfl, ?_⟩) (by assumption) ?_
          rotate_left 1
          · (intro W hSw; go_simp <;> with_reducible rfl)
          try simp only [Act.put, List.setIfInBounds_toArray, List.set_cons_zero, List.set_cons_succ]
          have za := Blk.below (heap_alloc_new w1.drew (.cells #[.int .i64 0, .int .i64 0, .int .i64 0, .int .i64 0] 60)) hb5 (by simp)
          have zz := Blk.below za hb6 za.lt
          refine wpAnyH_ready (rs := [9]) (by kernel_rfl) (by simp) ?_
          refine AllReadyH.cons rfl (fun K hK => ?_) AllReadyH.nil
          rw [if_pos (by rfl)]
          refine wp_store_row 60 (.tmp 5) (.tmp 24) rfl w1.drew.heap.size #[.int .i64 a, .int .i64 b, .int .i64 c, .int .i64 n] rfl rfl 60 _ zz info60 rfl (four_one a b c n) ?_
          refine hK.out _ _ trivial (fun hHeld7 => ?_)
          clear hK K
          try simp only [Act.put, List.setIfInBounds_toArray]
          refine wpAnyH_take (i := 10) (oi := ⟨some 6, _, _, _, _, _⟩) (v := ?_) rfl (by kernel_rfl) (by kernel_rfl) (by kernel_rfl) (fun _ _ _ h => h) (Or.inl ⟨by rfl, ?_⟩) (by assumption) ?_
          rotate_left 1
          · (intro W hSw; go_simp <;> with_reducible rfl)
          try simp only [Act.put]
          refine wpAnyH_done (by kernel_rfl) ?_ _
          refine NoPanic.normal ?_
          go_wp2_with fail
          go_meet
          exact ⟨_, a, b, c, n, ok, rfl, rfl, setRow_heap _ _ _ _ _ _ zz, below_setRow k6 k0.size _, hf⟩
      case rest =>
        obtain ⟨g, a, b, c, n, ok, rfl, rfl, z1, hb2, hf⟩ := hcut
        have pc := p1.below hb2 p1.lt
        have qc : Below w.heap.size w wc := q1.trans (hb2.mono q1.size)
        clear p1 q1 hb2 k0 tS tO hsl HL K1
        cases ok with
        | false =>
          obtain rfl : z = (zeroI, 1) := by rw [← HZ.out]; exact insA_none k ol (by have := hf.out; simpa using this)
          clear hf z1
          go_wp2_with (refine wpList_store_row rfl 25 (.tmp 2) (.tmp 28) rfl w.heap.size (ins 0 0 0 0 0) rfl rfl 25 (ins 0 0 0 0 0) pc info25 rfl (ins_one 0 0 0 0 0) ?_)
          refine bodyPost_ret (resI _ (by kernel_rfl) _ _ w.heap.size 0 0 0 0 0 _ rfl rfl (setRow_heap _ _ _ _ _ _ pc)) rfl ?_
          exact ⟨rfl, below_setRow qc (Nat.le_refl _) _⟩
        | true =>
          obtain rfl : ol = some [a, b, c, n] := by have := hf.out; simpa using this
          clear hf
          have c0 := z1.cell 0
          have c1 := z1.cell 1
          have c2 := z1.cell 2
          have c3 := z1.cell 3
          have nA := narrow_any a
          have nB := narrow_any b
          have nC := narrow_any c
          have hz := HZ.out
          unfold insA at hz
          simp only at hz
          obtain ⟨x0, e0⟩ : ∃ x, narrow a = x := ⟨_, rfl⟩
          obtain ⟨x1, e1⟩ : ∃ x, narrow b = x := ⟨_, rfl⟩
          obtain ⟨x2, e2⟩ : ∃ x, narrow c = x := ⟨_, rfl⟩
          rw [e0] at nA
          rw [e1] at nB
          rw [e2] at nC
          rw [e0, e1, e2] at hz
          clear e0 e1 e2
          cases x0 with
          | false =>
            simp only [Bool.false_and, Bool.false_eq_true, if_false] at hz
            subst hz
            go_wp2_with fail
            refine (nA _).mono ?_
            rintro e w2 ⟨rfl, rfl⟩
            go_wp2_with (refine wpList_store_row rfl 25 (.tmp 2) (.tmp 45) rfl w.heap.size (ins 0 0 0 0 0) rfl rfl 25 (ins 0 0 0 0 0) pc info25 rfl (ins_one 0 0 0 0 0) ?_)
            refine bodyPost_ret (resI _ (by kernel_rfl) _ _ w.heap.size 0 0 0 0 0 _ rfl rfl (setRow_heap _ _ _ _ _ _ pc)) rfl ?_
            exact ⟨rfl, below_setRow qc (Nat.le_refl _) _⟩
          | true =>
            go_wp2_with fail
            refine (nA _).mono ?_
            rintro e w2 ⟨rfl, rfl⟩
            cases x1 with
            | false =>
              simp only [Bool.true_and, Bool.false_and, Bool.false_eq_true, if_false] at hz
              subst hz
              go_wp2_with fail
              refine (nB _).mono ?_
              rintro e w2 ⟨rfl, rfl⟩
              go_wp2_with (refine wpList_store_row rfl 25 (.tmp 2) (.tmp 45) rfl w.heap.size (ins 0 0 0 0 0) rfl rfl 25 (ins 0 0 0 0 0) pc info25 rfl (ins_one 0 0 0 0 0) ?_)
              refine bodyPost_ret (resI _ (by kernel_rfl) _ _ w.heap.size 0 0 0 0 0 _ rfl rfl (setRow_heap _ _ _ _ _ _ pc)) rfl ?_
              exact ⟨rfl, below_setRow qc (Nat.le_refl _) _⟩
            | true =>
              go_wp2_with fail
              refine (nB _).mono ?_
              rintro e w2 ⟨rfl, rfl⟩
              cases x2 with
              | false =>
                simp only [Bool.true_and, Bool.false_eq_true, if_false] at hz
                subst hz
                go_wp2_with fail
                refine (nC _).mono ?_
                rintro e w2 ⟨rfl, rfl⟩
                go_wp2_with (refine wpList_store_row rfl 25 (.tmp 2) (.tmp 45) rfl w.heap.size (ins 0 0 0 0 0) rfl rfl 25 (ins 0 0 0 0 0) pc info25 rfl (ins_one 0 0 0 0 0) ?_)
                refine bodyPost_ret (resI _ (by kernel_rfl) _ _ w.heap.size 0 0 0 0 0 _ rfl rfl (setRow_heap _ _ _ _ _ _ pc)) rfl ?_
                exact ⟨rfl, below_setRow qc (Nat.le_refl _) _⟩
              | true =>
                simp only [Bool.and_self, if_true] at hz
                subst hz
                go_wp2_with fail
                refine (nC _).mono ?_
                rintro e w2 ⟨rfl, rfl⟩
                go_wp2_with (refine wpList_store_row rfl 25 (.tmp 2) (.tmp 55) rfl w.heap.size (ins k a b c n) rfl rfl 25 (ins 0 0 0 0 0) pc info25 rfl (ins_one k a b c n) ?_)
                refine bodyPost_ret (resI _ (by kernel_rfl) _ _ w.heap.size k a b c n _ rfl rfl (setRow_heap _ _ _ _ _ _ pc)) rfl ?_
                exact ⟨rfl, below_setRow qc (Nat.le_refl _) _⟩

set_option maxRecDepth 100000 in
/-- What Instr answers. -/
theorem line_any (s : ByteArray) (hs : s.size ≤ 100000) (w : World) (hL : Laid w) : Calls Tryd.prog 8 #[.string s] w (Told (instrA (wordsL (oct s))) w) := by
  have hw := words_len (oct s)
  rw [oct_len] at hw
  obtain ⟨x, hx⟩ : ∃ x, instrA (wordsL (oct s)) = x := ⟨_, rfl⟩
  rw [hx]
  obtain ⟨⟨x0, x1, x2, x3, x4⟩, xe⟩ := x
  obtain ⟨W0, eW0⟩ : ∃ W0, W0 = w.alloc (.cells #[.int .i64 0, .int .i64 0, .int .i64 0, .int .i64 0, .int .i64 0] 25) := ⟨_, rfl⟩
  have b0 : Below w.heap.size w W0 := by rw [eW0]; exact (Below.refl _ w).alloc (Nat.le_refl _) _
  have p0 : Blk W0 w.heap.size 25 (ins 0 0 0 0 0) := by rw [eW0]; exact heap_alloc_new w _
  have hW := words_any s hs W0
  go_enter Tryd.func8, Tryd.ntmps8
  go_wp2_with fail
  rw [← eW0]
  clear eW0
  refine hW.mono ?_
  rintro e w1 ⟨v, rfl, ho, hb1⟩
  obtain ⟨A, cap, rfl, hR⟩ := Row.own ho
  have hI := instr_any A _ cap _ w1 hR (fun x hx => Nat.le_trans (hw x hx) (by omega)) ((hL.on b0).on hb1)
  rw [hx] at hI
  have p1 := p0.below hb1 p0.lt
  have q1 : Below w.heap.size w w1 := b0.trans (hb1.mono b0.size)
  generalize wordsL (oct s) = ws at *
  generalize ws.length = n at *
  clear hx hR ho hb1 hW p0 b0 hw
  go_wp2_with fail
  refine hI.mono ?_
  rintro e w2 ⟨rfl, hb2⟩
  have p2 := p1.below hb2 p1.lt
  go_wp2_with (refine wpList_store_row rfl 25 (.tmp 2) (.tmp 7) rfl w.heap.size (ins x0 x1 x2 x3 x4) rfl rfl 25 (ins 0 0 0 0 0) p2 info25 rfl (ins_one x0 x1 x2 x3 x4) ?_)
  refine bodyPost_ret (resI _ (by kernel_rfl) _ _ w.heap.size x0 x1 x2 x3 x4 _ rfl rfl (setRow_heap _ _ _ _ _ _ p2)) rfl ?_
  exact ⟨rfl, below_setRow (q1.trans (hb2.mono q1.size)) (Nat.le_refl _) _⟩
end Go.Proofs.YtodklfjoeehinaaDoor
