/- A writer of octets behind a pointer: what it holds, and what its calls leave; a number written. Conditions: at most 900000000000 octets. -/
import Derived.Test.YtfmkmmmaoiepmaaCode
import Derived.Test.YtfmkmmmaoiepmaaRefPut
namespace Go.Proofs.Ytfmkmmmaoiepmaa
set_option linter.unusedSimpArgs false
set_option linter.unusedVariables false
open Go.RowKit Go.ChangeShapes Go.WideShapes

/-- What a call of a writer at p leaves: all that lies below it, and above it all but rows of octets. -/
structure Stays (p : Nat) (w w' : World) : Prop where
  os : w'.os = w.os
  tape : w'.tape = w.tape
  output : w'.output = w.output
  size : w.heap.size ≤ w'.heap.size
  block : ∀ g, g < w.heap.size → g ≠ p → (g < p ∨ ∀ cs, ¬ Blk w g 5 cs) → w'.heap[g]? = w.heap[g]?
section
variable {p B g : Nat} {w w1 w2 : World} {t : TypeId} {cs : Array Value}
theorem Stays.refl (p : Nat) (w : World) : Stays p w w := ⟨rfl, rfl, rfl, Nat.le_refl _, fun _ _ _ _ => rfl⟩
theorem Stays.trans (h : Stays p w w1) (k : Stays p w1 w2) : Stays p w w2 :=
  ⟨k.os.trans h.os, k.tape.trans h.tape, k.output.trans h.output, Nat.le_trans h.size k.size, fun g hg hn ho => by
    have e := h.block g hg hn ho
    exact (k.block g (Nat.lt_of_lt_of_le hg h.size) hn (ho.imp id (fun q cs hb => q cs (by unfold Blk at hb ⊢; rw [← e]; exact hb)))).trans e⟩
theorem stays_below (h : Below w.heap.size w w1) : Stays p w w1 := ⟨h.os, h.tape, h.output, h.size, fun g hg _ _ => h.block g hg⟩
theorem Stays.below (h : Stays p w w1) (hp : p ≤ w.heap.size) : Below p w w1 := ⟨h.os, h.tape, h.output, h.size, fun g hg => h.block g (by omega) (by omega) (.inl hg)⟩
theorem Stays.on (h : Stays p w w1) (hb : Below w1.heap.size w1 w2) : Stays p w w2 := h.trans (stays_below hb)
theorem Blk.stay (h : Blk w g t cs) (k : Stays p w w1) (ht : t ≠ 5) (hg : g ≠ p) : Blk w1 g t cs :=
  (k.block g h.lt hg (.inr fun cs' h' => h.ne h' ht rfl)).trans h
theorem Blk.under (h : Blk w g t cs) (k : Stays p w w1) (hg : g < p) : Blk w1 g t cs := (k.block g h.lt (by omega) (.inl hg)).trans h
end
/-- What holds as long as a writer at p is the only thing that turns. -/
def Firm (p : Nat) (P : World → Prop) (w : World) : Prop := ∀ w', Stays p w w' → P w'
section
variable {p g : Nat} {w w1 : World} {P : World → Prop} {t : TypeId} {cs : Array Value}
theorem Firm.now (h : Firm p P w) : P w := h w (Stays.refl p w)
theorem Firm.stay (h : Firm p P w) (k : Stays p w w1) : Firm p P w1 := fun w' k' => h w' (k.trans k')
theorem Firm.on (h : Firm p P w) (k : Below w.heap.size w w1) : Firm p P w1 := h.stay (stays_below k)
theorem firm_blk (h : Blk w g t cs) (ht : t ≠ 5) (hg : g ≠ p) : Firm p (fun W => Blk W g t cs) w := fun _ k => h.stay k ht hg
end
/-- A writer: its block, and the row that it owns. -/
structure Wr (p : Nat) (w : World) (A : Option Addr) (n cap : Nat) (xs : List Int) : Prop where
  box : Blk w p 55 #[.slice A n cap]
  own : w.ownsRow 0 5 1 (.slice A n cap) n (nums xs)
  up : ∀ g, lies A g → p < g
def Wri (p : Nat) (xs : List Int) (w : World) : Prop := ∃ A n cap, Wr p w A n cap xs
section
variable {p n cap : Nat} {A : Option Addr} {w w1 : World} {xs : List Int}
theorem Wr.on (h : Wr p w A n cap xs) (k : Below w.heap.size w w1) : Wr p w1 A n cap xs := ⟨h.box.on k, ownB_below h.own k, h.up⟩
theorem Wri.on (h : Wri p xs w) (k : Below w.heap.size w w1) : Wri p xs w1 := by
  obtain ⟨A, n, cap, h⟩ := h
  exact ⟨A, n, cap, h.on k⟩
theorem Wr.len (h : Wr p w A n cap xs) : n = xs.length := by
  have := h.own.1
  rw [nums_len] at this
  omega
theorem Wr.off (h : Wr p w A n cap xs) : ¬ lies A p := fun e => Nat.lt_irrefl _ (h.up p e)
theorem Wr.lt (h : Wr p w A n cap xs) : p < w.heap.size := h.box.lt
theorem Wri.lt (h : Wri p xs w) : p < w.heap.size := by
  obtain ⟨A, n, cap, h⟩ := h
  exact h.lt
end
/-- The octets of a number, by the program. -/
theorem put8_any (m : Int) (w : World) : Calls Try.prog 58 #[.slice none 0 0, .int .i64 m, .int .i64 8] w fun e w' => ∃ ad c, e = .returned (.slice (some ad) 8 c) ∧ (∀ j u, (nums (oct8 m))[j]? = some u → w'.cell? (ad.add j) = some u) ∧ Below w.heap.size w w' := by
  refine (put_yes [] none 0 0 m 8 w (Oct.nil _ _) (by omega) (by omega) (by omega)).mono ?_
  rintro e w' ⟨A, n, c, rfl, ho, hb, _⟩
  have hl := ho.len
  rw [List.nil_append, digs_len] at hl
  obtain ⟨ad, rfl⟩ : ∃ ad, A = some ad := by
    cases A with
    | none => have := ho.zero; omega
    | some ad => exact ⟨ad, rfl⟩
  subst hl
  exact ⟨ad, c, rfl, ho.news ad rfl, hb⟩
theorem num_end {p n cap g c : Nat} {A : Option Addr} {xs : List Int} {m : Int} {w wd w1 w2 : World} (hd : Below w.heap.size w wd) (kk : Below wd.heap.size wd w1) (q : Wr p w1 A n cap xs) (hg : w1.grownBy w2 (Value.slice A n cap).ownBlock)
    (ow : w2.ownsRow 0 5 1 (.slice (some ⟨g, 0, none⟩) (n + 8) c) (n + 8) (nums xs ++ nums (oct8 m))) (hat : (Value.slice A n cap).ownBlock = some g ∨ g = w1.heap.size) (hlt : g < w2.heap.size) (bx : Blk w2 p 55 #[.slice A n cap]) :
    Ending.returned (.tuple #[]) = .returned (.tuple #[]) ∧ Wri p (xs ++ oct8 m) (w2.setCell ⟨p, 0, none⟩ (.slice (some ⟨g, 0, none⟩) (n + 8) c)) ∧ Stays p w (w2.setCell ⟨p, 0, none⟩ (.slice (some ⟨g, 0, none⟩) (n + 8) c)) := by
  have kc := kept_cell w2 ⟨p, 0, none⟩ (.slice (some ⟨g, 0, none⟩) (n + 8) c)
  rw [nums_app] at ow
  have hp : p < g := by
    rcases hat with e | e
    · exact q.up g ((own_lies A n cap g).1 e)
    · rw [e]; exact q.lt
  have s1 : Stays p w w1 := (stays_below hd).trans (stays_below kk)
  have s2 : Stays p w1 w2 := ⟨hg.os, hg.tape, hg.output, hg.size, fun k hk hn ho => hg.block k hk fun e => by
    have hk' := (own_lies A n cap k).1 e.symm
    obtain ⟨cs, hb⟩ := own_blk (own_low q.own) hk'
    rcases ho with h | h
    · have := q.up k hk'
      omega
    · exact h cs hb⟩
  have s3 : Stays p w2 (w2.setCell ⟨p, 0, none⟩ (.slice (some ⟨g, 0, none⟩) (n + 8) c)) := ⟨kc.os, kc.tape, kc.output, kc.size, fun k hk hn _ => kc.block k hk hn⟩
  refine ⟨rfl, ⟨_, _, _, blk_set bx 0 _, own_kept ow kc (fun g' h e => ?_), fun g' h => ?_⟩, (s1.trans s2).trans s3⟩
  · have : g = g' := by simpa [lies] using h
    have e' : g' = p := e
    omega
  · have : g = g' := by simpa [lies] using h
    omega
set_option maxRecDepth 100000 in
set_option maxHeartbeats 4000000 in
theorem number_any (p : Nat) (xs : List Int) (m : Int) (w : World) (h : Wri p xs w) (hn : xs.length ≤ 900000000000) : Calls Try.prog 42 #[.pointer (some ⟨p, 0, none⟩), .int .i64 m] w fun e w' => e = .returned (.tuple #[]) ∧ Wri p (xs ++ oct8 m) w' ∧ Stays p w w' := by
  obtain ⟨A, n, cap, q⟩ := h
  have hl := q.len
  rw [← hl] at hn
  clear hl
  obtain ⟨i0, hi0, hz0, hz1, hz2⟩ := info_parts info5
  have Z0 := Lib.hid hz0
  have Z1 := Lib.hid hz1
  have Z2 := Lib.hid hz2
  have I0 := Lib.hid hi0
  clear hz0 hz1 hz2 hi0
  have HN := Lib.hid hn
  clear hn
  obtain ⟨wd, ed⟩ : ∃ W, w.drew = W := ⟨_, rfl⟩
  have hd : Below w.heap.size w wd := by rw [← ed]; exact (Below.refl _ _).drew
  replace q := q.on hd
  have kS : Kept (fun g => g = p ∨ lies A g) wd wd := Kept.refl _ _
  have kk : Below wd.heap.size wd wd := Below.refl _ _
  go_enter Try.func42, Try.ntmps42
  go_wp2_with fail
  refine wp_region_noPanic ?_
  refine wp_region_held_drew (S := (fun W => Kept (fun g => g = p ∨ lies A g) wd W)) (by kernel_rfl) (by rw [ed]; exact kS) (fun hHeld => ?_)
  rw [ed] at hHeld ⊢
  refine wpAnyH_take (i := 0) (oi := ⟨some 4, _, _, _, _, _⟩) (v := ?_) rfl (by kernel_rfl) (by kernel_rfl) (by kernel_rfl) (fun _ _ _ h => h) (Or.inl ⟨by rfl, ?_⟩) (by assumption) ?_
  rotate_left 1
  · (intro W hSw; go_simp <;> with_reducible rfl)
  try simp only [Act.put, List.setIfInBounds_toArray, List.set_cons_zero, List.set_cons_succ]
  refine wpAnyH_take (i := 1) (oi := ⟨some 5, _, _, _, _, _⟩) (v := ?_) rfl (by kernel_rfl) (by kernel_rfl) (by kernel_rfl) (fun _ _ _ h => h) (Or.inl ⟨by rfl, ?_⟩) (by assumption) ?_
  rotate_left 1
  · (intro W hSw; go_simp <;> with_reducible rfl)
  try simp only [Act.put, List.setIfInBounds_toArray, List.set_cons_zero, List.set_cons_succ]
  refine wpAnyH_take (i := 2) (oi := ⟨some 6, _, _, _, _, _⟩) (v := ?_) rfl (by kernel_rfl) (by kernel_rfl) (by kernel_rfl) (fun _ _ _ h => h) (Or.inl ⟨by rfl, ?_⟩) (by assumption) ?_
  rotate_left 1
  · (intro W hSw; go_simp <;> with_reducible rfl)
  try simp only [Act.put, List.setIfInBounds_toArray, List.set_cons_zero, List.set_cons_succ]
  refine wpAnyH_take (i := 3) (oi := ⟨some 7, _, _, _, _, _⟩) (v := ?_) rfl (by kernel_rfl) (by kernel_rfl) (by kernel_rfl) (fun _ _ _ h => h) (Or.inl ⟨by rfl, ?_⟩) (by assumption) ?_
  rotate_left 1
  · (intro W hSw; go_simp <;> with_reducible rfl)
  try simp only [Act.put, List.setIfInBounds_toArray, List.set_cons_zero, List.set_cons_succ]
  refine wpAnyH_take (i := 5) (oi := ⟨some 9, _, _, _, _, _⟩) (v := ?_) rfl (by kernel_rfl) (by kernel_rfl) (by kernel_rfl) (fun _ _ _ h => h) (Or.inl ⟨by rfl, ?_⟩) (by assumption) ?_
  rotate_left 1
  · (intro W hSw; go_simp <;> with_reducible rfl)
  try simp only [Act.put, List.setIfInBounds_toArray, List.set_cons_zero, List.set_cons_succ]
  refine wpAnyH_ready (rs := [4, 6]) (by kernel_rfl) (by simp) ?_
  refine AllReadyH.cons (o := ⟨some 8, _, _, _, _, _⟩) rfl (fun K hK => ?_) (AllReadyH.cons (o := ⟨some 10, _, _, _, _, _⟩) rfl (fun K hK => ?_) AllReadyH.nil)
  · rw [if_pos (by rfl)]
    have z0 := q.box.cell 0
    go_simp
    clear z0
    refine hK.out _ _ kS (fun h1 => ?_)
    clear hHeld hK K
    try simp only [Act.put, List.setIfInBounds_toArray, List.set_cons_zero, List.set_cons_succ]
    refine wpAnyH_ready (rs := [6]) (by kernel_rfl) (by simp) ?_
    refine AllReadyH.cons (o := ⟨some 10, _, _, _, _, _⟩) rfl (fun K hK => ?_) AllReadyH.nil
    go_simp
    refine (put8_any m wd).mono ?_
    rintro e w2 ⟨ad2, c2, rfl, nw2, hb2⟩
    have q_2 := q.on hb2
    have kk_2 := kk.trans (hb2.mono kk.size)
    have S2 : (fun W => Kept (fun g => g = p ∨ lies A g) wd W) w2 := Kept.next kS (kept_below (fun _ => False) hb2) (fun _ h => h.elim)
    refine hK.out _ _ S2 (fun h2 => ?_)
    clear h1 hK K
    try simp only [Act.put, List.setIfInBounds_toArray, List.set_cons_zero, List.set_cons_succ]
    refine wpAnyH_ready (rs := [7]) (by kernel_rfl) (by simp) ?_
    refine AllReadyH.cons (o := ⟨some 11, _, _, _, _, _⟩) rfl (fun K hK => ?_) AllReadyH.nil
    rw [if_pos (by rfl)]
    refine wp_append_lies _ (.tmp 8) (.tmp 10) 32 rfl 0 5 i0 _ 1 1 Try.underlying32 I0.out Z0.out Z1.out Z2.out rfl (by decide) (.slice A n cap) n (nums xs) rfl q_2.own ad2 8 c2 (nums (oct8 m)) rfl rfl nw2 (nums_one _) (by decide) (by have := HN.out; unfold maxLen; omega) (by have := HN.out; omega) (Nat.zero_le _) _ rfl ?_
    intro g3 cp3 w3 ow3 hg3 hat3 hlt3
    have S3 : (fun W => Kept (fun g => g = p ∨ lies A g) wd W) w3 := S2.next (kept_grown hg3) (fun g e => .inl (.inr ((own_lies A n cap g).1 e)))
    have bx3 : Blk w3 p 55 #[.slice A n cap] := blk_grown q_2.box hg3 (fun e => q_2.off ((own_lies A n cap p).1 e.symm))
    refine hK.out _ _ S3 (fun h3 => ?_)
    clear h2 hK K
    try simp only [Act.put, List.setIfInBounds_toArray, List.set_cons_zero, List.set_cons_succ]
    refine wpAnyH_take (i := 8) (oi := ⟨some 12, _, _, _, _, _⟩) (v := ?_) rfl (by kernel_rfl) (by kernel_rfl) (by kernel_rfl) (fun _ _ _ h => h) (Or.inl ⟨by rfl, ?_⟩) (by assumption) ?_
    rotate_left 1
    · (intro W hSw; go_simp <;> with_reducible rfl)
    try simp only [Act.put, List.setIfInBounds_toArray, List.set_cons_zero, List.set_cons_succ]
    refine wpAnyH_take (i := 9) (oi := ⟨some 13, _, _, _, _, _⟩) (v := ?_) rfl (by kernel_rfl) (by kernel_rfl) (by kernel_rfl) (fun _ _ _ h => h) (Or.inl ⟨by rfl, ?_⟩) (by assumption) ?_
    rotate_left 1
    · (intro W hSw; go_simp <;> with_reducible rfl)
    try simp only [Act.put, List.setIfInBounds_toArray, List.set_cons_zero, List.set_cons_succ]
    refine wpAnyH_ready (rs := [10]) (by kernel_rfl) (by simp) ?_
    refine AllReadyH.cons (o := ⟨none, _, _, _, _, _⟩) rfl (fun K hK => ?_) AllReadyH.nil
    rw [if_pos (by rfl)]
    have z0 := bx3.cell 0
    have z1 := bx3.free 0
    go_simp
    clear z0 z1
    refine hK.out _ _ (S3.next (kept_cell _ ⟨p, 0, none⟩ _) (fun g e => .inl (.inl e))) (fun h4 => ?_)
    clear h3 hK K
    try simp only [Act.put]
    refine wpAnyH_done (by kernel_rfl) ?_ _
    refine NoPanic.normal ?_
    go_end0
    exact num_end hd kk_2 q_2 hg3 ow3 hat3 hlt3 bx3
  · go_simp
    refine (put8_any m wd).mono ?_
    rintro e w5 ⟨ad5, c5, rfl, nw5, hb5⟩
    have q_5 := q.on hb5
    have kk_5 := kk.trans (hb5.mono kk.size)
    have S5 : (fun W => Kept (fun g => g = p ∨ lies A g) wd W) w5 := Kept.next kS (kept_below (fun _ => False) hb5) (fun _ h => h.elim)
    refine hK.out _ _ S5 (fun h5 => ?_)
    clear hHeld hK K
    try simp only [Act.put, List.setIfInBounds_toArray, List.set_cons_zero, List.set_cons_succ]
    refine wpAnyH_ready (rs := [4]) (by kernel_rfl) (by simp) ?_
    refine AllReadyH.cons (o := ⟨some 8, _, _, _, _, _⟩) rfl (fun K hK => ?_) AllReadyH.nil
    rw [if_pos (by rfl)]
    have z0 := q_5.box.cell 0
    go_simp
    clear z0
    refine hK.out _ _ S5 (fun h6 => ?_)
    clear h5 hK K
    try simp only [Act.put, List.setIfInBounds_toArray, List.set_cons_zero, List.set_cons_succ]
    refine wpAnyH_ready (rs := [7]) (by kernel_rfl) (by simp) ?_
    refine AllReadyH.cons (o := ⟨some 11, _, _, _, _, _⟩) rfl (fun K hK => ?_) AllReadyH.nil
    rw [if_pos (by rfl)]
    refine wp_append_lies _ (.tmp 8) (.tmp 10) 32 rfl 0 5 i0 _ 1 1 Try.underlying32 I0.out Z0.out Z1.out Z2.out rfl (by decide) (.slice A n cap) n (nums xs) rfl q_5.own ad5 8 c5 (nums (oct8 m)) rfl rfl nw5 (nums_one _) (by decide) (by have := HN.out; unfold maxLen; omega) (by have := HN.out; omega) (Nat.zero_le _) _ rfl ?_
    intro g7 cp7 w7 ow7 hg7 hat7 hlt7
    have S7 : (fun W => Kept (fun g => g = p ∨ lies A g) wd W) w7 := S5.next (kept_grown hg7) (fun g e => .inl (.inr ((own_lies A n cap g).1 e)))
    have bx7 : Blk w7 p 55 #[.slice A n cap] := blk_grown q_5.box hg7 (fun e => q_5.off ((own_lies A n cap p).1 e.symm))
    refine hK.out _ _ S7 (fun h7 => ?_)
    clear h6 hK K
    try simp only [Act.put, List.setIfInBounds_toArray, List.set_cons_zero, List.set_cons_succ]
    refine wpAnyH_take (i := 8) (oi := ⟨some 12, _, _, _, _, _⟩) (v := ?_) rfl (by kernel_rfl) (by kernel_rfl) (by kernel_rfl) (fun _ _ _ h => h) (Or.inl ⟨by rfl, ?_⟩) (by assumption) ?_
    rotate_left 1
    · (intro W hSw; go_simp <;> with_reducible rfl)
    try simp only [Act.put, List.setIfInBounds_toArray, List.set_cons_zero, List.set_cons_succ]
    refine wpAnyH_take (i := 9) (oi := ⟨some 13, _, _, _, _, _⟩) (v := ?_) rfl (by kernel_rfl) (by kernel_rfl) (by kernel_rfl) (fun _ _ _ h => h) (Or.inl ⟨by rfl, ?_⟩) (by assumption) ?_
    rotate_left 1
    · (intro W hSw; go_simp <;> with_reducible rfl)
    try simp only [Act.put, List.setIfInBounds_toArray, List.set_cons_zero, List.set_cons_succ]
    refine wpAnyH_ready (rs := [10]) (by kernel_rfl) (by simp) ?_
    refine AllReadyH.cons (o := ⟨none, _, _, _, _, _⟩) rfl (fun K hK => ?_) AllReadyH.nil
    rw [if_pos (by rfl)]
    have z0 := bx7.cell 0
    have z1 := bx7.free 0
    go_simp
    clear z0 z1
    refine hK.out _ _ (S7.next (kept_cell _ ⟨p, 0, none⟩ _) (fun g e => .inl (.inl e))) (fun h8 => ?_)
    clear h7 hK K
    try simp only [Act.put]
    refine wpAnyH_done (by kernel_rfl) ?_ _
    refine NoPanic.normal ?_
    go_end0
    exact num_end hd kk_5 q_5 hg7 ow7 hat7 hlt7 bx7
end Go.Proofs.Ytfmkmmmaoiepmaa
