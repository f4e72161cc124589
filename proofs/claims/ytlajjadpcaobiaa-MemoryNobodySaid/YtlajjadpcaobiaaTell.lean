/- What a memory tells as a whole: the words of its roots and slots, the numbers of epoch, marks and counts, how many Puts. Conditions: at most a million Puts. -/
import Derived.Test.YtlajjadpcaobiaaWords
namespace Go.Proofs.Ytlajjadpcaobiaa
open Go.RowKit Go.ChangeShapes Go.WideShapes

def numW (l : List Wd) : List Int := l.map (·.n)
theorem numW_next {l : List Wd} {k : Nat} {x : Wd} (hx : l[k]? = some x) : numW (l.take (k + 1)) = numW (l.take k) ++ [x.n] := by
  unfold numW
  rw [List.take_add_one, hx, List.map_append]
  rfl
theorem numW_take {l : List Wd} {k : Nat} (hk : k ≤ l.length) : (numW (l.take k)).length = k := by
  unfold numW
  rw [List.length_map, List.length_take]
  omega
set_option maxRecDepth 100000 in
set_option maxHeartbeats 4000000 in
theorem numbers_any {w : World} {Aw : Option Addr} {n cw : Nat} {l : List Wd} (h : SeesW w Aw n cw l) (hn : n ≤ 1000) : Calls Try.prog 35 #[.slice Aw n cw] w fun e w' => ∃ A c, e = .returned (.slice A n c) ∧ w'.ownsRow w.heap.size 2 1 (.slice A n c) n (ints (numW l)) ∧ Below w.heap.size w w' := by
  have hl := h.len
  have HQ := Lib.hid (And.intro h hl)
  clear hl h
  go_enter Try.func35, Try.ntmps35
  go_wp2_with fail
  go_loopw [3, 8] (fun f i wr => ∃ k : Nat, k ≤ n ∧ i = .int .i64 (k : Int) ∧ ∃ A c, f = .slice A k c ∧ wr.ownsRow w.heap.size 2 1 (.slice A k c) k (ints (numW (l.take k))) ∧ Below w.heap.size w wr) (fun _ i _ => n - (intOf i).toNat)
  case atStart => exact ⟨0, Nat.zero_le _, rfl, none, 0, rfl, World.ownsRow_nil _ _ _ _, Below.refl _ _⟩
  case round =>
    obtain ⟨k, hk, rfl, A, c, rfl, hrow, hb⟩ := hrel
    obtain ⟨q, hl⟩ := HQ.out
    by_cases hlt : k < n
    · obtain ⟨x, hx⟩ : ∃ x, l[k]? = some x := ⟨_, List.getElem?_eq_getElem (by omega)⟩
      obtain ⟨g, o, rfl, hr⟩ := (q.on hb).at_ hx
      have hr' : wr.rangeAt g (o + k * 3) [.int .i64 x.n, .int .i64 x.c, .int .i64 x.g] := hr
      have hkI : (k : Int) < (n : Int) := by omega
      have hk0 : (0 : Int) ≤ (k : Int) := by omega
      have hb1 : Below wr.heap.size wr (wr.alloc (.cells #[.int .i64 x.n, .int .i64 x.c, .int .i64 x.g] 35)) := (Below.refl _ wr).alloc (Nat.le_refl _) _
      have hb2 : Below wr.heap.size wr ((wr.alloc (.cells #[.int .i64 x.n, .int .i64 x.c, .int .i64 x.g] 35)).alloc (.cells #[.int .i64 x.n] 2)) := hb1.alloc (by simp) _
      have hC : Blk ((wr.alloc (.cells #[.int .i64 x.n, .int .i64 x.c, .int .i64 x.g] 35)).alloc (.cells #[.int .i64 x.n] 2)) (wr.heap.size + 1) 2 #[.int .i64 x.n] := blk_new _ _ 2 _ (by simp)
      have hrow2 := ownB_below hrow hb2
      have hs2 : w.heap.size ≤ ((wr.alloc (.cells #[.int .i64 x.n, .int .i64 x.c, .int .i64 x.g] 35)).alloc (.cells #[.int .i64 x.n] 2)).heap.size := Nat.le_trans hb.size hb2.size
      have HN := Lib.hid (numW_next hx)
      have hbb := hb.trans (hb2.mono hb.size)
      have HB := Lib.hid hbb
      clear hr hx q hl hb1 hb2 hrow hb hbb
      go_wp2_with (first
        | (refine wpList_load_mid rfl 35 (.tmp 10) rfl g (o + k * 3) rfl [.int .i64 x.n, .int .i64 x.c, .int .i64 x.g] _ hr' Try.underlying35 rfl size35 ?_)
        | (at_builtin; refine wpList_one_I rfl _ _ rfl rfl hrow2 (by omega) hs2 ⟨wr.heap.size + 1, 0, none⟩ 1 x.n rfl (fun j u hu => by rw [plain_add]; exact range_blk (cs := [.int .i64 x.n]) hC j u hu) ?_; intro A' c' w3 ho3 hg3; have hb3 := grown_blocks hrow2 hg3 hs2; clear hrow2 hC))
      go_roundw
      case rel => exact ⟨k + 1, by omega, by go_num, A', c', rfl, by rw [HN.out]; exact ho3, HB.out.trans hb3⟩
      case measure => simp [intOf]; omega
    · have hk' : k = n := by omega
      subst hk'
      have et : l.take k = l := by rw [← hl, List.take_length]
      rw [et] at hrow
      have HR := Lib.hid hrow
      clear hrow et hl q
      go_wp2
      go_ret
      exact ⟨A, c, rfl, HR.out, hb⟩
set_option maxRecDepth 100000 in
set_option maxHeartbeats 4000000 in
theorem roots_any {w : World} {m h b : Nat} {sp sq : Sl} {p : Pg} {L : List Ch} (q : Mem w m h b sp sq p L) : Calls Try.prog 16 #[.pointer (some ⟨m, 0, none⟩)] w fun e w' => ∃ A c, e = .returned (.slice A (allW p L 1).length c) ∧ w'.ownsRow w.heap.size 35 3 (.slice A (allW p L 1).length c) (allW p L 1).length (flatW (allW p L 1)) ∧ Below w.heap.size w w' := by
  have c1 := words_any q 1
  generalize (allW p L 1).length = z at *
  go_enter Try.func16, Try.ntmps16
  go_wp2_with fail
  refine c1.mono ?_
  rintro e w' ⟨A, c, rfl, ho, hb⟩
  go_wp2
  go_ret
  exact ⟨A, c, rfl, ho, hb⟩
set_option maxRecDepth 100000 in
set_option maxHeartbeats 4000000 in
theorem slots_any {w : World} {m h b : Nat} {sp sq : Sl} {p : Pg} {L : List Ch} (q : Mem w m h b sp sq p L) : Calls Try.prog 17 #[.pointer (some ⟨m, 0, none⟩)] w fun e w' => ∃ A c, e = .returned (.slice A (allW p L 5).length c) ∧ w'.ownsRow w.heap.size 35 3 (.slice A (allW p L 5).length c) (allW p L 5).length (flatW (allW p L 5)) ∧ Below w.heap.size w w' := by
  have c1 := words_any q 5
  generalize (allW p L 5).length = z at *
  go_enter Try.func17, Try.ntmps17
  go_wp2_with fail
  refine c1.mono ?_
  rintro e w' ⟨A, c, rfl, ho, hb⟩
  go_wp2
  go_ret
  exact ⟨A, c, rfl, ho, hb⟩
set_option maxRecDepth 100000 in
set_option maxHeartbeats 4000000 in
theorem marks_any {w : World} {m h b : Nat} {sp sq : Sl} {p : Pg} {L : List Ch} (q : Mem w m h b sp sq p L) : Calls Try.prog 18 #[.pointer (some ⟨m, 0, none⟩)] w fun e w' => ∃ A c, e = .returned (.slice A (allW p L 7).length c) ∧ w'.ownsRow w.heap.size 2 1 (.slice A (allW p L 7).length c) (allW p L 7).length (ints (numW (allW p L 7))) ∧ Below w.heap.size w w' := by
  have c1 := words_any q 7
  have hfew := allW_len p L 7
  generalize (allW p L 7).length = z at *
  go_enter Try.func18, Try.ntmps18
  go_wp2_with fail
  refine c1.mono ?_
  rintro e w1 ⟨A, c, rfl, ho, hb⟩
  have c2 := numbers_any (own_seesW ho) (by omega)
  go_wp2_with fail
  refine c2.mono ?_
  rintro e w2 ⟨A2, c2', rfl, ho2, hb2⟩
  clear c2
  go_wp2
  go_ret
  exact ⟨A2, c2', rfl, own_mono ho2 hb.size, hb.trans (hb2.mono hb.size)⟩
set_option maxRecDepth 100000 in
set_option maxHeartbeats 4000000 in
theorem counts_any {w : World} {m h b : Nat} {sp sq : Sl} {p : Pg} {L : List Ch} (q : Mem w m h b sp sq p L) : Calls Try.prog 19 #[.pointer (some ⟨m, 0, none⟩)] w fun e w' => ∃ A c, e = .returned (.slice A (allW p L 8).length c) ∧ w'.ownsRow w.heap.size 2 1 (.slice A (allW p L 8).length c) (allW p L 8).length (ints (numW (allW p L 8))) ∧ Below w.heap.size w w' := by
  have c1 := words_any q 8
  have hfew := allW_len p L 8
  generalize (allW p L 8).length = z at *
  go_enter Try.func19, Try.ntmps19
  go_wp2_with fail
  refine c1.mono ?_
  rintro e w1 ⟨A, c, rfl, ho, hb⟩
  have c2 := numbers_any (own_seesW ho) (by omega)
  go_wp2_with fail
  refine c2.mono ?_
  rintro e w2 ⟨A2, c2', rfl, ho2, hb2⟩
  clear c2
  go_wp2
  go_ret
  exact ⟨A2, c2', rfl, own_mono ho2 hb.size, hb.trans (hb2.mono hb.size)⟩
set_option maxRecDepth 100000 in
set_option maxHeartbeats 4000000 in
theorem epoch_any {w : World} {m h b : Nat} {sp sq : Sl} {p : Pg} {L : List Ch} (q : Mem w m h b sp sq p L) : Calls Try.prog 20 #[.pointer (some ⟨m, 0, none⟩)] w fun e w' => e = .returned (.int .i64 (atP L ⟨6, 0, 0⟩).n) ∧ Below w.heap.size w w' := by
  have c1 := get_any q ⟨6, 0, 0⟩ (there_wide (there_epoch p))
  rw [getP_there (there_epoch p)] at c1
  generalize atP L ⟨6, 0, 0⟩ = U at *
  replace c1 : Calls Try.prog 14 #[.pointer (some ⟨m, 0, none⟩), .agg #[.int .i64 6, .int .i64 0, .int .i64 0]] w fun e w' => e = .returned (.tuple #[.agg #[.int .i64 U.n, .int .i64 U.c, .int .i64 U.g], .bool (thereP p ⟨6, 0, 0⟩)]) ∧ Below w.heap.size w w' := c1
  go_enter Try.func20, Try.ntmps20
  go_wp2_with fail
  refine c1.mono ?_
  rintro e w1 ⟨rfl, hb⟩
  clear c1
  go_wp2
  go_ret
  exact ⟨rfl, hb.alloc hb.size _⟩
set_option maxRecDepth 100000 in
set_option maxHeartbeats 4000000 in
theorem mark_any {w : World} {m h b : Nat} {sp sq : Sl} {p : Pg} {L : List Ch} (q : Mem w m h b sp sq p L) : Calls Try.prog 21 #[.pointer (some ⟨m, 0, none⟩)] w fun e w' => e = .returned (.int .i64 (L.length : Int)) ∧ w = w' := by
  have c1 := made_any q.mem
  have m0 : w.cell? ⟨m, 0, none⟩ = some (.pointer (some ⟨h, 0, none⟩)) := q.mem.cell 0
  have h2 : w.cell? ⟨h, 2, none⟩ = some (.slice sq.A sq.n sq.cap) := q.held.cell 2
  rw [q.len]
  go_enter Try.func21, Try.ntmps21
  go_wp2_with fail
  refine c1.mono ?_
  rintro e w' ⟨rfl, rfl⟩
  clear c1
  go_wp2
  go_ret
  exact ⟨rfl, rfl⟩
end Go.Proofs.Ytlajjadpcaobiaa
