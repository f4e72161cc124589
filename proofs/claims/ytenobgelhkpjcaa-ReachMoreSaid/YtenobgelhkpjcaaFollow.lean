/- A search in memory: words are followed. Conditions: at most 1000 cells, at most 1000 words. -/
import Derived.Test.YtenobgelhkpjcaaPush
namespace Go.Proofs.Ytenobgelhkpjcaa
open Go.ChangeShapes Go.WideShapes Go.RowKit
section
variable {w w' : World} {L : Lim} {C : List Cel} {s : Sta}
set_option maxRecDepth 100000 in
set_option maxHeartbeats 2000000 in
theorem follow_any {A : Option Addr} {n cap : Nat} {xs : List Wd} (h : Srch w L C s) (hw : Sees w 3 A n cap (flatW xs)) (hoff : ∀ g, holds A n g → ¬ L.S g) (hn : n ≤ 1000) (hL : L.n ≤ 1000) (hs : s.R.count false + s.Q.length ≤ 1000) :
    Calls Try.prog 15 #[.pointer (some ⟨L.p, 0, none⟩), .slice A n cap] w fun e w' => e = .returned (.tuple #[]) ∧ To w L C (s.follow C xs) w' := by
  obtain ⟨i3, hi3, ha0, ha1, ha2⟩ := info_parts info3
  have hl : xs.length = n := by
    have := hw.len
    unfold flatW at this
    rw [flat_len Wd.len] at this
    omega
  have hRC : s.R.length = C.length := by rw [h.lenR, h.lenC]
  go_enter Try.func15, Try.ntmps15
  go_wp2_with fail
  go_loopw [9] (fun i wr => ∃ j : Nat, i = .int .i64 j ∧ j ≤ n ∧ To w L C (s.follow C (xs.take j)) wr) (fun i _ => n - (intOf i).toNat)
  case atStart => exact ⟨0, rfl, Nat.zero_le _, To.refl h⟩
  case round =>
    obtain ⟨j, rfl, hj, An, m, cn, hS, hK, hN⟩ := hrel
    obtain ⟨f1, f2⟩ := follow_sum (xs.take j) s hRC
    obtain ⟨s1, es⟩ : ∃ s1, s1 = s.follow C (xs.take j) := ⟨_, rfl⟩
    rw [← es] at hS f1 f2
    have ES := Lib.hid es
    clear es
    by_cases hlt : j < n
    · have t0 : decide ((j : Int) < (n : Int)) = true := decide_eq_true (by omega)
      obtain ⟨x, hx⟩ : ∃ x, xs[j]? = some x := ⟨_, List.getElem?_eq_getElem (by omega)⟩
      have hnext : s.follow C (xs.take (j + 1)) = s1.step C x := by
        rw [List.take_add_one, hx, Option.toList_some, follow_snoc, ← ES.out]
      obtain ⟨g, o, rfl, hr⟩ := sees_at Wd.len (hw.kept hK hoff) hx (by omega)
      have b1 : (j : Int) < (n : Int) := by omega
      have hwj : IntKind.i64.wrap ((j : Int) + 1) = ((j + 1 : Nat) : Int) := by rw [IntKind.wrap_i64]; omega
      obtain ⟨w1, ew1⟩ : ∃ W, W = (wr.alloc (.cells noW.cs.toArray 35)).setRow wr.heap.size x.cs.toArray := ⟨_, rfl⟩
      have hB : Blk (wr.alloc (.cells noW.cs.toArray 35)) wr.heap.size 35 noW.cs.toArray := heap_alloc_new wr _
      have hb1 : Below wr.heap.size wr w1 := by rw [ew1]; exact below_setRow ((Below.refl _ wr).alloc (Nat.le_refl _) _) (Nat.le_refl _) _
      have hB1 : Blk w1 wr.heap.size 35 x.cs.toArray := by rw [ew1]; exact setRow_heap _ _ _ _ _ _ hB
      have hla := leads_any (hS.below hb1) hL x
      have HS := Lib.hid hS
      have HN := Lib.hid hnext
      clear hS hnext hw h hl
      go_wp2_with (first
        | (refine wpList_load_mid rfl 35 (.tmp 11) rfl g (o + j * 3) rfl x.cs _ hr Try.underlying35 rfl (load35 x) ?_)
        | (refine wpList_store_row rfl 35 (.tmp 5) (.tmp 12) rfl wr.heap.size x.cs.toArray rfl rfl 35 noW.cs.toArray hB size35 rfl x.onea ?_
           show wpList _ _ _ _ _ ((wr.alloc (.cells noW.cs.toArray 35)).setRow wr.heap.size x.cs.toArray)
           rw [← ew1]
           clear ew1 hB hr)
        | (refine wpList_load_row rfl 35 (.tmp 5) rfl wr.heap.size rfl 35 x.cs.toArray (0, 0) _ hB1 Try.underlying35 rfl size35 ?_))
      refine hla.mono ?_
      rintro e w2 ⟨rfl, hb2⟩
      have hb12 : Below wr.heap.size wr w2 := hb1.trans (hb2.mono hb1.size)
      have hS2 := HS.out.below hb12
      have hK2 := hK.next (kept_below (fun _ => False) hb12) (fun _ e => e.elim)
      have hz2 := hB1.on hb2
      have c1 : w2.cell? ⟨wr.heap.size, 1, none⟩ = some (.int .i64 x.c) := hz2.cell 1
      generalize wr.heap.size = z at c1 ⊢
      have HE : s1 = s1.step C x → To w L C (s.follow C (xs.take (j + 1))) w2 := fun e => by rw [HN.out, ← e]; exact ⟨An, m, cn, hS2, hK2, hN⟩
      clear hla hB1 hb1 hb2 hz2 HS
      cases hle : leads C x with
      | none =>
        have HT := HE (by unfold Sta.step; rw [hle])
        clear HE c1 hS2
        go_wp2
        go_roundw
        case rel => exact ⟨j + 1, by simp, by omega, HT⟩
        case measure => simp [intOf]; omega
      | some i =>
        have hi := leads_lt hle
        obtain ⟨c, hc, hxc, _, _⟩ := leads_some hle
        have hxi : x.c - 1 = (i : Int) := by omega
        have hLn : i < L.n := by rw [← hS2.lenC]; exact hi
        have hwi : IntKind.i64.wrap (i : Int) = (i : Int) := by rw [IntKind.wrap_i64]; omega
        have b2 : (0 : Int) ≤ (i : Int) := by omega
        have b3 : (i : Int) < (L.n : Int) := by omega
        obtain ⟨b, hb⟩ : ∃ b, s1.R[i]? = some b := ⟨_, List.getElem?_eq_getElem (by omega)⟩
        obtain ⟨gR, eR, ⟨csR, hbR⟩, hrR, hthR⟩ := own_at bool_len hS2.oR hb (by omega)
        have eR : L.Ar = some ⟨gR, 0, none⟩ := eR
        have r1 : w2.cell? ⟨L.p, 1, none⟩ = some (.slice L.Ar L.n L.cr) := hS2.box.cell 1
        rw [eR] at r1
        have r2 : w2.cell? ⟨gR, i, none⟩ = some (.bool b) := by have := hrR 0 _ rfl; simpa using this
        cases b with
        | true =>
          have HT := HE (by unfold Sta.step; rw [hle]; exact (if_pos hb).symm)
          clear HE hS2 hbR hrR hthR eR hc hxc
          go_wp2
          go_roundw
          case rel => exact ⟨j + 1, by simp, by omega, HT⟩
          case measure => simp [intOf]; omega
        | false =>
          have r3 : w2.frozen? ⟨gR, i, none⟩ = false := by have := (hthR 0 (by omega)).2; simpa using this
          obtain ⟨hS3, hK3⟩ := hS2.marked (g := gR) (i := i) eR hLn
          obtain ⟨w3, ew3⟩ : ∃ W, W = w2.setCell ⟨gR, i, none⟩ (.bool true) := ⟨_, rfl⟩
          have q2 : (w2.setCell ⟨gR, i, none⟩ (.bool true)).cell? ⟨L.p, 2, none⟩ = some (.slice An m cn) := hS3.box.cell 2
          have or5 := hS3.oQ.alloc (.cells #[.int .i64 (i : Int)] 3)
          have HK := Lib.hid (hS3.push_box (.cells #[.int .i64 (i : Int)] 3))
          have H3 := Lib.hid (And.intro hS3 hK3)
          have hstep : s1.step C x = ⟨s1.R.set i true, s1.Q ++ [i]⟩ := by
            unfold Sta.step
            rw [hle]
            exact if_neg (by rw [hb]; simp)
          have HST := Lib.hid hstep
          have ER := Lib.hid eR
          have hm : m ≤ 1000 := by have := hS2.lenQ; dsimp only at this; omega
          clear hstep HE hS2 hbR hrR hthR hS3 hK3 hc hxc eR
          have hsz : (w2.setCell ⟨gR, i, none⟩ (.bool true)).heap.size = w2.heap.size := by simp [World.setCell]
          have hbn : Blk ((w2.setCell ⟨gR, i, none⟩ (.bool true)).alloc (.cells #[.int .i64 (i : Int)] 3)) w2.heap.size 3 #[.int .i64 (i : Int)] := by rw [← hsz]; exact heap_alloc_new _ _
          have HSZ := Lib.hid hsz
          clear hsz
          go_wp2_with (refine wpList_append_lies _ rfl _ _ 42 rfl 0 3 i3 (.int .i64 0) 1 8 Try.underlying42 hi3 ha0 ha1 ha2 rfl (by decide) (.slice An m cn) m (nats s1.Q) rfl or5 ⟨w2.heap.size, 0, none⟩ 1 1 [.int .i64 (i : Int)] rfl rfl (World.news_of_block (cs := #[.int .i64 (i : Int)]) (t := 3) (fr := (0, 0)) hbn) (by simp [Value.oneCell']) (by decide) (by unfold maxLen; omega) (by omega) (Nat.zero_le _) (w2.heap.size + 1) (by simp [World.setCell]) ?_; intro gg cp w5 hown hgrow hat hlt; have hbx := HK.out w5 hgrow; have d0 := hbx.cell 2; have d1 := hbx.free 2)
          go_roundw
          case rel =>
            obtain ⟨hS3, hK3⟩ := H3.out
            obtain ⟨P1, P2, P3⟩ := hS3.pushed (i := i) (cp := cp) (.cells #[.int .i64 (i : Int)] 3) hgrow hown (by rw [HSZ.out]; exact hat)
            refine ⟨j + 1, by simp, by omega, ?_⟩
            rw [HN.out, HST.out]
            refine ⟨some ⟨gg, 0, none⟩, m + 1, cp, P1, (hK2.next hK3 (fun g hg => ?_)).next P2 (fun g hg => ?_), fun g hg => ?_⟩
            · have e : g = gR := hg
              subst e
              exact .inl (.inr (.inl (by rw [ER.out]; rfl)))
            · rcases hg with e | e
              · exact .inl (.inl e)
              · exact (hN g e).elim (fun e => .inl (.inr (.inr e))) .inr
            · rcases P3 g hg with e | e
              · exact hN g e
              · have := HSZ.out
                have := hK2.size
                exact .inr (by omega)
          case measure => simp [intOf]; omega
    · obtain rfl : j = n := by omega
      have t0 : decide ((j : Int) < (j : Int)) = false := decide_eq_false (by omega)
      have e : s1 = s.follow C xs := by rw [ES.out, List.take_of_length_le (by omega)]
      go_wp2
      go_end0
      exact ⟨rfl, An, m, cn, e ▸ hS, hK, hN⟩
end
end Go.Proofs.Ytenobgelhkpjcaa
