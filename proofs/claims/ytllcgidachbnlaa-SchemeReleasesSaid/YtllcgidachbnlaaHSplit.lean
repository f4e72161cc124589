/- Two lists of bagged cells of the call's own, side by side; a bag parted by the numbers seen. Conditions: at most 1000 cells and numbers. -/
import Derived.Test.YtllcgidachbnlaaSorted
import Derived.Test.YtllcgidachbnlaaPair
namespace Go.Proofs.Ytllcgidachbnlaa
open Go.RowKit Go.Shelf Go.ChangeShapes Go.WideShapes Go.Sort

/-- Those that may go, and those that stay. -/
def freeL (l : List Bg) (z : List Int) : List Bg := l.filter fun b => !decide (b.c ∈ z)
def keptL (l : List Bg) (z : List Int) : List Bg := l.filter fun b => decide (b.c ∈ z)
theorem freeL_len (l : List Bg) (z : List Int) : (freeL l z).length ≤ l.length := List.length_filter_le _ _
theorem keptL_len (l : List Bg) (z : List Int) : (keptL l z).length ≤ l.length := List.length_filter_le _ _
theorem hparts_next {l : List Bg} {k : Nat} {x : Bg} (z : List Int) (hx : l[k]? = some x) :
    (decide (x.c ∈ z) = true → freeL (l.take (k + 1)) z = freeL (l.take k) z ∧ keptL (l.take (k + 1)) z = keptL (l.take k) z ++ [x]) ∧
    (decide (x.c ∈ z) = false → freeL (l.take (k + 1)) z = freeL (l.take k) z ++ [x] ∧ keptL (l.take (k + 1)) z = keptL (l.take k) z) := by
  rw [take_next hx]
  unfold freeL keptL
  constructor <;> intro h <;> simp [List.filter_append, h]

set_option maxRecDepth 100000 in
set_option maxHeartbeats 4000000 in
theorem hsplit_any {w : World} {A Az : Option Addr} {n cap m cz : Nat} {l : List Bg} {z : List Int} (hS : SeesB w A n cap l) (hz : SeesI w Az m cz z) (hn : n ≤ 1000) (hm : m ≤ 1000) :
    Calls Try.prog 45 #[.slice A n cap, .slice Az m cz] w fun e w' => ∃ A1 c1 A2 c2, e = .returned (.tuple #[.slice A1 (freeL l z).length c1, .slice A2 (keptL l z).length c2]) ∧
      w'.ownsRow w.heap.size 48 3 (.slice A1 (freeL l z).length c1) (freeL l z).length (flatB (freeL l z)) ∧ w'.ownsRow w.heap.size 48 3 (.slice A2 (keptL l z).length c2) (keptL l z).length (flatB (keptL l z)) ∧ Below w.heap.size w w' := by
  have hl := hS.len
  have cv := values_any Az m cz w
  have hb1 : Below w.heap.size w (w.alloc (.cells #[.slice Az m cz] 30)) := (Below.refl _ w).alloc (Nat.le_refl _) _
  have hz1 := hz.on hb1
  have cs := sorted_any hz1 hm w.heap.size (heap_alloc_new w _)
  generalize seqV w.heap.size = V at cv cs
  generalize w.alloc (.cells #[.slice Az m cz] 30) = w1 at cv cs hb1
  go_enter Try.func45, Try.ntmps45
  go_wp2_with (first
    | (go_at_call 55; refine cv.mono ?_; rintro e w' ⟨rfl, rfl⟩)
    | (go_at_call 54; refine cs.mono ?_; rintro e W ⟨As, cq, rfl, hrow, hbW⟩))
  have hbw : Below w.heap.size w W := hb1.trans (hbW.mono hb1.size)
  have hseek : ∀ W' x, Below W.heap.size W W' → Calls Try.prog 56 #[.slice As m cq, .int .i64 x] W' fun e w' => ∃ k : Int, e = .returned (.tuple #[.int .i64 k, .bool (decide (x ∈ z))]) ∧ ∃ q, w' = W'.drewN q := fun W' x hW' => by
    have := search_any (ownB_below hrow hW') hm (risen_rises z) x
    rw [show decide (x ∈ risen z) = decide (x ∈ z) from decide_eq_decide.2 (risen_mem z x)] at this
    exact this
  have hSW := hS.on hbw
  have HK := Lib.hid (And.intro hseek (And.intro hbw (And.intro hSW hl)))
  clear hseek hrow hbW hz1 hb1 cs cv hS hz hbw hSW hl
  go_loopw [7, 8, 18] (fun f q i wr => ∃ k : Nat, k ≤ n ∧ i = .int .i64 (k : Int) ∧ ∃ A1 c1 A2 c2, f = .slice A1 (freeL (l.take k) z).length c1 ∧ q = .slice A2 (keptL (l.take k) z).length c2 ∧ Pair W.heap.size W wr A1 (freeL (l.take k) z).length c1 A2 (keptL (l.take k) z).length c2 (freeL (l.take k) z) (keptL (l.take k) z)) (fun _ _ i _ => n - (intOf i).toNat)
  case atStart => exact ⟨0, Nat.zero_le _, rfl, none, 0, none, 0, rfl, rfl, pair_nil _ _⟩
  case round =>
    obtain ⟨k, hk, rfl, A1, c1, A2, c2, rfl, rfl, hP⟩ := hrel
    obtain ⟨hseek, hbw, hSW, hl⟩ := HK.out
    by_cases hlt : k < n
    · obtain ⟨x, hx⟩ : ∃ x, l[k]? = some x := ⟨_, List.getElem?_eq_getElem (by omega)⟩
      obtain ⟨g, o, rfl, hr⟩ := (hSW.on hP.below).at_ hx
      have hnx := hparts_next z hx
      have hsf : (freeL (l.take k) z).length ≤ 1000 := Nat.le_trans (freeL_len _ _) (by rw [List.length_take]; omega)
      have hsk : (keptL (l.take k) z).length ≤ 1000 := Nat.le_trans (keptL_len _ _) (by rw [List.length_take]; omega)
      have hBs := hP.below.size
      have hbx : Below wr.heap.size wr (wr.alloc (.cells #[.int .i64 x.c, .int .i64 x.g, .int .i64 x.n] 48)) := (Below.refl _ wr).alloc (Nat.le_refl _) _
      have hPx := hP.on hBs hbx
      have hxb : Blk (wr.alloc (.cells #[.int .i64 x.c, .int .i64 x.g, .int .i64 x.n] 48)) wr.heap.size 48 #[.int .i64 x.c, .int .i64 x.g, .int .i64 x.n] := heap_alloc_new wr _
      have hck := hseek (wr.alloc (.cells #[.int .i64 x.c, .int .i64 x.g, .int .i64 x.n] 48)) x.c hPx.below
      have hr' : wr.rangeAt g (o + k * 3) [.int .i64 x.c, .int .i64 x.g, .int .i64 x.n] := hr
      have hkI : (k : Int) < (n : Int) := by omega
      have hk0 : (0 : Int) ≤ (k : Int) := by omega
      have HX := Lib.hid (And.intro hPx (And.intro hxb hBs))
      clear hP hPx hbx hxb hseek hr hSW hbw hl hx
      generalize freeL (l.take k) z = F at *
      generalize keptL (l.take k) z = K at *
      obtain ⟨b, eb⟩ : ∃ b, decide (x.c ∈ z) = b := ⟨_, rfl⟩
      rw [eb] at hck hnx
      clear eb
      go_wp2_with (refine wpList_load_mid rfl 48 (.tmp 20) rfl g (o + k * 3) rfl [.int .i64 x.c, .int .i64 x.g, .int .i64 x.n] _ hr' Try.underlying48 rfl size48 ?_)
      refine hck.mono ?_
      rintro e w' ⟨j, rfl, q, rfl⟩
      have hdn : Below (wr.alloc (.cells #[.int .i64 x.c, .int .i64 x.g, .int .i64 x.n] 48)).heap.size (wr.alloc (.cells #[.int .i64 x.c, .int .i64 x.g, .int .i64 x.n] 48)) ((wr.alloc (.cells #[.int .i64 x.c, .int .i64 x.g, .int .i64 x.n] 48)).drewN q) := below_dn (Below.refl _ _) q
      obtain ⟨hPx, hxb, hBs⟩ := HX.out
      have hP2 := hPx.on (by simp; omega) hdn
      have hx2 := hxb.on hdn
      have hB2 : W.heap.size ≤ ((wr.alloc (.cells #[.int .i64 x.c, .int .i64 x.g, .int .i64 x.n] 48)).drewN q).heap.size := hP2.below.size
      clear HX hPx hxb hdn hck hr' hBs
      generalize (wr.alloc (.cells #[.int .i64 x.c, .int .i64 x.g, .int .i64 x.n] 48)).drewN q = w2 at hP2 hx2 hB2 ⊢
      have hb4 : Below w2.heap.size w2 (w2.alloc (.cells #[.int .i64 x.c, .int .i64 x.g, .int .i64 x.n] 48)) := (Below.refl _ w2).alloc (Nat.le_refl _) _
      have hP4 := hP2.on hB2 hb4
      have hx4 : Blk (w2.alloc (.cells #[.int .i64 x.c, .int .i64 x.g, .int .i64 x.n] 48)) w2.heap.size 48 #[.int .i64 x.c, .int .i64 x.g, .int .i64 x.n] := heap_alloc_new w2 _
      have hB4 : W.heap.size ≤ (w2.alloc (.cells #[.int .i64 x.c, .int .i64 x.g, .int .i64 x.n] 48)).heap.size := hP4.below.size
      clear hb4 hP2
      generalize wr.heap.size = zb at *
      cases b with
      | true =>
        obtain ⟨eF, eK⟩ := hnx.1 rfl
        have HN := Lib.hid (And.intro eF eK)
        clear hnx eF eK
        go_wp2_with (first
          | (refine wpList_load_row rfl 48 (.tmp 10) rfl zb rfl 48 #[.int .i64 x.c, .int .i64 x.g, .int .i64 x.n] (0, 0) _ hx2 Try.underlying48 rfl size48 ?_)
          | (at_builtin; refine wpList_one rfl _ _ rfl rfl hP4.k (by omega) hB4 w2.heap.size x rfl hx4 ?_; intro A3 c3 w3 ho3 hg3 hl3; have hP5 := hP4.add ho3 hg3 hl3 hB4; clear ho3 hg3 hl3 hP4 hx2))
        obtain ⟨eF, eK⟩ := HN.out
        go_roundw
        case rel => exact ⟨k + 1, by omega, by go_num, A1, c1, A3, c3, by rw [eF], by rw [eK, List.length_append]; rfl, by rw [eF, eK, List.length_append]; exact hP5⟩
        case measure => simp [intOf]; omega
      | false =>
        obtain ⟨eF, eK⟩ := hnx.2 rfl
        have HN := Lib.hid (And.intro eF eK)
        clear hnx eF eK
        go_wp2_with (first
          | (refine wpList_load_row rfl 48 (.tmp 10) rfl zb rfl 48 #[.int .i64 x.c, .int .i64 x.g, .int .i64 x.n] (0, 0) _ hx2 Try.underlying48 rfl size48 ?_)
          | (at_builtin; refine wpList_one rfl _ _ rfl rfl hP4.f (by omega) hB4 w2.heap.size x rfl hx4 ?_; intro A3 c3 w3 ho3 hg3 hl3; have hP5 := (hP4.symm.add ho3 hg3 hl3 hB4).symm; clear ho3 hg3 hl3 hP4 hx2))
        obtain ⟨eF, eK⟩ := HN.out
        go_roundw
        case rel => exact ⟨k + 1, by omega, by go_num, A3, c3, A2, c2, by rw [eF, List.length_append]; rfl, by rw [eK], by rw [eF, eK, List.length_append]; exact hP5⟩
        case measure => simp [intOf]; omega
    · have hk' : k = n := by omega
      subst hk'
      have et : l.take k = l := by rw [← hl, List.take_length]
      rw [et] at hP
      have HP := Lib.hid hP
      have HT := Lib.hid et
      clear hP et hseek hSW hl
      go_wp2
      refine bodyPost_ret (v := .tuple #[.slice A1 (freeL l z).length c1, .slice A2 (keptL l z).length c2]) (by simp [results, Try.f45, go_sem, HT.out]) rfl ?_
      exact ⟨A1, c1, A2, c2, rfl, own_mono HP.out.f hbw.size, own_mono HP.out.k hbw.size, hbw.trans (HP.out.below.mono hbw.size)⟩
end Go.Proofs.Ytllcgidachbnlaa
