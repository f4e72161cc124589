/- Of any bag those may go that were retired two epochs ago or earlier; both parts are together the bag, in order; with a later epoch no fewer go. Conditions: the bag's numbers, and both epochs, have 64 bits. -/
import Derived.Test.YtmhpkpihojdchaaAlive
import Derived.Test.YtmhpkpihojdchaaBags
namespace Go.Proofs.Ytmhpkpihojdchaa
open Go.RowKit Go.ChangeShapes Go.WideShapes

theorem under26 : Try.prog.underlying 26 = some (.slice (Try.prog.elem 26)) := by kernel_rfl
theorem sizeE26 (w : World) : (sizeOf (Try.prog.elem 26)).run Try.prog w = .ok 3 w := by kernel_rfl
theorem upto26 (A : Option Addr) (n cap k : Nat) (hk : k ≤ cap) (hA : A = none → cap = 0) (w : World) :
    (Instr.slice 26 (.slice A n cap) none (some (.int .i64 (k : Int))) none).run Try.prog w = .ok (.slice A k cap) w := by
  rw [run_slice_h w 26 _ n cap under26 .i64 _ (by omega) (by omega), sizeE26]
  simp only [Result.andThen, sliced, Int.toNat_natCast, Nat.sub_zero, Nat.zero_mul]
  rcases A with _ | ad
  · have := hA rfl
    subst this
    obtain rfl : k = 0 := by omega
    rfl
  · split <;> simp [Addr.add]
theorem cut_40 (A : Option Addr) (n cap : Nat) (hc : 40 ≤ cap) (hA : A = none → cap = 0) : ∃ m : Nat, m = 40 ∧ ∀ w, (Instr.slice 26 (.slice A n cap) none (some (.int .i64 40)) none).run Try.prog w = .ok (.slice A m cap) w :=
  ⟨40, rfl, fun w => upto26 A n cap 40 hc hA w⟩
set_option maxRecDepth 100000 in
set_option maxHeartbeats 8000000 in
theorem splits_any {w : World} {A : Option Addr} {n cap : Nat} {l : List Bg} {e d : Int} (hS : SeesB w A n cap l) (hW : ∀ b ∈ l, Wide b.n) (he : Wide e) (hd : Wide d) :
    Calls Try.prog 4 #[.slice A n cap, .int .i64 e, .int .i64 d] w fun r w' => r = .returned (.bool true) ∧ Below w.heap.size w w' := by
  have hn63 : (n : Int) ≤ 9223372036854775807 := by have := Sees.room hS; have := Sees.most hS; unfold maxLen at this; omega
  have hrm := Sees.room hS
  have hA0 := Sees.none_ hS
  have HE := Lib.hid (And.intro he hd)
  clear he hd
  rcases Nat.lt_or_ge 40 n with hn | hn
  all_goals first
    | (have t1 : decide ((40 : Int) < (n : Int)) = true := decide_eq_true (by omega)
       obtain ⟨m, hm, hc⟩ := cut_40 A n cap (by omega) hA0
       have hf : SeesB w A m cap (l.take m) := Sees.first Bg.len hS m (by omega) (by omega)
       have hV : ∀ b ∈ l.take m, Wide b.n := fun b hb => hW b (List.mem_of_mem_take hb)
       generalize l.take m = ys at *
       have hm1 : m ≤ 40 := by omega
       clear hm hS hW hA0 hrm
       go_enter Try.func4, Try.ntmps4
       go_wp2_with fail
       refine (alive_any w).mono ?_
       rintro r W ⟨rfl, hbW⟩
       have HK := Lib.hid (And.intro hbW (And.intro (hf.on hbW) (And.intro hf.len hV)))
       clear hbW hf hV
       go_wp2_with fail)
    | (have t1 : decide ((40 : Int) < (n : Int)) = false := decide_eq_false (by omega)
       obtain ⟨m, hm⟩ : ∃ m, m = n := ⟨_, rfl⟩
       obtain ⟨ys, hys⟩ : ∃ ys, ys = l := ⟨_, rfl⟩
       have hf := hS
       have hV := hW
       rw [← hm, ← hys] at hf
       rw [← hys] at hV
       have hm1 : m ≤ 40 := by omega
       subst hm
       subst hys
       clear hS hW hA0 hrm
       go_enter Try.func4, Try.ntmps4
       go_wp2_with fail
       refine (alive_any w).mono ?_
       rintro r W ⟨rfl, hbW⟩
       have HK := Lib.hid (And.intro hbW (And.intro (hf.on hbW) (And.intro hf.len hV)))
       clear hbW hf hV
       go_wp2_with fail)
  all_goals
    clear hn63 t1
    go_loopw [7, 8, 9] (fun f q i wr => ∃ k : Nat, k ≤ m ∧ i = .int .i64 (k : Int) ∧ ∃ A1 c1 A2 c2, f = .slice A1 (goL (ys.take k) e).length c1 ∧ q = .slice A2 (stayL (ys.take k) e).length c2 ∧ Pair W.heap.size W wr A1 (goL (ys.take k) e).length c1 A2 (stayL (ys.take k) e).length c2 (goL (ys.take k) e) (stayL (ys.take k) e)) (fun _ _ i _ => m - (intOf i).toNat)
    case atStart => exact ⟨0, Nat.zero_le _, rfl, none, 0, none, 0, rfl, rfl, pair_nil _ _⟩
    case round =>
      obtain ⟨k, hk, rfl, A1, c1, A2, c2, rfl, rfl, hP⟩ := hrel
      obtain ⟨hbW, hSW, hl, hV⟩ := HK.out
      by_cases hlt : k < m
      · obtain ⟨x, hx⟩ : ∃ x, ys[k]? = some x := ⟨_, List.getElem?_eq_getElem (by omega)⟩
        obtain ⟨g, o, eA, hr⟩ := (hSW.on hP.below).at_ hx
        have hxw := hV x (List.mem_of_getElem? hx)
        have hnx := parts_next e hx
        have hsf : (goL (ys.take k) e).length ≤ 1000 := Nat.le_trans (goL_len _ _) (by rw [List.length_take]; omega)
        have hsk : (stayL (ys.take k) e).length ≤ 1000 := Nat.le_trans (stayL_len _ _) (by rw [List.length_take]; omega)
        have hBs := hP.below.size
        have hkI : (k : Int) < (m : Int) := by omega
        have hk0 : (0 : Int) ≤ (k : Int) := by omega
        have hr' : wr.rangeAt g (o + k * 3) [.int .i64 x.c, .int .i64 x.g, .int .i64 x.n] := hr
        have c2' : wr.cell? ⟨g, o + k * 3 + 2, none⟩ = some (.int .i64 x.n) := hr 2 _ rfl
        have hb4 : Below wr.heap.size wr (wr.alloc (.cells #[.int .i64 x.c, .int .i64 x.g, .int .i64 x.n] 28)) := (Below.refl _ wr).alloc (Nat.le_refl _) _
        have hP4 := hP.on hBs hb4
        have hx4 : Blk (wr.alloc (.cells #[.int .i64 x.c, .int .i64 x.g, .int .i64 x.n] 28)) wr.heap.size 28 #[.int .i64 x.c, .int .i64 x.g, .int .i64 x.n] := heap_alloc_new wr _
        have hB4 : W.heap.size ≤ (wr.alloc (.cells #[.int .i64 x.c, .int .i64 x.g, .int .i64 x.n] 28)).heap.size := hP4.below.size
        obtain ⟨n1, n2⟩ := hxw
        obtain ⟨b, eb⟩ : ∃ b, goB x.n e = b := ⟨_, rfl⟩
        rw [eb] at hnx
        unfold goB at eb
        subst eA
        clear hP hr hBs hb4 hbW hSW hl hV hx
        generalize goL (ys.take k) e = F at *
        generalize stayL (ys.take k) e = K at *
        cases b with
        | true =>
          obtain ⟨eF, eK⟩ := hnx.1 rfl
          have HN := Lib.hid (And.intro eF eK)
          have hee := HE.out.1.2
          have hb := of_decide_eq_true eb
          have t3 : decide (x.n ≤ 9223372036854775805) = true := decide_eq_true (by omega)
          have n3 : x.n + 2 ≤ 9223372036854775807 := by omega
          have n4 : -9223372036854775808 ≤ x.n + 2 := by omega
          clear hnx eF eK hb hee
          go_wp2_with (first
            | (refine wpList_load_mid rfl 28 (.tmp 44) rfl g (o + k * 3) rfl [.int .i64 x.c, .int .i64 x.g, .int .i64 x.n] _ hr' Try.underlying28 rfl size28 ?_)
            | (at_builtin; refine wpList_one rfl _ _ rfl rfl hP4.f (by omega) hB4 wr.heap.size x rfl hx4 ?_; intro A3 c3 w3 ho3 hg3 hl3; have hP5 := (hP4.symm.add ho3 hg3 hl3 hB4).symm; clear ho3 hg3 hl3 hP4))
          obtain ⟨eF, eK⟩ := HN.out
          go_roundw
          case rel => exact ⟨k + 1, by omega, by go_num, A3, c3, A2, c2, by rw [eF, List.length_append]; rfl, by rw [eK], by rw [eF, eK, List.length_append]; exact hP5⟩
          case measure => simp [intOf]; omega
        | false =>
          obtain ⟨eF, eK⟩ := hnx.2 rfl
          have HN := Lib.hid (And.intro eF eK)
          clear hnx eF eK
          rcases Int.lt_or_le 9223372036854775805 x.n with h1 | h1
          all_goals first
            | (have t3 : decide (x.n ≤ 9223372036854775805) = false := decide_eq_false (by omega))
            | (have t3 : decide (x.n ≤ 9223372036854775805) = true := decide_eq_true (by omega)
               have n3 : x.n + 2 ≤ 9223372036854775807 := by omega
               have n4 : -9223372036854775808 ≤ x.n + 2 := by omega)
          all_goals
            clear h1
            go_wp2_with (first
              | (refine wpList_load_mid rfl 28 (.tmp 51) rfl g (o + k * 3) rfl [.int .i64 x.c, .int .i64 x.g, .int .i64 x.n] _ hr' Try.underlying28 rfl size28 ?_)
              | (at_builtin; refine wpList_one rfl _ _ rfl rfl hP4.k (by omega) hB4 wr.heap.size x rfl hx4 ?_; intro A3 c3 w3 ho3 hg3 hl3; have hP5 := hP4.add ho3 hg3 hl3 hB4; clear ho3 hg3 hl3 hP4))
            obtain ⟨eF, eK⟩ := HN.out
            go_roundw
            case rel => exact ⟨k + 1, by omega, by go_num, A1, c1, A3, c3, by rw [eF], by rw [eK, List.length_append]; rfl, by rw [eF, eK, List.length_append]; exact hP5⟩
            case measure => simp [intOf]; omega
      · have hkN : k = m := by omega
        subst hkN
        have et : ys.take k = ys := by rw [← hl, List.take_length]
        rw [et] at hP
        have hSV := hSW.on hP.below
        have hbV := hbW.trans (hP.below.mono hbW.size)
        have hBV := hP.below.size
        have c1' : ∀ W', Below wr.heap.size wr W' → Calls Try.prog 8 #[.slice A k cap, .int .i64 e] W' _ := fun W' hW' => split_any (hSV.on hW') (by omega) hV HE.out.1
        have c2' : ∀ W', Below wr.heap.size wr W' → Calls Try.prog 8 #[.slice A k cap, .int .i64 d] W' _ := fun W' hW' => split_any (hSV.on hW') (by omega) hV HE.out.2
        have hmore : e ≤ d → (goL ys e).length ≤ (goL ys d).length := fun h => goL_more ys h
        have HP := Lib.hid (And.intro hP (And.intro hbV hBV))
        have HM := Lib.hid hmore
        have HT := Lib.hid et
        clear hP hbV hBV hSV hbW hSW hl hV hmore et
        go_wp2_with fail
        rw [HT.out]
        refine (c1' _ (Below.refl _ _)).mono ?_
        rintro r W5 ⟨Aa, ca, Ab, cb, rfl, hSa, hSb, hb5⟩
        go_wp2_with fail
        refine (c2' _ hb5).mono ?_
        rintro r W6 ⟨Ac, cc, Ad, cd, rfl, hSc, hSd, hb6⟩
        clear c1' c2'
        obtain ⟨hP, hbV, hBV⟩ := HP.out
        have hb56 := hb5.trans (hb6.mono hb5.size)
        have hP6 := hP.on hBV hb56
        have hbw6 := hbV.trans (hb56.mono hbV.size)
        have hSa6 := hSa.on hb6
        have hSb6 := hSb.on hb6
        have hle := HM.out
        have HX := Lib.hid (And.intro hSb6 (And.intro (own_seesB hP6.k) hbw6))
        have cb1 := bags_same Aa A1 _ ca c1 _ W6 hSa6 (own_seesB hP6.f)
        have hSf := hP6.f
        clear hP hbV hBV hb56 hP6 hbw6 hSa hSb hSa6 hSb6 hSc hSd hb5 hb6 HM hSf
        generalize goL ys e = F at *
        generalize stayL ys e = K at *
        generalize (goL ys d).length = q at *
        obtain ⟨f, ef⟩ : ∃ f, F.length = f := ⟨_, rfl⟩
        rw [ef] at hle cb1
        go_wp2_with fail
        refine cb1.mono ?_
        rintro r W7 ⟨rfl, hb7⟩
        obtain ⟨hSb, hSk, hbw6⟩ := HX.out
        have cb2 := bags_same Ab A2 _ cb c2 K W7 (hSb.on hb7) (hSk.on hb7)
        have HR := Lib.hid (hbw6.trans (hb7.mono hbw6.size))
        clear hSb hSk hbw6 hb7 cb1 HX
        rcases Int.lt_or_le d e with hde | hde
        all_goals first
          | (have t5 : decide (d < e) = true := decide_eq_true hde)
          | (have t5 : decide (d < e) = false := decide_eq_false (by omega)
             have t6 : decide (f ≤ q) = true := decide_eq_true (hle hde))
        all_goals
          clear hde hle
          go_wp2_with fail
          refine cb2.mono ?_
          rintro r W8 ⟨rfl, hb8⟩
          have HS := Lib.hid (HR.out.trans (hb8.mono HR.out.size))
          clear hb8 cb2
          go_wp2
          go_ret
          exact ⟨rfl, HS.out⟩
end Go.Proofs.Ytmhpkpihojdchaa
