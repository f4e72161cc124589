/- The plain octets of a state: 'append' onto a row of the call's own. Conditions: lists of at most 1048576. -/
import Derived.Test.YtfmkmmmaoiepmaaRef3
namespace Go.Proofs.Ytfmkmmmaoiepmaa
set_option linter.unusedSimpArgs false
set_option linter.unusedVariables false
open Go.RowKit Go.ChangeShapes Go.WideShapes

theorem own_base {w : World} {B B' n k : Nat} {A : Option Addr} {cap : Nat} {t : TypeId} {vs : List Value} (h : w.ownsRow B t k (.slice A n cap) n vs) (hB : ∀ g, lies A g → B' ≤ g) : w.ownsRow B' t k (.slice A n cap) n vs := by
  refine ⟨h.1, ?_⟩
  rcases h.2 with h0 | ⟨g, c, cur, e, hb, rest⟩
  · exact .inl h0
  · injection e with e1 e2 e3
    subst e1
    exact .inr ⟨g, c, cur, by rw [e3], hB g rfl, rest⟩
theorem own_mono {w : World} {B B' n k : Nat} {A : Option Addr} {cap : Nat} {t : TypeId} {vs : List Value} (h : w.ownsRow B t k (.slice A n cap) n vs) (hB : B' ≤ B) : w.ownsRow B' t k (.slice A n cap) n vs := own_base h fun g hg => Nat.le_trans hB (own_new h g hg)
/-- A row of octets of the call's own, from B on. -/
def OwnO (B : Nat) (w : World) (A : Option Addr) (n cap : Nat) (xs : List Int) : Prop := w.ownsRow B 5 1 (.slice A n cap) n (nums xs)
theorem OwnO.on {B : Nat} {w w' : World} {A : Option Addr} {n cap : Nat} {xs : List Int} (h : OwnO B w A n cap xs) (hb : Below w.heap.size w w') : OwnO B w' A n cap xs := ownB_below h hb
theorem OwnO.oct {B : Nat} {w : World} {A : Option Addr} {n cap : Nat} {xs : List Int} (h : OwnO B w A n cap xs) (hs : Small xs) : Oct w w.heap.size A n cap xs := by
  obtain ⟨A', c', e, ho⟩ := Oct.own h hs
  injection e with e1 e2 e3
  subst e1 e3
  exact ho
theorem OwnO.len {B : Nat} {w : World} {A : Option Addr} {n cap : Nat} {xs : List Int} (h : OwnO B w A n cap xs) : xs.length = n := by
  have := h.1
  rw [nums_len] at this
  omega
/-- What an append leaves: a block of another type, what lies below. -/
theorem app_blk {B g : Nat} {w w' : World} {A : Option Addr} {n cap : Nat} {xs : List Int} {t : TypeId} {cs : Array Value} (h : OwnO B w A n cap xs) (hg : w.grownBy w' (Value.slice A n cap).ownBlock) (hb : Blk w g t cs) (ht : 5 ≠ t) : Blk w' g t cs :=
  blk_grown hb hg fun e => own_off (own_low h) hb ht ((own_lies A n cap g).1 e.symm)
theorem app_below {B : Nat} {w0 w w' : World} {A : Option Addr} {n cap : Nat} {xs : List Int} (h : OwnO B w A n cap xs) (hg : w.grownBy w' (Value.slice A n cap).ownBlock) (hb : Below B w0 w) (hs : B ≤ w.heap.size) : Below B w0 w' :=
  hb.grown hg hs fun g e => (h.lt g e).1
/-- 'append(b, c...)', octets. -/
theorem wpList_octs {w : World} {ops : Array Oper} {rest : List Oper} {o : Oper} {a : Act} {Q : Exit → Act → World → Prop} (hgd : o.guard = none) (s x : Operand)
    (ho : o.op = .call { callee := .builtin .append, args := #[s, x], argTypes := #[32, 32] }) {B : Nat} {A0 : Option Addr} {n0 c0 : Nat} {xs0 : List Int} (hs : a.eval s = .slice A0 n0 c0) (hown : OwnO B w A0 n0 c0 xs0)
    {A : Option Addr} {n cap : Nat} {xs : List Int} (hx : a.eval x = .slice A n cap) (h : Oct w w.heap.size A n cap xs) (hn : n0 + n ≤ 1000000000000) (hB : B ≤ w.heap.size)
    (hK : ∀ A' c' w', OwnO B w' A' (n0 + n) c' (xs0 ++ xs) → w.grownBy w' (Value.slice A0 n0 c0).ownBlock → wpList Try.prog ops Q rest (a.put o.dst (.slice A' (n0 + n) c')) w') : wpList Try.prog ops Q (o :: rest) a w :=
  wpList_append_octets hgd s x ho B (.slice A0 n0 c0) n0 xs0 hs hown w.heap.size A n cap xs hx h hn hB fun v' w' h1 h2 => by
    obtain ⟨A', c', rfl⟩ := own_form h1
    exact hK A' c' w' h1 h2
theorem octs_put8 {c : Sc} {bl : List Bu} (h : c.bu = bl.map Prod.snd) : [] ++ octs (many Tc.ns c.th) ++ octs (many Bu.ns bl) ++ octs c.sh = octs c.ns := octs_put h
set_option maxRecDepth 100000 in
theorem rsmallG_any (B : Nat) (xs : List Int) (A : Option Addr) (n cap : Nat) (m : Int) (w : World) (h : Oct w w.heap.size A n cap xs) (hn : xs.length + 8 ≤ 900000000000) (hB : B ≤ w.heap.size) : Calls Try.prog 23 #[.slice A n cap, .int .i64 m] w fun e w' => ∃ A' n' c', e = .returned (.slice A' n' c') ∧ OwnO B w' A' n' c' (xs ++ oct8 m) ∧ Below w.heap.size w w' := by
  have hl := h.len
  have d1 := ref_loop xs A n cap m 8 w h (by omega) (by omega) (by omega)
  clear hl hn
  have HB := Lib.hid hB
  clear hB
  go_enter Try.func23, Try.ntmps23
  go_wp2_with fail
  go_enter Try.func25, Try.ntmps25
  go_wp2_with fail
  refine d1.mono ?_
  rintro e w1 ⟨A1, n1, c1, rfl, o1, k1, ho⟩
  go_wp2
  go_ret
  exact ⟨A1, n1, c1, rfl, own_mono (w := w1) (by exact ho) HB.out, k1⟩
set_option maxRecDepth 100000 in
set_option maxHeartbeats 4000000 in
theorem rput_any (s : St) (c : Sc) (bl : List Bu) (w : World) (hr : Stat w s c bl) (hf : Fits c bl) : Calls Try.prog 15 #[.agg s.cs.toArray] w (Outs (octs c.ns) w) := by
  have OP := Lib.hid (octs_put8 hr.eb)
  have HS := Lib.hid hf.sh
  have HL := Lib.hid (And.intro hf.t4 hr.th.len)
  have HM := Lib.hid (And.intro hf.b4 hr.bu.len)
  have n1x : ∀ x ∈ c.th, (Tc.ns x).length ≤ 5242902 := fun x hx => (hf.t x hx).len
  have n2x : ∀ x ∈ bl, (Bu.ns x).length ≤ 8388609 := fun x hx => bu_len (hf.b x hx)
  have F1 := Lib.hid (flat_le n1x)
  have F2 := Lib.hid (flat_le n2x)
  have HN := Lib.hid hf.sh
  have HO := hf
  clear hf
  have mx := Sees.most hr.th.sees
  have rm := Sees.room hr.th.sees
  have mx2 := Sees.most hr.bu.sees
  have rm2 := Sees.room hr.bu.sees
  unfold maxLen at mx mx2
  have HR := Lib.hid hr
  obtain ⟨p1, f1⟩ : ∃ p, w.heap.size = p := ⟨_, rfl⟩
  obtain ⟨W1, ea1⟩ : ∃ W, w.alloc (.cells s.cs.toArray 29) = W := ⟨_, rfl⟩
  have k1 : Below w.heap.size w W1 := by rw [← ea1]; exact (Below.refl _ w).alloc (Nat.le_refl _) _
  have b1 : Blk W1 p1 29 s.cs.toArray := by rw [← ea1]; exact blk_new w _ 29 _ f1
  have kk := k1
  clear k1
  have c_0 : W1.cell? ⟨p1, 0, none⟩ = some (.slice s.th.A s.th.n s.th.cap) := b1.cell 0
  go_enter Try.func15, Try.ntmps15
  go_wp2_with fail
  refine (rsmallG_any w.heap.size [] none 0 0 (s.th.n : Int) W1 (outs_new _) (by simp) kk.size).mono ?_
  rintro e W2 ⟨A2, n2, c2, rfl, o, k2⟩
  replace b1 := b1.on k2
  replace kk := kk.trans (k2.mono kk.size)
  clear k2 c_0
  have c_0 : W2.cell? ⟨p1, 0, none⟩ = some (.slice s.th.A s.th.n s.th.cap) := b1.cell 0
  go_wp2
  clear c_0
  go_loopw [3, 4] (fun v i wr => ∃ (k : Nat) (A1 : Option Addr) (n1 c1 : Nat), k ≤ s.th.n ∧ i = .int .i64 k ∧ v = .slice A1 n1 c1 ∧ OwnO w.heap.size wr A1 n1 c1 ([] ++ oct8 (s.th.n : Int) ++ octs ((c.th.take k).flatMap Tc.ns)) ∧ Blk wr p1 29 s.cs.toArray ∧ Below w.heap.size w wr) (fun _ i _ => s.th.n - (intOf i).toNat)
  case atStart => exact ⟨0, _, _, _, Nat.zero_le _, rfl, rfl, by rw [List.take_zero, List.flatMap_nil, octs_nil, List.append_nil]; exact o, b1, kk⟩
  case round =>
    clear o b1 kk
    obtain ⟨k, A1, n1, c1, hk, rfl, rfl, o, b1, kk⟩ := hrel
    have hr := HR.out.on kk
    by_cases hlt : k < s.th.n
    · obtain ⟨g, oo, eA, c0⟩ := hr.th.get hlt
      have EA := Lib.hid eA
      clear eA
      have HT := Lib.hid (take_get c.th noTc (by rw [HL.out.2]; exact hlt))
      have hy := getD_mem (show k < c.th.length by rw [HL.out.2]; exact hlt) noTc
      have HF := Lib.hid (flat_take (f := Tc.ns) (K := 5242902) (l := c.th) (by exact n1x) k)
      generalize c.th.getD k noTc = y at c0 HT hy
      have hkI : (k : Int) < (s.th.n : Int) := by omega
      have hk0 : (0 : Int) ≤ (k : Int) := by omega
      have c_0 : wr.cell? ⟨p1, 0, none⟩ = some (.slice (some ⟨g, oo, none⟩) s.th.n s.th.cap) := by rw [← EA.out]; exact b1.cell 0
      go_wp2_with (((with_reducible refine at_load 41 (.tmp 22) ?_); refine wpList_mid (by rfl) 41 (.tmp 22) rfl g (oo + k * 22) rfl y.x.cs _ c0 Try.underlying41 rfl size41 ?_))
      refine (rthread_any y wr (hr.th.reads y hy) (HO.t y hy)).mono ?_
      rintro e w2 ⟨A2, n2, c2, rfl, o2, k2⟩
      have l2 := Lib.hid o2.len
      have l1 := Lib.hid o.len
      replace o := o.on k2
      replace b1 := b1.on k2
      replace kk := kk.trans (k2.mono kk.size)
      clear c_0 c0
      have HY := Lib.hid (n1x y hy)
      go_wp2_with (at_builtin; refine wpList_octs rfl (.tmp 18) (.tmp 24) rfl rfl o rfl o2 (by have h1 := HN.out; have h2 := HF.out; have h3 := l1.out; have h4 := l2.out; obtain ⟨h5, h6⟩ := HL.out; obtain ⟨h7, h8⟩ := HM.out; have h9 := HY.out; (try simp only [List.length_append, octs_len, oct8_len, many_len, List.length_nil] at h3); (try simp only [octs_len] at h4); have h10 := F1.out; have h11 := F2.out; omega) kk.size ?_; intro A3 c3 w3 o3 g3; have b3 := app_blk o g3 b1 (by decide); have k3 := app_below o g3 kk kk.size)
      clear o o2 b1 kk
      have c_0 : w3.cell? ⟨p1, 0, none⟩ = some (.slice s.th.A s.th.n s.th.cap) := b3.cell 0
      go_wp2
      go_roundw
      case rel => exact ⟨k + 1, _, _, _, by omega, by go_num, rfl, by rw [HT.out, ← octs_flat]; exact o3, b3, k3⟩
      case measure => simp [intOf]; omega
    · have hkI : ¬ (k : Int) < (s.th.n : Int) := by omega
      have c_0 : wr.cell? ⟨p1, 0, none⟩ = some (.slice s.th.A s.th.n s.th.cap) := b1.cell 0
      rw [take_all HL.out.2 hlt, octs_many8 _ _ HL.out.2] at o
      have c_1 : wr.cell? ⟨p1, 1, none⟩ = some (.slice s.bu.A s.bu.n s.bu.cap) := b1.cell 1
      go_wp2_with fail
      refine (rsmallG_any w.heap.size _ _ _ _ (s.bu.n : Int) wr (o.oct (by rw [List.nil_append]; exact octs_small _)) (by have h1 := HN.out; have h10 := F1.out; obtain ⟨h5, h6⟩ := HL.out; simp only [List.length_append, octs_len, many_len, List.length_nil]; omega) kk.size).mono ?_
      rintro e W3 ⟨A3, n3, c3, rfl, o9, k3⟩
      clear o
      have o := o9
      clear o9
      replace b1 := b1.on k3
      replace kk := kk.trans (k3.mono kk.size)
      clear k3 c_1 c_0 hr
      have c_1 : W3.cell? ⟨p1, 1, none⟩ = some (.slice s.bu.A s.bu.n s.bu.cap) := b1.cell 1
      go_wp2
      clear c_1
      go_loopw [3, 5] (fun v i wr => ∃ (k : Nat) (A1 : Option Addr) (n1 c1 : Nat), k ≤ s.bu.n ∧ i = .int .i64 k ∧ v = .slice A1 n1 c1 ∧ OwnO w.heap.size wr A1 n1 c1 ([] ++ octs (many Tc.ns c.th) ++ oct8 (s.bu.n : Int) ++ octs ((bl.take k).flatMap Bu.ns)) ∧ Blk wr p1 29 s.cs.toArray ∧ Below w.heap.size w wr) (fun _ i _ => s.bu.n - (intOf i).toNat)
      case atStart => exact ⟨0, _, _, _, Nat.zero_le _, rfl, rfl, by rw [List.take_zero, List.flatMap_nil, octs_nil, List.append_nil]; exact o, b1, kk⟩
      case round =>
        clear o b1 kk
        obtain ⟨k, A1, n1, c1, hk, rfl, rfl, o, b1, kk⟩ := hrel
        have hr := HR.out.on kk
        by_cases hlt : k < s.bu.n
        · obtain ⟨g, oo, eA, c0⟩ := hr.bu.get hlt
          have EA := Lib.hid eA
          clear eA
          have HT := Lib.hid (take_get bl noBu (by rw [HM.out.2]; exact hlt))
          have hy := getD_mem (show k < bl.length by rw [HM.out.2]; exact hlt) noBu
          have HF := Lib.hid (flat_take (f := Bu.ns) (K := 8388609) (l := bl) (by exact n2x) k)
          generalize bl.getD k noBu = y at c0 HT hy
          have hkI : (k : Int) < (s.bu.n : Int) := by omega
          have hk0 : (0 : Int) ≤ (k : Int) := by omega
          have c_1 : wr.cell? ⟨p1, 1, none⟩ = some (.slice (some ⟨g, oo, none⟩) s.bu.n s.bu.cap) := by rw [← EA.out]; exact b1.cell 1
          go_wp2_with fail
          refine (show Calls Try.prog 11 #[.slice y.1.A y.1.n y.1.cap] wr _ from (rbuffer_any y.2 y.1.A y.1.n y.1.cap wr (hr.bu.reads y hy) (by have h1 := n2x y hy; unfold Bu.ns at h1; omega))).mono ?_
          rintro e w2 ⟨A2, n2, c2, rfl, o2, k2⟩
          have l2 := Lib.hid o2.len
          have l1 := Lib.hid o.len
          replace o := o.on k2
          replace b1 := b1.on k2
          replace kk := kk.trans (k2.mono kk.size)
          clear c_1 c0
          have HY := Lib.hid (n2x y hy)
          have e2 : (Bu.ns y).length = (many Ent.ns y.2).length := rfl
          go_wp2_with (at_builtin; refine wpList_octs rfl (.tmp 38) (.tmp 44) rfl rfl o rfl o2 (by have h1 := HN.out; have h2 := HF.out; have h3 := l1.out; have h4 := l2.out; obtain ⟨h5, h6⟩ := HL.out; obtain ⟨h7, h8⟩ := HM.out; have h9 := HY.out; (try simp only [List.length_append, octs_len, oct8_len, many_len, List.length_nil] at h3); (try simp only [octs_len] at h4); have h10 := F1.out; have h11 := F2.out; omega) kk.size ?_; intro A3 c3 w3 o3 g3; have b3 := app_blk o g3 b1 (by decide); have k3 := app_below o g3 kk kk.size)
          clear o o2 b1 kk
          have c_1 : w3.cell? ⟨p1, 1, none⟩ = some (.slice s.bu.A s.bu.n s.bu.cap) := b3.cell 1
          go_wp2
          go_roundw
          case rel => exact ⟨k + 1, _, _, _, by omega, by go_num, rfl, by rw [HT.out, ← octs_flat]; exact o3, b3, k3⟩
          case measure => simp [intOf]; omega
        · have hkI : ¬ (k : Int) < (s.bu.n : Int) := by omega
          have c_1 : wr.cell? ⟨p1, 1, none⟩ = some (.slice s.bu.A s.bu.n s.bu.cap) := b1.cell 1
          rw [take_all HM.out.2 hlt, octs_many8 _ _ HM.out.2] at o
          go_wp2_with (((with_reducible refine at_load 29 (.tmp 1) ?_); refine wpList_load_row rfl 29 (.tmp 1) rfl p1 rfl 29 s.cs.toArray (0, 0) _ b1 Try.underlying29 rfl (sizeS _) ?_))
          refine (rshared_any s c bl wr hr.sh HO).mono ?_
          rintro e W4 ⟨A4, n4, c4, rfl, o4, k4⟩
          have l4 := Lib.hid o4.len
          have l1 := Lib.hid o.len
          replace o := o.on k4
          replace b1 := b1.on k4
          replace kk := kk.trans (k4.mono kk.size)
          clear c_1
          go_wp2_with (at_builtin; refine wpList_octs rfl (.tmp 46) (.tmp 48) rfl rfl o rfl o4 (by have h1 := HN.out; have h3 := l1.out; have h4 := l4.out; have h10 := F1.out; have h11 := F2.out; obtain ⟨h5, h6⟩ := HL.out; obtain ⟨h7, h8⟩ := HM.out; (try simp only [List.length_append, octs_len, oct8_len, many_len, List.length_nil] at h3 h4); omega) kk.size ?_; intro A5 c5 w5 o5 g5; have k5 := app_below o g5 kk kk.size)
          go_ret
          rw [OP.out] at o5
          exact ⟨_, _, _, rfl, o5.oct (octs_small _), k5⟩
end Go.Proofs.Ytfmkmmmaoiepmaa
