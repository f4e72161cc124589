/- What the reference's Shape answers: texts' pieces, rows of texts, the reference's Words. Conditions: texts of at most 1000 octets. -/
import Derived.Test.YtfadfdfpocpelaaGreatDoorPAt
import Derived.OwnWalk
import Derived.Maps.AppendAt
import Derived.Deep.QuietTactic
namespace Go.Proofs.YtfadfdfpocpelaaGreatDoor.P.Nine
open Go.RowKit

/-- What is not octet c. -/
def off (c x : UInt8) : Bool := x != c
/-- The pieces of a text, each but the last one up to an octet c; the last one has an octet. -/
def partsF (c : UInt8) : Nat → List UInt8 → List (List UInt8)
  | 0, _ => []
  | n + 1, l => if l = [] then [] else l.takeWhile (off c) :: partsF c n ((l.dropWhile (off c)).drop 1)
def parts (c : UInt8) (l : List UInt8) : List (List UInt8) := partsF c l.length l
/-- What stands between blanks. -/
def full (x : List UInt8) : Bool := !x.isEmpty
def wordsL (l : List UInt8) : List (List UInt8) := (parts 32 l).filter full

theorem drop_len (c : UInt8) (l : List UInt8) (h : l ≠ []) : ((l.dropWhile (off c)).drop 1).length < l.length := by
  have h1 : (l.dropWhile (off c)).length ≤ l.length := (List.dropWhile_sublist _).length_le
  have h2 : 0 < l.length := List.length_pos_iff.2 h
  rw [List.length_drop]
  omega
theorem partsF_any (c : UInt8) : ∀ (n m : Nat) (l : List UInt8), l.length ≤ n → l.length ≤ m → partsF c n l = partsF c m l
  | 0, m, l, h, _ => by
    obtain rfl : l = [] := List.eq_nil_of_length_eq_zero (by omega)
    cases m <;> simp [partsF]
  | n + 1, 0, l, _, h => by
    obtain rfl : l = [] := List.eq_nil_of_length_eq_zero (by omega)
    simp [partsF]
  | n + 1, m + 1, l, h1, h2 => by
    by_cases e : l = []
    · simp [partsF, e]
    · simp only [partsF, e, if_false]
      have := drop_len c l e
      rw [partsF_any c n m _ (by omega) (by omega)]
theorem parts_nil (c : UInt8) : parts c [] = [] := rfl
theorem parts_step (c : UInt8) (l : List UInt8) (h : l ≠ []) : parts c l = l.takeWhile (off c) :: parts c ((l.dropWhile (off c)).drop 1) := by
  have hl := drop_len c l h
  obtain ⟨n, hn⟩ : ∃ n, l.length = n + 1 := ⟨l.length - 1, by have := List.length_pos_iff.2 h; omega⟩
  unfold parts
  rw [hn]
  simp only [partsF, h, if_false]
  rw [partsF_any c n _ _ (by omega) (Nat.le_refl _)]
theorem takeWhile_app (c : UInt8) : ∀ (x r : List UInt8), c ∉ x → (x ++ c :: r).takeWhile (off c) = x ∧ (x ++ c :: r).dropWhile (off c) = c :: r
  | [], r, _ => by simp [off]
  | a :: x, r, h => by
    have ha : off c a = true := by simp only [off, bne_iff_ne]; intro e; subst e; simp at h
    have hx : c ∉ x := fun e => h (List.mem_cons_of_mem _ e)
    obtain ⟨e1, e2⟩ := takeWhile_app c x r hx
    simp [ha, e1, e2]
theorem takeWhile_all (c : UInt8) : ∀ (x : List UInt8), c ∉ x → x.takeWhile (off c) = x ∧ x.dropWhile (off c) = []
  | [], _ => by simp
  | a :: x, h => by
    have ha : off c a = true := by simp only [off, bne_iff_ne]; intro e; subst e; simp at h
    have hx : c ∉ x := fun e => h (List.mem_cons_of_mem _ e)
    obtain ⟨e1, e2⟩ := takeWhile_all c x hx
    simp [ha, e1, e2]
/-- A piece ahead of an octet c. -/
theorem parts_cut (c : UInt8) (x r : List UInt8) (h : c ∉ x) : parts c (x ++ c :: r) = x :: parts c r := by
  rw [parts_step c _ (by simp), (takeWhile_app c x r h).1, (takeWhile_app c x r h).2]
  rfl
/-- The last piece. -/
theorem parts_last (c : UInt8) (x : List UInt8) (h : c ∉ x) : parts c x = if x = [] then [] else [x] := by
  by_cases e : x = []
  · subst e; rfl
  · rw [parts_step c _ e, (takeWhile_all c x h).1, (takeWhile_all c x h).2, if_neg e]
    rfl
theorem words_cut (x r : List UInt8) (h : (32 : UInt8) ∉ x) : wordsL (x ++ 32 :: r) = (if x = [] then [] else [x]) ++ wordsL r := by
  unfold wordsL
  rw [parts_cut 32 x r h, List.filter_cons]
  by_cases e : x = []
  · simp [e, full]
  · simp [e, full]
theorem words_last (x : List UInt8) (h : (32 : UInt8) ∉ x) : wordsL x = if x = [] then [] else [x] := by
  unfold wordsL
  rw [parts_last 32 x h]
  by_cases e : x = []
  · simp [e]
  · simp [e, full]
/-- No piece has an octet c; there are at most as many as there are octets. -/
theorem partsF_off (c : UInt8) : ∀ (n : Nat) (l x : List UInt8), x ∈ partsF c n l → c ∉ x
  | 0, _, _, h => by simp [partsF] at h
  | n + 1, l, x, h => by
    by_cases e : l = []
    · simp [partsF, e] at h
    · simp only [partsF, e, if_false] at h
      rcases List.mem_cons.1 h with rfl | h
      · intro hc
        have := List.all_eq_true.1 (List.all_takeWhile (l := l) (p := off c)) c hc
        simp [off] at this
      · exact partsF_off c n _ _ h
theorem parts_len (c : UInt8) : ∀ (n : Nat) (l : List UInt8), l.length ≤ n → (parts c l).length ≤ l.length
  | 0, l, h => by
    obtain rfl : l = [] := List.eq_nil_of_length_eq_zero (by omega)
    simp [parts_nil]
  | n + 1, l, h => by
    by_cases e : l = []
    · simp [e, parts_nil]
    · have h1 := drop_len c l e
      have h2 := parts_len c n _ (show ((l.dropWhile (off c)).drop 1).length ≤ n by omega)
      rw [parts_step c l e, List.length_cons]
      omega
theorem parts_le (c : UInt8) (l : List UInt8) : (parts c l).length ≤ l.length := parts_len c _ l (Nat.le_refl _)
theorem words_le (l : List UInt8) : (wordsL l).length ≤ l.length := Nat.le_trans (List.length_filter_le _ _) (parts_le 32 l)

/-- Words with a blank between each two. -/
def joinL : List (List UInt8) → List UInt8
  | [] => []
  | [x] => x
  | x :: y :: r => x ++ 32 :: joinL (y :: r)
theorem join_snoc (x : List UInt8) : ∀ (l : List (List UInt8)), l ≠ [] → joinL (l ++ [x]) = joinL l ++ (32 :: x)
  | [], h => absurd rfl h
  | [a], _ => rfl
  | a :: b :: r, _ => by
    have ih := join_snoc x (b :: r) (by simp)
    simp only [List.cons_append, joinL] at ih ⊢
    rw [ih]
    simp
theorem join_one (x : List UInt8) : joinL ([] ++ [x]) = x := rfl
/-- May it be a word? -/
def Fine (x : List UInt8) : Prop := x ≠ [] ∧ (32 : UInt8) ∉ x
theorem words_fine {x : List UInt8} (h : Fine x) : wordsL x = [x] := by rw [words_last x h.2, if_neg h.1]
theorem fine_of {x : List UInt8} (h : wordsL x = [x]) : Fine x := by
  have hx : x ∈ wordsL x := by rw [h]; simp
  have h2 := List.mem_filter.1 hx
  exact ⟨by intro e; subst e; simp [full] at h2, partsF_off 32 _ _ _ h2.1⟩
theorem words_join : ∀ (l : List (List UInt8)), (∀ x ∈ l, Fine x) → wordsL (joinL l) = l
  | [], _ => rfl
  | [x], h => words_fine (h x (by simp))
  | x :: y :: r, h => by
    have hx := h x (by simp)
    have ih := words_join (y :: r) fun z hz => h z (List.mem_cons_of_mem _ hz)
    simp only [joinL]
    rw [words_cut x _ hx.2, if_neg hx.1, ih]
    rfl

theorem info9 : (Tryz.prog.info? 9).map (fun i => (i.zero, i.size, i.bytes)) = some (some (.string ⟨#[]⟩), 1, 16) := by kernel_rfl
/-- Texts as the cells hold them. -/
def vals (xs : List (List UInt8)) : List Value := xs.map fun x => Value.string (txt x)
theorem vals_snoc (pre : List (List UInt8)) (x : List UInt8) : vals (pre ++ [x]) = vals pre ++ [Value.string (txt x)] := by simp [vals]
theorem vals_len (xs : List (List UInt8)) : (vals xs).length = xs.length := by simp [vals]

/-- The slice value '.slice A n cap' holds the texts xs, and lies below block B. -/
structure Row (w : World) (B : Nat) (A : Option Addr) (n cap : Nat) (xs : List (List UInt8)) : Prop where
  len : xs.length = n
  room : n ≤ cap
  most : cap ≤ maxLen
  none_ : A = none → cap = 0
  cell : ∀ ad, A = some ad → ∀ i, i < n → ad.block < B ∧ w.cell? (ad.add i) = some (.string (txt (xs.getD i [])))
theorem add_block9 (a : Addr) (n : Nat) : (a.add n).block = a.block := by unfold Addr.add; split <;> rfl
section
variable {w w' : World} {B n cap : Nat} {A : Option Addr} {xs : List (List UInt8)}
theorem Row.nil (w : World) (B : Nat) : Row w B none 0 0 [] := ⟨rfl, Nat.le_refl _, Nat.zero_le _, fun _ => rfl, fun _ h => (by cases h)⟩
theorem Row.below (h : Row w B A n cap xs) (hb : Below B w w') : Row w' B A n cap xs :=
  ⟨h.len, h.room, h.most, h.none_, fun ad ha i hi => ⟨(h.cell ad ha i hi).1, (hb.cell (by rw [add_block9]; exact (h.cell ad ha i hi).1)).trans (h.cell ad ha i hi).2⟩⟩
theorem Row.drewN (h : Row w B A n cap xs) (q : Nat) : Row (w.drewN q) B A n cap xs := ⟨h.len, h.room, h.most, h.none_, h.cell⟩
theorem below_drewN {b : Nat} (h : Below b w w') (q : Nat) : Below b w (w'.drewN q) := ⟨h.os, h.tape, h.output, h.size, h.block⟩
theorem Row.more {B' : Nat} (h : Row w B A n cap xs) (hB : B ≤ B') : Row w B' A n cap xs :=
  ⟨h.len, h.room, h.most, h.none_, fun ad ha i hi => ⟨Nat.lt_of_lt_of_le (h.cell ad ha i hi).1 hB, (h.cell ad ha i hi).2⟩⟩
theorem Row.zero (h : Row w B none n cap xs) : n = 0 ∧ cap = 0 ∧ xs = [] := by
  have hc := h.none_ rfl
  have hr := h.room
  have hl := h.len
  exact ⟨by omega, hc, List.eq_nil_of_length_eq_zero (by omega)⟩
theorem Row.at_ (h : Row w B A n cap xs) (i : Nat) (hi : i < n) : ∃ ad, A = some ad ∧ ad.block < B ∧ w.cell? (ad.add i) = some (.string (txt (xs.getD i []))) := by
  cases A with
  | none => have := h.zero.1; omega
  | some ad => exact ⟨ad, rfl, h.cell ad rfl i hi⟩
/-- What the call owns reads so. -/
theorem Row.own {base : Nat} {v : Value} (h : w.ownsRow base 9 1 v n (vals xs)) : ∃ A cap, v = .slice A n cap ∧ Row w w.heap.size A n cap xs := by
  have hl : xs.length = n := by have := h.1; rw [vals_len] at this; omega
  rcases h.2 with ⟨rfl, rfl⟩ | ⟨g, cap, cur, rfl, _, hg, hnc, hcm, hcs, ht⟩
  · refine ⟨none, 0, rfl, ?_⟩
    obtain rfl : xs = [] := List.eq_nil_of_length_eq_zero hl
    exact Row.nil _ _
  · refine ⟨_, cap, rfl, by simpa using hl, hnc, hcm, fun hh => (by cases hh), fun ad ha i hi => ?_⟩
    injection ha with ha
    subst ha
    refine ⟨(Array.getElem?_eq_some_iff.1 hg).1, h.cells (g := g) rfl i _ ?_⟩
    rw [vals, List.getElem?_map, List.getElem?_eq_getElem (by omega)]
    simp [List.getD, List.getElem?_eq_getElem (show i < xs.length by omega)]
end


theorem drop_mid {α : Type} (l : List α) (a k : Nat) (h : a ≤ k) (hk : k ≤ l.length) : l.drop a = (l.take k).drop a ++ l.drop k := by
  have e := congrArg (List.drop a) (List.take_append_drop k l)
  rw [List.drop_append_of_le_length (by rw [List.length_take]; omega)] at e
  exact e.symm
theorem mid_snoc (s : ByteArray) (a k : Nat) (ha : a ≤ k) (hk : k < s.size) : ((oct s).take (k + 1)).drop a = ((oct s).take k).drop a ++ [s[k]] := by
  rw [oct_take s k hk, List.drop_append_of_le_length (by rw [List.length_take, oct_len]; omega)]
theorem mid_none {α : Type} (l : List α) (k : Nat) : (l.take k).drop k = [] := List.drop_eq_nil_of_le (by rw [List.length_take]; omega)

theorem oct_ne (s : ByteArray) (k c : Nat) (hk : k < s.size) (hc : c < 256) : (((s[k].toNat : Int) == (c : Int)) = true ∧ s[k] = UInt8.ofNat c) ∨ (((s[k].toNat : Int) == (c : Int)) = false ∧ s[k] ≠ UInt8.ofNat c) := by
  by_cases h : s[k].toNat = c
  · refine .inl ⟨by simp [h], ?_⟩
    rw [← h]
    exact UInt8.ofNat_toNat.symm
  · refine .inr ⟨by simp; omega, fun e => h ?_⟩
    rw [e, UInt8.toNat_ofNat']
    omega

/-- How far the reference's Words has come. -/
def WordsAt (s : ByteArray) (pre : List (List UInt8)) (a k : Nat) : Prop :=
  a ≤ k ∧ k ≤ s.size ∧ wordsL (oct s) = pre ++ wordsL ((oct s).drop a) ∧ (32 : UInt8) ∉ ((oct s).take k).drop a
theorem WordsAt.start (s : ByteArray) : WordsAt s [] 0 0 := ⟨Nat.le_refl _, Nat.zero_le _, rfl, by simp⟩
theorem WordsAt.on {s : ByteArray} {pre : List (List UInt8)} {a k : Nat} (h : WordsAt s pre a k) (hk : k < s.size) (hx : s[k] ≠ 32) : WordsAt s pre a (k + 1) := by
  refine ⟨by have := h.1; omega, by omega, h.2.2.1, ?_⟩
  rw [mid_snoc s a k h.1 hk]
  simp only [List.mem_append, List.mem_singleton, not_or]
  exact ⟨h.2.2.2, fun e => hx e.symm⟩
theorem mid_len (s : ByteArray) (a k : Nat) (hk : k ≤ s.size) : (((oct s).take k).drop a).length = k - a := by
  rw [List.length_drop, List.length_take, oct_len]
  omega
theorem WordsAt.cut {s : ByteArray} {pre : List (List UInt8)} {a k : Nat} (h : WordsAt s pre a k) (hk : k < s.size) (hx : s[k] = 32) : WordsAt s (pre ++ (if a < k then [((oct s).take k).drop a] else [])) (k + 1) (k + 1) := by
  refine ⟨Nat.le_refl _, by omega, ?_, by rw [mid_none]; simp⟩
  have hl := mid_len s a k (by omega)
  rw [h.2.2.1, drop_mid _ a k h.1 (by rw [oct_len]; omega), oct_drop s k hk, hx, words_cut _ _ h.2.2.2]
  by_cases ha : a < k
  · rw [if_pos ha, if_neg (by intro h0; rw [h0] at hl; simp at hl; omega)]
    simp
  · rw [if_neg ha, if_pos (List.eq_nil_of_length_eq_zero (by omega))]
    simp
theorem WordsAt.last {s : ByteArray} {pre : List (List UInt8)} {a : Nat} (h : WordsAt s pre a s.size) : wordsL (oct s) = pre ++ (if a < s.size then [((oct s).take s.size).drop a] else []) := by
  have e : (oct s).take s.size = oct s := List.take_of_length_le (by rw [oct_len]; exact Nat.le_refl _)
  have hn := h.2.2.2
  rw [e] at hn ⊢
  rw [h.2.2.1, words_last _ hn]
  congr 1
  by_cases ha : a < s.size
  · rw [if_pos ha, if_neg (by intro h0; have := congrArg List.length h0; rw [List.length_drop, oct_len] at this; simp at this; omega)]
  · rw [if_neg ha, if_pos (List.drop_eq_nil_of_le (by rw [oct_len]; omega))]
theorem WordsAt.len {s : ByteArray} {pre : List (List UInt8)} {a k : Nat} (h : WordsAt s pre a k) : pre.length ≤ s.size := by
  have h1 := congrArg List.length h.2.2.1
  have h2 := words_le (oct s)
  rw [oct_len] at h2
  rw [List.length_append] at h1
  omega

set_option maxRecDepth 100000 in
set_option maxHeartbeats 1000000 in
theorem refwords_any (s : ByteArray) (hs : s.size ≤ 1000) (w : World) :
    Calls Tryz.prog 64 #[.string s] w fun e w' => ∃ v, e = .returned v ∧ w'.ownsRow w.heap.size 9 1 v (wordsL (oct s)).length (vals (wordsL (oct s))) ∧ Below w.heap.size w w' := by
  obtain ⟨i0, hi, hz0, hz1, hz2⟩ := info_parts info9
  have HI := Lib.hid hi
  have HZ0 := Lib.hid hz0
  have HZ1 := Lib.hid hz1
  have HZ2 := Lib.hid hz2
  clear hi hz0 hz1 hz2
  go_enter Tryz.func64, Tryz.ntmps64
  go_wp2
  go_loopw [3, 4, 5] (fun v a i wr => ∃ (pre : List (List UInt8)) (x k : Nat), a = .int .i64 x ∧ i = .int .i64 k ∧ ((k ≤ s.size ∧ WordsAt s pre x k) ∨ (k = s.size + 1 ∧ x ≤ k ∧ pre.length ≤ s.size ∧ wordsL (oct s) = pre)) ∧ wr.ownsRow w.heap.size 9 1 v pre.length (vals pre) ∧ Below w.heap.size w wr) (fun _ _ i _ => s.size + 1 - (intOf i).toNat)
  case atStart => exact ⟨[], 0, 0, rfl, rfl, .inl ⟨Nat.zero_le _, WordsAt.start s⟩, World.ownsRow_nil _ _ _ _, Below.refl _ _⟩
  case round =>
    obtain ⟨pre, x, k, rfl, rfl, hS, hown, hb⟩ := hrel
    have hbs := hb.size
    rcases hS with ⟨hk0, hS⟩ | ⟨rfl, hx0, hpl, hl⟩
    · have hx0 := hS.1
      have hpl := hS.len
      have t0 : decide ((k : Int) ≤ (s.size : Int)) = true := decide_eq_true (by omega)
      by_cases hlt : k < s.size
      · have t1 : decide ((k : Int) < (s.size : Int)) = true := decide_eq_true (by omega)
        rcases oct_ne s k 32 hlt (by decide) with ⟨t2, hc⟩ | ⟨t2, hc⟩
        · have hn := hS.cut hlt hc
          by_cases hx : x < k
          · rw [if_pos hx] at hn
            have HS := Lib.hid hn
            clear hS hc hn
            have t3 : decide ((x : Int) < (k : Int)) = true := decide_eq_true (by omega)
            go_wp2_with (at_builtin; refine wpList_append_own _ rfl (.tmp 25) (.tmp 30) 99 rfl w.heap.size 9 i0 (.string ⟨#[]⟩) 1 16 Tryz.underlying99 HI.out HZ0.out HZ1.out HZ2.out rfl (by decide) _ _ _ rfl (hown.alloc _) ⟨wr.heap.size, 0, none⟩ 1 1 [.string (s.extract x k)] rfl rfl (cell_one_new _ _ _) (by simp [Value.oneCell']) (by unfold maxLen; omega) (by omega) (by simp; omega) ?_; intro v2 w2 hown2 hg2 _; have hb2 : Below w.heap.size w w2 := ((hb.alloc hbs _).grown hg2 (by simp; omega) (fun g hv => (hown.lt g hv).1)))
            go_roundw
            case rel => exact ⟨_, k + 1, k + 1, by go_num, by go_num, .inl ⟨by omega, HS.out⟩, by rw [vals_snoc, ← extract_txt]; simpa using hown2, hb2⟩
            case measure => simp [intOf]; omega
          · rw [if_neg hx, List.append_nil] at hn
            have HS := Lib.hid hn
            clear hS hc hn
            have t3 : decide ((x : Int) < (k : Int)) = false := decide_eq_false (by omega)
            go_wp2
            go_roundw
            case rel => exact ⟨_, k + 1, k + 1, by go_num, by go_num, .inl ⟨by omega, HS.out⟩, hown, hb⟩
            case measure => simp [intOf]; omega
        · have HS := Lib.hid (hS.on hlt hc)
          clear hS hc
          go_wp2
          go_roundw
          case rel => exact ⟨pre, x, k + 1, rfl, by go_num, .inl ⟨by omega, HS.out⟩, hown, hb⟩
          case measure => simp [intOf]; omega
      · obtain rfl : k = s.size := by omega
        have hl := hS.last
        have t1 : decide ((s.size : Int) < (s.size : Int)) = false := decide_eq_false (by omega)
        by_cases hx : x < s.size
        · rw [if_pos hx] at hl
          have HL := Lib.hid hl
          have hlen : (pre ++ [((oct s).take s.size).drop x]).length ≤ s.size := by rw [← hl]; have := words_le (oct s); rwa [oct_len] at this
          clear hl hS
          have t3 : decide ((x : Int) < (s.size : Int)) = true := decide_eq_true (by omega)
          go_wp2_with (at_builtin; refine wpList_append_own _ rfl (.tmp 25) (.tmp 30) 99 rfl w.heap.size 9 i0 (.string ⟨#[]⟩) 1 16 Tryz.underlying99 HI.out HZ0.out HZ1.out HZ2.out rfl (by decide) _ _ _ rfl (hown.alloc _) ⟨wr.heap.size, 0, none⟩ 1 1 [.string (s.extract x s.size)] rfl rfl (cell_one_new _ _ _) (by simp [Value.oneCell']) (by unfold maxLen; omega) (by omega) (by simp; omega) ?_; intro v2 w2 hown2 hg2 _; have hb2 : Below w.heap.size w w2 := ((hb.alloc hbs _).grown hg2 (by simp; omega) (fun g hv => (hown.lt g hv).1)))
          go_roundw
          case rel => exact ⟨_, s.size + 1, s.size + 1, by go_num, by go_num, .inr ⟨rfl, Nat.le_refl _, hlen, HL.out⟩, by rw [vals_snoc, ← extract_txt]; simpa using hown2, hb2⟩
          case measure => simp [intOf]
        · rw [if_neg hx, List.append_nil] at hl
          have HL := Lib.hid hl
          clear hl hS
          have t3 : decide ((x : Int) < (s.size : Int)) = false := decide_eq_false (by omega)
          go_wp2
          go_roundw
          case rel => exact ⟨_, s.size + 1, s.size + 1, by go_num, by go_num, .inr ⟨rfl, Nat.le_refl _, hpl, HL.out⟩, hown, hb⟩
          case measure => simp [intOf]
    · have t0 : decide (((s.size + 1 : Nat) : Int) ≤ (s.size : Int)) = false := decide_eq_false (by omega)
      have HL := Lib.hid hl
      clear hl
      go_wp2
      go_ret
      exact ⟨_, rfl, by rw [HL.out]; exact hown, hb⟩

/-- The reference's words: each instruction's name and letters. -/
def pageL : List (List UInt8) := (tab.drop 1).flatMap fun x => [x.1, x.2]
def allL : List UInt8 := joinL pageL
theorem page_len : pageL.length = 50 := rfl
theorem all_words : wordsL allL = pageL := by decide +kernel
theorem all_size : (txt allL).size ≤ 1000 := by rw [txt_size]; decide +kernel
theorem page_name (k : Nat) (h1 : 1 ≤ k) (h2 : k ≤ 25) : pageL.getD (2 * k - 2) [] = nameAt k :=
  (by decide +kernel : ∀ k, k < 26 → 1 ≤ k → pageL.getD (2 * k - 2) [] = nameAt k) k (by omega) h1
theorem page_shape (k : Nat) (h1 : 1 ≤ k) (h2 : k ≤ 25) : pageL.getD (2 * k - 1) [] = shapeAt k :=
  (by decide +kernel : ∀ k, k < 26 → 1 ≤ k → pageL.getD (2 * k - 1) [] = shapeAt k) k (by omega) h1
theorem page_row (w : World) : Calls Tryz.prog 64 #[.string (txt allL)] w fun e w' => ∃ ad cap, e = .returned (.slice (some ad) 50 cap) ∧ 50 ≤ cap ∧ cap ≤ maxLen ∧ (∀ i, i < 50 → w'.cell? (ad.add i) = some (.string (txt (pageL.getD i [])))) ∧ Below w.heap.size w w' := by
  refine (refwords_any (txt allL) all_size w).mono ?_
  rintro e w' ⟨v, rfl, hr, hb⟩
  rw [oct_txt, all_words, page_len] at hr
  obtain ⟨A, cap, rfl, hrow⟩ := Row.own hr
  obtain ⟨ad, rfl, _, _⟩ := hrow.at_ 0 (by decide)
  exact ⟨ad, cap, rfl, hrow.room, hrow.most, fun i hi => (hrow.cell ad rfl i hi).2, hb⟩

set_option maxRecDepth 100000 in
theorem refshape_some (k j : Nat) (h1 : 1 ≤ k) (h2 : k ≤ 25) (hj : 2 * k - 1 = j) (w : World) : Calls Tryz.prog 49 #[.int .i64 k] w fun e w' => e = .returned (.string (txt (shapeAt k))) ∧ Below w.heap.size w w' := by
  have t0 : decide ((k : Int) < 1) = false := decide_eq_false (by omega)
  have t1 : decide ((25 : Int) < k) = false := decide_eq_false (by omega)
  have hn := page_shape k h1 h2
  rw [hj] at hn
  have HN := Lib.hid hn
  have j0 : j < 50 := by omega
  have e1 : 2 * (k : Int) - 1 = j := by omega
  clear hn hj
  go_enter Tryz.func49, Tryz.ntmps49
  go_wp2_with fail
  refine (page_row w).mono ?_
  rintro e w1 ⟨ad, cap, rfl, hc1, hc2, hcell, hb⟩
  have hz := hcell j j0
  rw [HN.out] at hz
  clear hcell
  go_wp2
  go_ret
  exact ⟨rfl, hb⟩
theorem ref_none (n : Int) (hn : n < 1 ∨ 25 < n) (w : World) : Calls Tryz.prog 49 #[.int .i64 n] w fun e w' => e = .returned (.string ⟨#[]⟩) ∧ Below w.heap.size w w' := by
  rcases hn with h | h
  · have t0 : decide (n < 1) = true := decide_eq_true (by omega)
    go_enter Tryz.func49, Tryz.ntmps49
    go_wp2
    go_ret
    exact ⟨rfl, Below.refl _ _⟩
  · have t0 : decide (n < 1) = false := decide_eq_false (by omega)
    have t1 : decide (25 < n) = true := decide_eq_true (by omega)
    go_enter Tryz.func49, Tryz.ntmps49
    go_wp2
    go_ret
    exact ⟨rfl, Below.refl _ _⟩
theorem refshape_any (n : Int) (w : World) : Calls Tryz.prog 49 #[.int .i64 n] w fun e w' => e = .returned (.string (txt (shapeZ n))) ∧ Below w.heap.size w w' := by
  cases hn : isOp n with
  | false =>
    have e0 : shapeZ n = [] := by simp [shapeZ, hn]
    have := of_decide_eq_false hn
    rw [e0]
    exact ref_none n (by omega) w
  | true =>
    have e0 : shapeZ n = shapeAt n.toNat := by simp [shapeZ, hn]
    have hb := of_decide_eq_true hn
    obtain ⟨k, rfl⟩ : ∃ k : Nat, n = k := ⟨n.toNat, by omega⟩
    rw [e0]
    exact refshape_some k _ (by omega) (by omega) rfl w

end Go.Proofs.YtfadfdfpocpelaaGreatDoor.P.Nine
