/- What the walks of packages conf and lines lean on: texts as octets, conf's spans and names, the library's powers of ten, and what the rows' condition on the variables says of a world. Conditions: none. -/
import Derived.Test.YtmkdmnaonddghaaDoorRows
import Derived.WalkKit
import Derived.ProofKit
import Derived.OpenShut
import Derived.Below
import Derived.BigQuiet
import Derived.WalkSpells
import Derived.Lib.Hide
import Derived.Stop.Joined
import Derived.MakeChecks
import Derived.Lib.LaidTab
import Derived.Lib.ItoaNum
import Derived.Stop.LaidErr
import Derived.LaidMore
import Derived.Lay
namespace Go.Proofs.YtmkdmnaonddghaaDoor
open Go.RowKit Go.ChangeShapes Go.WideShapes

/-- A text's octets, and octets as a text. -/
def oct (s : ByteArray) : List UInt8 := s.data.toList
def txt (l : List UInt8) : ByteArray := ⟨l.toArray⟩
theorem oct_txt (l : List UInt8) : oct (txt l) = l := by simp [oct, txt]
theorem txt_oct (s : ByteArray) : txt (oct s) = s := by cases s; simp [oct, txt]
theorem oct_len (s : ByteArray) : (oct s).length = s.size := by rw [oct, Array.length_toList]; rfl
theorem txt_size (l : List UInt8) : (txt l).size = l.length := by rw [← oct_len, oct_txt]
theorem txt_inj {a b : List UInt8} (h : txt a = txt b) : a = b := by rw [← oct_txt a, h, oct_txt]

theorem oct_at (s : ByteArray) (k : Nat) (h : k < s.size) : (oct s)[k]? = some s[k] := by
  have hl : k < (oct s).length := by rw [oct_len]; exact h
  rw [List.getElem?_eq_getElem hl]
  congr 1
theorem oct_take (s : ByteArray) (k : Nat) (h : k < s.size) : (oct s).take (k + 1) = (oct s).take k ++ [s[k]] := by
  rw [List.take_add_one, oct_at s k h]
  rfl
theorem oct_drop (s : ByteArray) (k : Nat) (h : k < s.size) : (oct s).drop k = s[k] :: (oct s).drop (k + 1) := by
  have hl : k < (oct s).length := by rw [oct_len]; exact h
  rw [List.drop_eq_getElem_cons hl]
  congr 1
theorem oct_extract (s : ByteArray) (a b : Nat) : oct (s.extract a b) = ((oct s).take b).drop a := by
  unfold oct
  rw [ByteArray.data_extract, Array.toList_extract, List.extract_eq_take_drop]
  rw [List.drop_take]
theorem extract_txt (s : ByteArray) (a b : Nat) : s.extract a b = txt (((oct s).take b).drop a) := by rw [← oct_extract, txt_oct]
theorem eq_txt (x y : ByteArray) : (x.toList == y.toList) = decide (x = y) := by
  rw [ByteArray.toList_eq, ByteArray.toList_eq, Bool.eq_iff_iff, beq_iff_eq, decide_eq_true_iff]
  refine ⟨fun h => ByteArray.ext (Array.ext' h), fun h => by rw [h]⟩

/-! ### the variables of conf -/
/-- From where to where each number may be, and how many octets it takes. -/
def spanT : List (Int × Int × Int) := [(0, 3, 1), (0, 1, 1), (1, 8, 1), (0, 16, 1), (1, 4, 1), (1, 3, 1), (0, 1048576, 3)]
/-- The names, by what they are of and by number. -/
def nameT : List (List (List UInt8)) := [[[109, 97, 110, 117, 97, 108], [104, 97, 122, 97, 114, 100], [101, 112, 111, 99, 104], [113, 117, 105, 101, 116]], [[115, 99], [116, 115, 111], [], []], [[], [102, 117, 108, 108], [100, 112, 111, 114], [99, 97, 99, 104, 101]], [[97, 108, 108], [115, 116, 111, 112], [], []]]
def spanD {H : Type} (x : Int × Int × Int) : DataW H := .agg [.lit (.int .i64 x.1), .lit (.int .i64 x.2.1), .lit (.int .i64 x.2.2)]
def spanCs (x : Int × Int × Int) : List Value := [.int .i64 x.1, .int .i64 x.2.1, .int .i64 x.2.2]
def strD {H : Type} (x : List UInt8) : DataW H := .lit (.string x)
def strC (x : List UInt8) : Value := .string (txt x)
def spanC : List Value := spanT.flatMap spanCs
def nameC : List Value := nameT.flatMap fun r => r.flatMap fun x => [strC x]
theorem span_is : (Rows.laid_warrener_conf_spans : DataW Unit) = .agg (spanT.map spanD) := rfl
theorem name_is : (Rows.laid_warrener_conf_names : DataW Unit) = .agg (nameT.map fun r => .agg (r.map strD)) := rfl

/-- Cells that go by k. -/
theorem chunks (k : Nat) : ∀ (ls : List (List Value)) (cs : List Value), cs.length = ls.length * k → (∀ (i : Nat) (l : List Value), ls[i]? = some l → (cs.drop (i * k)).take k = l) → cs = ls.flatten
  | [], cs, h, _ => by simpa using h
  | l :: ls, cs, h, ha => by
    have h0 := ha 0 l rfl
    have ih := chunks k ls (cs.drop k) (by rw [List.length_drop, h, List.length_cons, Nat.add_mul]; omega) (fun i x hx => by
      have := ha (i + 1) x (by simpa using hx)
      rw [List.drop_drop, ← this]
      congr 2
      rw [Nat.add_mul]
      omega)
    rw [List.flatten_cons, ← h0, ← ih]
    simp
theorem arr_cells {α H : Type} {enc : TypeId × Value → H} {P : Program} {w : World} {base : Nat} {sp : Nat → Bool} {held : Bool} {fuel : Nat} {t e : TypeId} {n k : Nat} {cs : List Value} {p : List MemPlace}
    (xs : List α) (d : α → DataW H) (f : α → List Value) (ht : P.underlying t = some (.array n e)) (hce : P.cellsOf e = k) (hct : P.cellsOf t = n * k)
    (hel : ∀ (fuel : Nat) (cs : List Value) (x : α) (p : List MemPlace), DataW.trod enc P w base sp held fuel e cs = some (d x, p) → cs = f x)
    (h : DataW.trod enc P w base sp held fuel t cs = some (.agg (xs.map d), p)) : cs = xs.flatMap f := by
  obtain ⟨ys, m, rfl, hy, hl, hyl, hall⟩ := DataW.trod_array ht h
  have hys : ys.map (·.1) = xs.map d := by
    have := congrArg Prod.fst hy
    simpa using this.symm
  have hln : xs.length = n := by
    have := congrArg List.length hys
    simp at this
    omega
  rw [List.flatMap_def]
  refine chunks k _ cs (by rw [hl, hct, List.length_map, hln]) fun i l hi => ?_
  rw [List.getElem?_map] at hi
  obtain ⟨x, hx, rfl⟩ := Option.map_eq_some_iff.1 hi
  have hin : i < n := by rw [← hln]; exact (List.getElem?_eq_some_iff.1 hx).1
  have h1 := hall i hin
  rw [hce, List.getElem?_eq_getElem (by omega)] at h1
  have h2 : ys[i].1 = d x := by
    have := congrArg (fun l => l[i]?) hys
    simp only [List.getElem?_map, hx] at this
    rw [List.getElem?_eq_getElem (by omega)] at this
    simpa using this
  refine hel m _ x ys[i].2 ?_
  rw [h1]
  congr 1
  exact Prod.ext h2 rfl
theorem cells9 : Tryd.prog.cellsOf 9 = 1 := by kernel_rfl
theorem cells3 : Tryd.prog.cellsOf 3 = 1 := by kernel_rfl
theorem cells58 : Tryd.prog.cellsOf 58 = 3 := by kernel_rfl
theorem cells59 : Tryd.prog.cellsOf 59 = 7 * 3 := by kernel_rfl
theorem cells64 : Tryd.prog.cellsOf 64 = 4 * 1 := by kernel_rfl
theorem cells65 : Tryd.prog.cellsOf 65 = 4 * (4 * 1) := by kernel_rfl
theorem str_cells {w : World} {fuel : Nat} {cs : List Value} {x : List UInt8} {p : List MemPlace} (h : DataW.trod (fun _ => ()) Tryd.prog w 0 (fun _ => true) false fuel 9 cs = some (strD x, p)) : cs = [strC x] := by
  obtain ⟨s0, rfl, e0, _⟩ := DataW.trod_string Tryd.underlying9 h
  have := congrArg Prod.fst e0
  simp [strD] at this
  subst this
  simp [strC, txt]
set_option maxRecDepth 100000 in
theorem span_cells {w : World} {fuel : Nat} {cs : List Value} {x : Int × Int × Int} {p : List MemPlace} (h : DataW.trod (fun _ => ()) Tryd.prog w 0 (fun _ => true) false fuel 58 cs = some (spanD x, p)) : cs = spanCs x := by
  obtain ⟨xs, n, rfl, hx, hl, hxl, hall⟩ := DataW.trod_struct Tryd.underlying58 h
  have hxs : xs.map (·.1) = [.lit (.int .i64 x.1), .lit (.int .i64 x.2.1), .lit (.int .i64 x.2.2)] := by
    have := congrArg Prod.fst hx
    simpa [spanD] using this.symm
  rw [cells58] at hl
  obtain ⟨x0, x1, x2, rfl⟩ : ∃ x0 x1 x2, xs = [x0, x1, x2] := by
    match xs, hxs with
    | [a, b, c], _ => exact ⟨a, b, c, rfl⟩
  obtain ⟨c0, c1, c2, rfl⟩ : ∃ c0 c1 c2, cs = [c0, c1, c2] := by
    match cs, hl with
    | [a, b, c], _ => exact ⟨a, b, c, rfl⟩
  have h0 := hall 0 _ rfl
  have h1 := hall 1 _ rfl
  have h2 := hall 2 _ rfl
  simp [cells3] at h0 h1 h2
  obtain ⟨n0, e0, rfl, _⟩ := DataW.trod_int Tryd.underlying3 h0
  obtain ⟨n1, e1, rfl, _⟩ := DataW.trod_int Tryd.underlying3 h1
  obtain ⟨n2, e2, rfl, _⟩ := DataW.trod_int Tryd.underlying3 h2
  simp at e0 e1 e2 hxs
  obtain ⟨rfl, rfl, rfl⟩ := hxs
  rw [e0, e1, e2]
  rfl
theorem glob5 : Tryd.prog.globalNamed "strconv.ErrRange" = some 5 := by kernel_rfl
theorem glob4 : Tryd.prog.globalNamed "strconv.ErrSyntax" = some 4 := by kernel_rfl
theorem glob2 : Tryd.prog.globalNamed "internal/strconv.uint64pow10" = some 2 := by kernel_rfl
theorem glob1 : Tryd.prog.globalNamed "warrener/conf.names" = some 1 := by kernel_rfl
theorem glob0 : Tryd.prog.globalNamed "warrener/conf.spans" = some 0 := by kernel_rfl
/-- The variables' cells hold the spans, the names, the library's powers of ten and its two errors. -/
structure Laid (w : World) : Prop where
  spans : w.var? Tryd.prog "warrener/conf.spans" = some spanC.toArray
  names : w.var? Tryd.prog "warrener/conf.names" = some nameC.toArray
  tens : Lib.TabIs Tryd.prog w "internal/strconv.uint64pow10" .u64 Lib.pow10Tab
  syn : ∃ tp p, w.var? Tryd.prog "strconv.ErrSyntax" = some #[.iface tp p]
  rng : ∃ tp p, w.var? Tryd.prog "strconv.ErrRange" = some #[.iface tp p]
def leastAt (i : Nat) : Int := (spanT.getD i (0, 0, 0)).1
def mostAt (i : Nat) : Int := (spanT.getD i (0, 0, 0)).2.1
def octsAt (i : Nat) : Int := (spanT.getD i (0, 0, 0)).2.2
def nameAt (k i : Nat) : List UInt8 := (nameT.getD k []).getD i []
theorem span_at (i : Nat) (hi : i < 7) : spanC[i * 3]? = some (.int .i64 (leastAt i)) ∧ spanC[i * 3 + 1]? = some (.int .i64 (mostAt i)) ∧ spanC[i * 3 + 2]? = some (.int .i64 (octsAt i)) := by
  rcases (by omega : i = 0 ∨ i = 1 ∨ i = 2 ∨ i = 3 ∨ i = 4 ∨ i = 5 ∨ i = 6) with rfl | rfl | rfl | rfl | rfl | rfl | rfl <;> exact ⟨rfl, rfl, rfl⟩
theorem name_at (k i : Nat) (hk : k < 4) (hi : i < 4) : nameC[k * 4 + i]? = some (.string (txt (nameAt k i))) := by
  rcases (by omega : k = 0 ∨ k = 1 ∨ k = 2 ∨ k = 3) with rfl | rfl | rfl | rfl <;> rcases (by omega : i = 0 ∨ i = 1 ∨ i = 2 ∨ i = 3) with rfl | rfl | rfl | rfl <;> rfl
theorem Laid.span {w : World} (h : Laid w) (i : Nat) (hi : i < 7) : w.cell? ⟨0, i * 3, none⟩ = some (.int .i64 (leastAt i)) ∧ w.cell? ⟨0, i * 3 + 1, none⟩ = some (.int .i64 (mostAt i)) ∧ w.cell? ⟨0, i * 3 + 2, none⟩ = some (.int .i64 (octsAt i)) := by
  obtain ⟨a, b, c⟩ := span_at i hi
  have hc := fun k => World.var?_cell glob0 h.spans k
  exact ⟨(hc _).trans (by simpa using a), (hc _).trans (by simpa using b), (hc _).trans (by simpa using c)⟩
theorem Laid.name {w : World} (h : Laid w) (k i : Nat) (hk : k < 4) (hi : i < 4) : w.cell? ⟨1, k * 4 + i, none⟩ = some (.string (txt (nameAt k i))) := by
  rw [World.var?_cell glob1 h.names]
  simpa using name_at k i hk hi
theorem var_below {B g : Nat} {w w' : World} {n : String} {cs : Array Value} (hg : Tryd.prog.globalNamed n = some g) (hb : Below B w w') (hB : g < B) (h : w.var? Tryd.prog n = some cs) : w'.var? Tryd.prog n = some cs := by
  unfold World.var? at *
  rw [hg] at *
  simp only [Option.bind_some] at *
  rw [hb.block g hB]
  exact h
theorem Laid.big {w : World} (h : Laid w) : 6 ≤ w.heap.size := by
  obtain ⟨tp, p, ht⟩ := h.rng
  unfold World.var? at ht
  rw [glob5] at ht
  simp only [Option.bind_some] at ht
  rcases Nat.lt_or_ge 5 w.heap.size with h' | h'
  · omega
  · simp [Array.getElem?_eq_none h'] at ht
theorem Laid.below {B : Nat} {w w' : World} (h : Laid w) (hb : Below B w w') (hB : 6 ≤ B) : Laid w' := by
  obtain ⟨s, n, t, ⟨a, b, y⟩, ⟨c, d, r⟩⟩ := h
  exact ⟨var_below glob0 hb (by omega) s, var_below glob1 hb (by omega) n, var_below glob2 hb (by omega) t, ⟨a, b, var_below glob4 hb (by omega) y⟩, ⟨c, d, var_below glob5 hb (by omega) r⟩⟩
theorem Laid.on {w w' : World} (h : Laid w) (hb : Below w.heap.size w w') : Laid w' := h.below hb h.big

/-! ### out of the rows' condition -/
set_option maxRecDepth 100000 in
theorem spans_of {W : World} {r : List (String × DataW Unit)} (h : laidMet Tryd.prog (("warrener/conf.spans", Rows.laid_warrener_conf_spans) :: r) W) : W.var? Tryd.prog "warrener/conf.spans" = some spanC.toArray := by
  obtain ⟨ps, ⟨g', t', cs, fuel, p, q, hg', ht', hvar, hd, _, _⟩, _⟩ := h
  obtain rfl := Option.some.inj (glob0.symm.trans hg')
  have ht : (Tryd.prog.globals[0]?).map (·.type) = some 59 := by kernel_rfl
  obtain rfl := Option.some.inj (ht.symm.trans ht')
  rw [span_is] at hd
  have := arr_cells spanT spanD spanCs Tryd.underlying59 cells58 cells59 (fun _ _ _ _ h => span_cells h) hd
  rw [hvar]
  exact congrArg (fun l => some (List.toArray l)) this
set_option maxRecDepth 100000 in
theorem names_of {W : World} {r : List (String × DataW Unit)} (h : laidMet Tryd.prog (("warrener/conf.names", Rows.laid_warrener_conf_names) :: r) W) : W.var? Tryd.prog "warrener/conf.names" = some nameC.toArray := by
  obtain ⟨ps, ⟨g', t', cs, fuel, p, q, hg', ht', hvar, hd, _, _⟩, _⟩ := h
  obtain rfl := Option.some.inj (glob1.symm.trans hg')
  have ht : (Tryd.prog.globals[1]?).map (·.type) = some 65 := by kernel_rfl
  obtain rfl := Option.some.inj (ht.symm.trans ht')
  rw [name_is] at hd
  have := arr_cells nameT (fun r => .agg (r.map strD)) (fun r => r.flatMap fun x => [strC x]) Tryd.underlying65 cells64 cells65 (fun _ _ r _ h => arr_cells r strD (fun x => [strC x]) Tryd.underlying64 cells9 cells64 (fun _ _ _ _ h => str_cells h) h) hd
  rw [hvar]
  exact congrArg (fun l => some (List.toArray l)) this
def lst : List (String × DataW Unit) := [("math/bits.deBruijn32tab", Rows.laid_math_bits_deBruijn32tab), ("math/bits.deBruijn64tab", Rows.laid_math_bits_deBruijn64tab), ("internal/strconv.uint64pow10", Rows.laid_internal_strconv_uint64pow10), ("unicode/utf8.acceptRanges", Rows.laid_unicode_utf8_acceptRanges), ("strconv.ErrRange", Rows.laid_strconv_ErrRange), ("strconv.ErrSyntax", Rows.laid_strconv_ErrSyntax), ("warrener/conf.spans", Rows.laid_warrener_conf_spans), ("warrener/conf.names", Rows.laid_warrener_conf_names), ("unicode/utf8.first", Rows.laid_unicode_utf8_first)]
theorem star : "*" ++ "errors.errorString" = "*errors.errorString" := by decide
theorem rowErr (u : TypeId) (h : Tryd.prog.typeName? 3 u = some "*errors.errorString") : u = 158 :=
  typeName_ptr_named (nm := "errors.errorString") (by rw [star]; kernel_rfl) (by kernel_rfl) (by decide) u (by rw [star]; exact h)
theorem cellsErr : Tryd.prog.cellsOf 160 = 1 := by kernel_rfl
theorem laid_in {W : World} (h : laidMetH Tryd.prog lst W) : Laid W := by
  rw [MakeChecks.laidMetH_plain _ _ _ (by kernel_rfl)] at h
  have h2 : laidMet Tryd.prog (("internal/strconv.uint64pow10", Lib.tabData .u64 Lib.pow10Tab) :: [("unicode/utf8.acceptRanges", Rows.laid_unicode_utf8_acceptRanges), ("strconv.ErrRange", Rows.laid_strconv_ErrRange), ("strconv.ErrSyntax", Rows.laid_strconv_ErrSyntax), ("warrener/conf.spans", Rows.laid_warrener_conf_spans), ("warrener/conf.names", Rows.laid_warrener_conf_names), ("unicode/utf8.first", Rows.laid_unicode_utf8_first)]) W := laidMet.tail (laidMet.tail h)
  have h3 := laidMet.tail (laidMet.tail h2)
  have h4 := laidMet.tail h3
  refine ⟨spans_of (laidMet.tail h4), names_of (laidMet.tail (laidMet.tail h4)), Lib.tabIs_of_head (g := 2) (t := 140) (e := 97) (n := 20) (by kernel_rfl) (by kernel_rfl) Tryd.underlying140 Tryd.underlying97 (by kernel_rfl) (by kernel_rfl) h2, ?_, ?_⟩
  · obtain ⟨a, s, hv, -, -, -⟩ := laid_sentinel h4 glob4 (by kernel_rfl) Tryd.underlying92 rowErr Tryd.underlying158 Tryd.underlying160 rfl rfl Tryd.underlying9 cellsErr cells9
    exact ⟨_, _, hv⟩
  · obtain ⟨a, s, hv, -, -, -⟩ := laid_sentinel h3 glob5 (by kernel_rfl) Tryd.underlying92 rowErr Tryd.underlying158 Tryd.underlying160 rfl rfl Tryd.underlying9 cellsErr cells9
    exact ⟨_, _, hv⟩
end Go.Proofs.YtmkdmnaonddghaaDoor
