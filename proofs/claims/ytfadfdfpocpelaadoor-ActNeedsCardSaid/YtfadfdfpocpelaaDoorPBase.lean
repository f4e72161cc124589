/- What the walks of package op lean on: texts as octets, the instructions' table, and what the rows' condition on the variable 'rows' says of a world. Conditions: none. -/
import Derived.Test.YtfadfdfpocpelaaDoorRows
import Derived.WalkKit
import Derived.ProofKit
import Derived.OpenShut
import Derived.Below
import Derived.BigQuiet
import Derived.WalkSpells
import Derived.Lib.Hide
import Derived.Stop.Joined
import Derived.MakeChecks
namespace Go.Proofs.YtfadfdfpocpelaaDoor.P
open Go.RowKit Go.ChangeShapes Go.WideShapes

/-- A text's octets, and octets as a text. -/
def oct (s : ByteArray) : List UInt8 := s.data.toList
def txt (l : List UInt8) : ByteArray := ⟨l.toArray⟩
theorem oct_txt (l : List UInt8) : oct (txt l) = l := by simp [oct, txt]
theorem txt_oct (s : ByteArray) : txt (oct s) = s := by cases s; simp [oct, txt]
theorem oct_len (s : ByteArray) : (oct s).length = s.size := by rw [oct, Array.length_toList]; rfl
theorem txt_size (l : List UInt8) : (txt l).size = l.length := by rw [← oct_len, oct_txt]
theorem txt_inj {a b : List UInt8} (h : txt a = txt b) : a = b := by rw [← oct_txt a, h, oct_txt]

theorem oct_at (s : ByteArray) (k : Nat) (h : k < s.size) : (oct s)[k]? = some s[k] := by
  have hl : k < (oct s).length := by rw [oct_len]; exact h
  rw [List.getElem?_eq_getElem hl]
  congr 1
theorem oct_take (s : ByteArray) (k : Nat) (h : k < s.size) : (oct s).take (k + 1) = (oct s).take k ++ [s[k]] := by
  rw [List.take_add_one, oct_at s k h]
  rfl
theorem oct_drop (s : ByteArray) (k : Nat) (h : k < s.size) : (oct s).drop k = s[k] :: (oct s).drop (k + 1) := by
  have hl : k < (oct s).length := by rw [oct_len]; exact h
  rw [List.drop_eq_getElem_cons hl]
  congr 1
theorem oct_extract (s : ByteArray) (a b : Nat) : oct (s.extract a b) = ((oct s).take b).drop a := by
  unfold oct
  rw [ByteArray.data_extract, Array.toList_extract, List.extract_eq_take_drop]
  rw [List.drop_take]
theorem extract_txt (s : ByteArray) (a b : Nat) : s.extract a b = txt (((oct s).take b).drop a) := by rw [← oct_extract, txt_oct]
theorem eq_txt (x y : ByteArray) : (x.toList == y.toList) = decide (x = y) := by
  rw [ByteArray.toList_eq, ByteArray.toList_eq, Bool.eq_iff_iff, beq_iff_eq, decide_eq_true_iff]
  refine ⟨fun h => ByteArray.ext (Array.ext' h), fun h => by rw [h]⟩

/-! ### the table -/
/-- The instructions' names and letters, by number. -/
def tab : List (List UInt8 × List UInt8) := [
  ([], []),
  ([104, 97, 108, 116], [45, 45, 45, 45]),
  ([115, 101, 116], [114, 45, 45, 110]),
  ([99, 111, 112, 121], [114, 114, 45, 45]),
  ([97, 100, 100], [114, 114, 114, 45]),
  ([115, 117, 98], [114, 114, 114, 45]),
  ([109, 117, 108], [114, 114, 114, 45]),
  ([100, 105, 118], [114, 114, 114, 45]),
  ([106, 117, 109, 112], [45, 45, 45, 116]),
  ([122, 101, 114, 111], [114, 45, 45, 116]),
  ([115, 97, 109, 101], [114, 114, 45, 116]),
  ([108, 111, 111, 107], [114, 103, 45, 45]),
  ([112, 117, 116], [103, 114, 45, 45]),
  ([115, 119, 97, 112], [114, 114, 114, 103]),
  ([108, 111, 97, 100], [114, 114, 45, 102]),
  ([115, 116, 111, 114, 101], [114, 114, 45, 102]),
  ([99, 97, 115], [114, 114, 114, 102]),
  ([102, 101, 110, 99, 101], [45, 45, 45, 45]),
  ([110, 101, 119], [114, 45, 45, 45]),
  ([102, 114, 101, 101], [114, 45, 45, 45]),
  ([114, 101, 116, 105, 114, 101], [114, 45, 45, 45]),
  ([103, 117, 97, 114, 100], [114, 45, 45, 115]),
  ([99, 108, 101, 97, 114], [45, 45, 45, 115]),
  ([101, 110, 116, 101, 114], [45, 45, 45, 45]),
  ([108, 101, 97, 118, 101], [45, 45, 45, 45]),
  ([113, 117, 105, 101, 116], [45, 45, 45, 45])]
theorem tab_len : tab.length = 26 := rfl
/-- A number's name and letters. -/
def nameAt (i : Nat) : List UInt8 := (tab.getD i ([], [])).1
def shapeAt (i : Nat) : List UInt8 := (tab.getD i ([], [])).2
/-- Is it an instruction? -/
def isOp (n : Int) : Bool := decide (1 ≤ n ∧ n ≤ 25)
/-- Any number's name and letters. -/
def nameZ (n : Int) : List UInt8 := if isOp n then nameAt n.toNat else []
def shapeZ (n : Int) : List UInt8 := if isOp n then shapeAt n.toNat else []
/-- The variable's cells hold the table. -/
structure Laid (w : World) : Prop where
  cells : ∃ cs, w.var? Tryd.prog "warrener/op.rows" = some cs ∧ ∀ i, i < 26 → cs[2 * i]? = some (.string (txt (nameAt i))) ∧ cs[2 * i + 1]? = some (.string (txt (shapeAt i)))
theorem glob0 : Tryd.prog.globalNamed "warrener/op.rows" = some 0 := by kernel_rfl
theorem Laid.name {w : World} (h : Laid w) (i : Nat) (hi : i < 26) : w.cell? ⟨0, i * 2, none⟩ = some (.string (txt (nameAt i))) := by
  obtain ⟨cs, hc, ha⟩ := h.cells
  rw [Nat.mul_comm, World.var?_cell glob0 hc, (ha i hi).1]
theorem Laid.shape {w : World} (h : Laid w) (i : Nat) (hi : i < 26) : w.cell? ⟨0, i * 2 + 1, none⟩ = some (.string (txt (shapeAt i))) := by
  obtain ⟨cs, hc, ha⟩ := h.cells
  rw [Nat.mul_comm, World.var?_cell glob0 hc, (ha i hi).2]
theorem Laid.big {w : World} (h : Laid w) : 1 ≤ w.heap.size := by
  have := World.block_lt_of_cell? w _ (h.name 0 (by decide))
  exact this
theorem Laid.below {B : Nat} {w w' : World} (h : Laid w) (hb : Below B w w') (hB : 1 ≤ B) : Laid w' := by
  obtain ⟨cs, hc, ha⟩ := h.cells
  refine ⟨cs, ?_, ha⟩
  unfold World.var? at *
  rw [glob0] at *
  simp only [Option.bind_some] at *
  rw [hb.block 0 hB]
  exact hc
theorem Laid.on {w w' : World} (h : Laid w) (hb : Below w.heap.size w w') : Laid w' := h.below hb h.big

/-! ### out of the rows' condition -/
theorem cells9 : Tryd.prog.cellsOf 9 = 1 := by kernel_rfl
theorem cells29 : Tryd.prog.cellsOf 112 = 2 := by kernel_rfl
theorem cells34 : Tryd.prog.cellsOf 131 = 52 := by kernel_rfl
/-- The table as a datum. -/
def datum {H : Type} (l : List (List UInt8 × List UInt8)) : DataW H := .agg (l.map fun x => .agg [.lit (.string x.1), .lit (.string x.2)])
theorem datum_is : (Rows.laid_warrener_op_rows : DataW Unit) = datum tab := rfl
theorem two_of {cs : List Value} {i : Nat} {a b : Value} (h : (cs.drop (i * 2)).take 2 = [a, b]) : cs[2 * i]? = some a ∧ cs[2 * i + 1]? = some b := by
  have h0 := congrArg (fun l => l[0]?) h
  have h1 := congrArg (fun l => l[1]?) h
  simp [List.getElem?_drop] at h0 h1
  rw [Nat.mul_comm]
  exact ⟨h0, h1⟩
set_option maxRecDepth 100000 in
theorem one_of {x y : List UInt8} {fuel : Nat} {w : World} {p : List MemPlace} {cs : List Value}
    (h : DataW.trod (fun _ => ()) Tryd.prog w 0 (fun _ => true) false fuel 112 cs = some (.agg [.lit (.string x), .lit (.string y)], p)) : cs = [.string (txt x), .string (txt y)] := by
  obtain ⟨xs, n, rfl, hx, hl, hxl, hall⟩ := DataW.trod_struct Tryd.underlying112 h
  have hxs : xs.map (·.1) = [.lit (.string x), .lit (.string y)] := by
    have := congrArg Prod.fst hx
    simpa using this.symm
  rw [cells29] at hl
  obtain ⟨x0, x1, rfl⟩ : ∃ x0 x1, xs = [x0, x1] := by
    match xs, hxs with
    | [a, b], _ => exact ⟨a, b, rfl⟩
  obtain ⟨c0, c1, rfl⟩ : ∃ c0 c1, cs = [c0, c1] := by
    match cs, hl with
    | [a, b], _ => exact ⟨a, b, rfl⟩
  have h0 := hall 0 _ rfl
  have h1 := hall 1 _ rfl
  simp [cells9] at h0 h1
  obtain ⟨s0, e0, rfl, _⟩ := DataW.trod_string Tryd.underlying9 h0
  obtain ⟨s1, e1, rfl, _⟩ := DataW.trod_string Tryd.underlying9 h1
  simp at e0 e1 hxs
  obtain ⟨rfl, rfl⟩ := hxs
  rw [e0, e1]
  simp [txt]
set_option maxRecDepth 100000 in
theorem laid_of {W : World} (h : laidMet Tryd.prog [("warrener/op.rows", Rows.laid_warrener_op_rows)] W) : Laid W := by
  obtain ⟨ps, ⟨g', t', cs, fuel, p, q, hg', ht', hvar, hd, _, _⟩, _⟩ := h
  obtain rfl := Option.some.inj (glob0.symm.trans hg')
  have h34 : (Tryd.prog.globals[0]?).map (·.type) = some 131 := by kernel_rfl
  obtain rfl := Option.some.inj (h34.symm.trans ht')
  refine ⟨cs, hvar, fun i hi => ?_⟩
  rw [datum_is] at hd
  obtain ⟨xs, n, rfl, hx, hl, hxl, hall⟩ := DataW.trod_array Tryd.underlying131 hd
  have hxs : xs.map (·.1) = tab.map fun x => .agg [.lit (.string x.1), .lit (.string x.2)] := by
    have := congrArg Prod.fst hx
    simpa [datum] using this.symm
  have hi' := hall i hi
  rw [cells29, List.getElem?_eq_getElem (by omega)] at hi'
  have hxi : xs[i].1 = .agg [.lit (.string (nameAt i)), .lit (.string (shapeAt i))] := by
    have h1 := congrArg (fun l => l[i]?) hxs
    simp only [List.getElem?_map] at h1
    rw [List.getElem?_eq_getElem (show i < xs.length by omega), List.getElem?_eq_getElem (show i < tab.length by rw [tab_len]; exact hi)] at h1
    have h2 := Option.some.inj h1
    refine h2.trans ?_
    simp [nameAt, shapeAt, List.getD, List.getElem?_eq_getElem (show i < tab.length by rw [tab_len]; exact hi)]
  generalize xs[i] = d at hi' hxi
  obtain ⟨d1, d2⟩ := d
  simp only at hxi
  subst hxi
  have h2 := two_of (one_of hi')
  simpa using h2
def lst : List (String × DataW Unit) := [("warrener/op.rows", Rows.laid_warrener_op_rows)]
theorem laid_in {W : World} (h : laidMetH Tryd.prog lst W) : Laid W := by
  rw [MakeChecks.laidMetH_plain _ _ _ (by kernel_rfl)] at h
  exact laid_of h
end Go.Proofs.YtfadfdfpocpelaaDoor.P
