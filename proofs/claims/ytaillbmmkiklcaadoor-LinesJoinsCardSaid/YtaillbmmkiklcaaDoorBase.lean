/- What the walks of package lines lean on: texts as octets, what the rows' condition on the library's variables says of a world. Conditions: none. -/
import Derived.Test.YtaillbmmkiklcaaDoorRows
import Derived.Test.YtaillbmmkiklcaaDoorShelf
import Derived.Test.YtaillbmmkiklcaaDoorPieces
import Derived.Test.YtaillbmmkiklcaaDoorDecimals
import Derived.WalkKit
import Derived.ProofKit
import Derived.Below
import Derived.BigQuiet
import Derived.WalkSpells
import Derived.Lib.Hide
namespace Go.Proofs.YtaillbmmkiklcaaDoor
open Go.RowKit Go.ChangeShapes Go.WideShapes

/-- A text's octets, and octets as a text. -/
def oct (s : ByteArray) : List UInt8 := s.data.toList
def txt (l : List UInt8) : ByteArray := ⟨l.toArray⟩
theorem oct_txt (l : List UInt8) : oct (txt l) = l := by simp [oct, txt]
theorem txt_oct (s : ByteArray) : txt (oct s) = s := by cases s; simp [oct, txt]
theorem oct_len (s : ByteArray) : (oct s).length = s.size := by rw [oct, Array.length_toList]; rfl
theorem txt_size (l : List UInt8) : (txt l).size = l.length := by rw [← oct_len, oct_txt]
theorem txt_inj {a b : List UInt8} (h : txt a = txt b) : a = b := by rw [← oct_txt a, h, oct_txt]

theorem oct_at (s : ByteArray) (k : Nat) (h : k < s.size) : (oct s)[k]? = some s[k] := by
  have hl : k < (oct s).length := by rw [oct_len]; exact h
  rw [List.getElem?_eq_getElem hl]
  congr 1
theorem oct_take (s : ByteArray) (k : Nat) (h : k < s.size) : (oct s).take (k + 1) = (oct s).take k ++ [s[k]] := by
  rw [List.take_add_one, oct_at s k h]
  rfl
theorem oct_drop (s : ByteArray) (k : Nat) (h : k < s.size) : (oct s).drop k = s[k] :: (oct s).drop (k + 1) := by
  have hl : k < (oct s).length := by rw [oct_len]; exact h
  rw [List.drop_eq_getElem_cons hl]
  congr 1
theorem oct_extract (s : ByteArray) (a b : Nat) : oct (s.extract a b) = ((oct s).take b).drop a := by
  unfold oct
  rw [ByteArray.data_extract, Array.toList_extract, List.extract_eq_take_drop]
  rw [List.drop_take]
theorem extract_txt (s : ByteArray) (a b : Nat) : s.extract a b = txt (((oct s).take b).drop a) := by rw [← oct_extract, txt_oct]
theorem eq_txt (x y : ByteArray) : (x.toList == y.toList) = decide (x = y) := by
  rw [ByteArray.toList_eq, ByteArray.toList_eq, Bool.eq_iff_iff, beq_iff_eq, decide_eq_true_iff]
  refine ⟨fun h => ByteArray.ext (Array.ext' h), fun h => by rw [h]⟩

/-- The library's table and its two errors lie as they are laid. -/
structure Laid (w : World) : Prop where
  tab : Lib.TabIs Tryd.prog w "internal/strconv.uint64pow10" .u64 Lib.pow10Tab
  syn : ∃ tp p, w.var? Tryd.prog "strconv.ErrSyntax" = some #[.iface tp p]
  rng : ∃ tp p, w.var? Tryd.prog "strconv.ErrRange" = some #[.iface tp p]
theorem glob0 : Tryd.prog.globalNamed "strconv.ErrSyntax" = some 0 := by kernel_rfl
theorem glob1 : Tryd.prog.globalNamed "strconv.ErrRange" = some 1 := by kernel_rfl
theorem glob2 : Tryd.prog.globalNamed "internal/strconv.uint64pow10" = some 2 := by kernel_rfl
theorem var_below {B g : Nat} {w w' : World} {n : String} {cs : Array Value} (hg : Tryd.prog.globalNamed n = some g) (hb : Below B w w') (hB : g < B) (h : w.var? Tryd.prog n = some cs) : w'.var? Tryd.prog n = some cs := by
  unfold World.var? at *
  rw [hg] at *
  simp only [Option.bind_some] at *
  rw [hb.block g hB]
  exact h
theorem Laid.big {w : World} (h : Laid w) : 3 ≤ w.heap.size := by
  have ht := h.tab
  unfold Lib.TabIs World.var? at ht
  rw [glob2] at ht
  simp only [Option.bind_some] at ht
  rcases Nat.lt_or_ge 2 w.heap.size with h' | h'
  · omega
  · simp [Array.getElem?_eq_none h'] at ht
theorem Laid.below {B : Nat} {w w' : World} (h : Laid w) (hb : Below B w w') (hB : 3 ≤ B) : Laid w' := by
  obtain ⟨t, ⟨a, b, s⟩, ⟨c, d, r⟩⟩ := h
  exact ⟨var_below glob2 hb (by omega) t, ⟨a, b, var_below glob0 hb (by omega) s⟩, ⟨c, d, var_below glob1 hb (by omega) r⟩⟩
theorem Laid.on {w w' : World} (h : Laid w) (hb : Below w.heap.size w w') : Laid w' := h.below hb h.big
end Go.Proofs.YtaillbmmkiklcaaDoor
