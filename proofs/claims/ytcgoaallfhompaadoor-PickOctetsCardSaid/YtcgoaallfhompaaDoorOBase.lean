/- What the walks of packages conf and lines lean on: texts as octets, conf's spans and names, the library's powers of ten, and what the rows' condition on the variables says of a world. Conditions: none. -/
import Derived.Test.YtcgoaallfhompaaDoorRows
import Derived.WalkKit
import Derived.ProofKit
import Derived.OpenShut
import Derived.Below
import Derived.BigQuiet
import Derived.WalkSpells
import Derived.Lib.Hide
import Derived.Stop.Joined
import Derived.MakeChecks
import Derived.Lib.LaidTab
import Derived.LaidMore
import Derived.Lay
namespace Go.Proofs.YtcgoaallfhompaaDoor.O
set_option linter.unusedSimpArgs false
set_option linter.unusedVariables false
open Go.RowKit Go.ChangeShapes Go.WideShapes
/-- A text's octets, and octets as a text. -/
def _root_.Go.Proofs.YtcgoaallfhompaaDoor.oct (s : ByteArray) : List UInt8 := s.data.toList
def _root_.Go.Proofs.YtcgoaallfhompaaDoor.txt (l : List UInt8) : ByteArray := ⟨l.toArray⟩
theorem _root_.Go.Proofs.YtcgoaallfhompaaDoor.oct_txt (l : List UInt8) : oct (txt l) = l := by simp [oct, txt]
theorem _root_.Go.Proofs.YtcgoaallfhompaaDoor.txt_oct (s : ByteArray) : txt (oct s) = s := by cases s; simp [oct, txt]
theorem _root_.Go.Proofs.YtcgoaallfhompaaDoor.oct_len (s : ByteArray) : (oct s).length = s.size := by rw [oct, Array.length_toList]; rfl
theorem _root_.Go.Proofs.YtcgoaallfhompaaDoor.txt_size (l : List UInt8) : (txt l).size = l.length := by rw [← oct_len, oct_txt]
theorem _root_.Go.Proofs.YtcgoaallfhompaaDoor.txt_inj {a b : List UInt8} (h : txt a = txt b) : a = b := by rw [← oct_txt a, h, oct_txt]
theorem _root_.Go.Proofs.YtcgoaallfhompaaDoor.oct_at (s : ByteArray) (k : Nat) (h : k < s.size) : (oct s)[k]? = some s[k] := by
  have hl : k < (oct s).length := by rw [oct_len]; exact h
  rw [List.getElem?_eq_getElem hl]
  congr 1
theorem _root_.Go.Proofs.YtcgoaallfhompaaDoor.oct_take (s : ByteArray) (k : Nat) (h : k < s.size) : (oct s).take (k + 1) = (oct s).take k ++ [s[k]] := by
  rw [List.take_add_one, oct_at s k h]
  rfl
theorem _root_.Go.Proofs.YtcgoaallfhompaaDoor.oct_drop (s : ByteArray) (k : Nat) (h : k < s.size) : (oct s).drop k = s[k] :: (oct s).drop (k + 1) := by
  have hl : k < (oct s).length := by rw [oct_len]; exact h
  rw [List.drop_eq_getElem_cons hl]
  congr 1
theorem _root_.Go.Proofs.YtcgoaallfhompaaDoor.oct_extract (s : ByteArray) (a b : Nat) : oct (s.extract a b) = ((oct s).take b).drop a := by
  unfold oct
  rw [ByteArray.data_extract, Array.toList_extract, List.extract_eq_take_drop]
  rw [List.drop_take]
theorem _root_.Go.Proofs.YtcgoaallfhompaaDoor.extract_txt (s : ByteArray) (a b : Nat) : s.extract a b = txt (((oct s).take b).drop a) := by rw [← oct_extract, txt_oct]
theorem _root_.Go.Proofs.YtcgoaallfhompaaDoor.eq_txt (x y : ByteArray) : (x.toList == y.toList) = decide (x = y) := by
  rw [ByteArray.toList_eq, ByteArray.toList_eq, Bool.eq_iff_iff, beq_iff_eq, decide_eq_true_iff]
  refine ⟨fun h => ByteArray.ext (Array.ext' h), fun h => by rw [h]⟩
theorem _root_.Go.Proofs.YtcgoaallfhompaaDoor.var_below {B g : Nat} {w w' : World} {n : String} {cs : Array Value} (hg : Tryd.prog.globalNamed n = some g) (hb : Below B w w') (hB : g < B) (h : w.var? Tryd.prog n = some cs) : w'.var? Tryd.prog n = some cs := by
  unfold World.var? at *
  rw [hg] at *
  simp only [Option.bind_some] at *
  rw [hb.block g hB]
  exact h
end Go.Proofs.YtcgoaallfhompaaDoor.O
