/- What the rows' condition on the table of math/bits gives the walks, and a world that meets it. Conditions: none. -/
import Derived.Test.YteonjolmnbbhfaaDoorRows
import Derived.Test.YteonjolmnbbhfaaDoorLeast
import Derived.Lib.LaidTab
import Derived.LaidMore
import Derived.Lay
import Derived.Stop.Joined
namespace Go.Proofs.YteonjolmnbbhfaaDoor
open Go.RowKit

def lst : List (String × DataW Unit) := [("math/bits.deBruijn64tab", Rows.laid_math_bits_deBruijn64tab)]
theorem tab_in {W : World} (h : laidMetH Tryd.prog lst W) : Tab W := by
  rw [MakeChecks.laidMetH_plain _ _ _ (by kernel_rfl)] at h
  have e : lst = [("math/bits.deBruijn64tab", Lib.tabData .u8 (Lib.deBruijn64tab.map fun (n : Nat) => (n : Int)))] := rfl
  rw [e] at h
  have ht := Lib.tabIs_of_head (g := 0) (t := 43) (e := 5) (n := 64) (by kernel_rfl) (by kernel_rfl) Tryd.underlying43 Tryd.underlying5 (by kernel_rfl) (by kernel_rfl) h
  intro j hj
  have hc := ht.cell (g := 0) (by kernel_rfl) j (by rw [List.length_map]; exact hj)
  rw [hc]
  congr 2
  simp [List.getD, List.getElem?_map]
  rw [List.getElem?_eq_getElem (by exact hj)]
  rfl
end Go.Proofs.YteonjolmnbbhfaaDoor
