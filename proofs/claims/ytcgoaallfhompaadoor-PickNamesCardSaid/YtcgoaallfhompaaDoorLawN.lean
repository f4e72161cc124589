/- PickNames holds. Conditions: none. -/
import Derived.Test.YtcgoaallfhompaaDoorLawN0
import Derived.Test.YtcgoaallfhompaaDoorLawN1
namespace Go.Proofs.YtcgoaallfhompaaDoor
open Go.RowKit Go.ChangeShapes Go.WideShapes
set_option linter.unusedSimpArgs false
set_option linter.unusedVariables false

theorem names_any (a t : Int) (s : ByteArray) (w : World) : Calls Tryd.prog 3 #[.int .i64 a, .int .i64 t, .string s] w (Trial w) := by
  by_cases hv : 0 ≤ t ∧ t ≤ 4 ∧ 0 ≤ a ∧ a < 2 * t
  · by_cases hs : 10 < s.size
    · by_cases hf : a < t
      · exact names_t_c a t s _ w hs rfl hv hf
      · exact names_f_c a t s _ w hs rfl hv (by omega)
    · by_cases hf : a < t
      · exact names_t_n a t s s w (by omega) rfl hv hf
      · exact names_f_n a t s s w (by omega) rfl hv (by omega)
  · by_cases hs : 10 < s.size
    · exact names_none_c a t s _ w hs rfl hv
    · exact names_none_n a t s s w (by omega) rfl hv
end Go.Proofs.YtcgoaallfhompaaDoor
