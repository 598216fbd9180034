/- What a row lists of the library's variables, as the contracts ask it. -/
import Derived.Test.YtmofnmklodmkmaaDoorLbs
import Derived.Test.YtmofnmklodmkmaaDoorRows
import Derived.Stop.LaidErr
import Derived.MakeChecks
set_option linter.unusedVariables false
set_option linter.unusedSimpArgs false
namespace Go.Proofs.YtmofnmklodmkmaaDoor
open Go.RowKit

theorem g_pow : Tryd.prog.globalNamed "internal/strconv.uint64pow10" = some 0 := by kernel_rfl
theorem g_powT : (Tryd.prog.globals[0]?).map (·.type) = some 92 := by kernel_rfl
theorem c_pow : Tryd.prog.cellsOf 92 = 20 := by kernel_rfl
theorem c_u64 : Tryd.prog.cellsOf 86 = 1 := by kernel_rfl
theorem tw_head {W : World} {r : List (String × DataW Unit)} (h : laidMet Tryd.prog (("internal/strconv.uint64pow10", Rows.laid_internal_strconv_uint64pow10) :: r) W) : Tw W :=
  ⟨Lib.tabIs_of_head (rest := r) (zs := Lib.pow10Tab) g_pow g_powT Tryd.underlying92 Tryd.underlying86 c_u64 c_pow h⟩
theorem tw_of {W : World} (h : laidMet Tryd.prog Rows.fnJournalPartRow.laid W) : Tw W := tw_head (laidMet.tail (laidMet.tail h))
end Go.Proofs.YtmofnmklodmkmaaDoor
