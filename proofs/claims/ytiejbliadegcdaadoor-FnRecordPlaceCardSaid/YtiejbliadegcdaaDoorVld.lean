/- What a row lists of the library's variables, as the contracts ask it. -/
import Derived.Test.YtiejbliadegcdaaDoorLbs
import Derived.Test.YtiejbliadegcdaaDoorRows
import Derived.Stop.LaidErr
import Derived.MakeChecks
set_option linter.unusedVariables false
set_option linter.unusedSimpArgs false
namespace Go.Proofs.YtiejbliadegcdaaDoor
open Go.RowKit

theorem row_err (u : TypeId) (h : Tryd.prog.typeName? 3 u = some "*errors.errorString") : u = 120 := by
  have star : "*" ++ "errors.errorString" = "*errors.errorString" := by decide
  exact typeName_ptr_named (nm := "errors.errorString") (by rw [star]; kernel_rfl) (by kernel_rfl) (by decide) u (by rw [star]; exact h)
theorem g_pow : Tryd.prog.globalNamed "internal/strconv.uint64pow10" = some 0 := by kernel_rfl
theorem g_powT : (Tryd.prog.globals[0]?).map (·.type) = some 99 := by kernel_rfl
theorem c_pow : Tryd.prog.cellsOf 99 = 20 := by kernel_rfl
theorem c_u64 : Tryd.prog.cellsOf 84 = 1 := by kernel_rfl
theorem g_synT : (Tryd.prog.globals[atoiL_ren.g 15]?).map (·.type) = some 76 := by kernel_rfl
theorem g_rngT : (Tryd.prog.globals[atoiL_ren.g 16]?).map (·.type) = some 76 := by kernel_rfl
theorem c_err : Tryd.prog.cellsOf 122 = 1 := by kernel_rfl
theorem c_str : Tryd.prog.cellsOf 9 = 1 := by kernel_rfl

theorem tw_head {W : World} {r : List (String × DataW Unit)} (h : laidMet Tryd.prog (("internal/strconv.uint64pow10", Rows.laid_internal_strconv_uint64pow10) :: r) W) : Tw W :=
  ⟨Lib.tabIs_of_head (rest := r) (zs := Lib.pow10Tab) g_pow g_powT Tryd.underlying99 Tryd.underlying84 c_u64 c_pow h⟩
theorem err_head {W : World} {n : String} {g : Nat} {text : List UInt8} {r : List (String × DataW Unit)} (hg : Tryd.prog.globalNamed n = some g) (ht : (Tryd.prog.globals[g]?).map (·.type) = some 76)
    (h : laidMet Tryd.prog ((n, .iface "*errors.errorString" (.ptr (.agg [.lit (.string text)]))) :: r) W) : ∃ t p, W.cell? ⟨g, 0, none⟩ = some (.iface t p) := by
  obtain ⟨a0, s0, hv0, -, -, -⟩ := laid_sentinel h hg ht Tryd.underlying76 row_err Tryd.underlying120 Tryd.underlying122 rfl rfl Tryd.underlying9 c_err c_str
  have h0 := World.var?_cell hg hv0 0
  exact ⟨_, _, by simpa using h0⟩
theorem vw_of {W : World} (h : laidMet Tryd.prog Rows.fnRecordTextRow.laid W) (hsh : W.ShapedOpen Tryd.prog) : Vw W := by
  have h2 := laidMet.tail (laidMet.tail h)
  have h4 := laidMet.tail (laidMet.tail h2)
  exact ⟨tw_head h2, splitL.s1_3 W hsh, err_head atoiL.m15 g_synT (laidMet.tail h4), err_head atoiL.m16 g_rngT h4⟩
theorem tw_of {W : World} (h : laidMet Tryd.prog Rows.fnRecordPlaceRow.laid W) : Tw W := tw_head (laidMet.tail (laidMet.tail h))
end Go.Proofs.YtiejbliadegcdaaDoor
