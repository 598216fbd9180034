/- What a row lists of the library's variables, as the contracts ask it. -/
import Derived.Test.YtmofnmklodmkmaaGreatDoorLbs
import Derived.Test.YtmofnmklodmkmaaGreatDoorJww
import Derived.LaidHandle
import Derived.Lay
import Derived.Test.YtmofnmklodmkmaaGreatDoorRows
import Derived.Stop.LaidErr
import Derived.MakeChecks
set_option linter.unusedVariables false
set_option linter.unusedSimpArgs false
namespace Go.Proofs.YtmofnmklodmkmaaGreatDoor
open Go.RowKit

theorem row_err (u : TypeId) (h : Tryz.prog.typeName? 3 u = some "*errors.errorString") : u = 165 := by
  have star : "*" ++ "errors.errorString" = "*errors.errorString" := by decide
  exact typeName_ptr_named (nm := "errors.errorString") (by rw [star]; kernel_rfl) (by kernel_rfl) (by decide) u (by rw [star]; exact h)
theorem g_pow : Tryz.prog.globalNamed "internal/strconv.uint64pow10" = some 2 := by kernel_rfl
theorem g_powT : (Tryz.prog.globals[2]?).map (·.type) = some 136 := by kernel_rfl
theorem c_pow : Tryz.prog.cellsOf 136 = 20 := by kernel_rfl
theorem c_u64 : Tryz.prog.cellsOf 126 = 1 := by kernel_rfl
theorem g_synT : (Tryz.prog.globals[atoiL_ren.g 15]?).map (·.type) = some 46 := by kernel_rfl
theorem g_rngT : (Tryz.prog.globals[atoiL_ren.g 16]?).map (·.type) = some 46 := by kernel_rfl
theorem c_err : Tryz.prog.cellsOf 167 = 1 := by kernel_rfl
theorem c_str : Tryz.prog.cellsOf 9 = 1 := by kernel_rfl

theorem tw_head {W : World} {r : List (String × DataW Unit)} (h : laidMet Tryz.prog (("internal/strconv.uint64pow10", Rows.laid_internal_strconv_uint64pow10) :: r) W) : Tw W :=
  ⟨Lib.tabIs_of_head (rest := r) (zs := Lib.pow10Tab) g_pow g_powT Tryz.underlying136 Tryz.underlying126 c_u64 c_pow h⟩
theorem err_head {W : World} {n : String} {g : Nat} {text : List UInt8} {r : List (String × DataW Unit)} (hg : Tryz.prog.globalNamed n = some g) (ht : (Tryz.prog.globals[g]?).map (·.type) = some 46)
    (h : laidMet Tryz.prog ((n, .iface "*errors.errorString" (.ptr (.agg [.lit (.string text)]))) :: r) W) : ∃ t p, W.cell? ⟨g, 0, none⟩ = some (.iface t p) := by
  obtain ⟨a0, s0, hv0, -, -, -⟩ := laid_sentinel h hg ht Tryz.underlying46 row_err Tryz.underlying165 Tryz.underlying167 rfl rfl Tryz.underlying9 c_err c_str
  have h0 := World.var?_cell hg hv0 0
  exact ⟨_, _, by simpa using h0⟩
theorem g_et : Tryz.prog.globalNamed "errors.errorType" = some 0 := by kernel_rfl
theorem rt_row : (Tryz.prog.cutTypes.find? (·.1 == "internal/reflectlite.rtype")).map (·.2) = some 109 := by kernel_rfl
theorem one_row : ((List.range Tryz.prog.types.size).filter fun t => Tryz.prog.rowNamed t [101, 114, 114, 111, 114]) = [46] := by kernel_rfl
theorem jw_of {W : World} (h : laidMetH Tryz.prog Rows.fnJournalRow.laid W) (hsh : W.ShapedOpen Tryz.prog) : Jw W := by
  have h' : laidMet Tryz.prog (Rows.fnJournalRow.laid.filter fun x => x.2.handleName?.isNone) W ∧ handlesMet Tryz.prog [("errors.errorType", Rows.laid_errors_errorType)] W := h
  have h2 := laidMet.tail (laidMet.tail h'.1)
  have h4 := laidMet.tail (laidMet.tail h2)
  refine ⟨⟨tw_head h2, splitL.s1_3 W hsh, err_head atoiL.m15 g_synT (laidMet.tail h4), err_head atoiL.m16 g_rngT h4⟩, ?_⟩
  obtain ⟨name, u, ty, e1, e2, e3, e4, e5⟩ := h'.2 _ (List.mem_singleton.2 rfl)
  have en : name = [101, 114, 114, 111, 114] := (Option.some.inj e1).symm
  subst en
  obtain rfl := Option.some.inj (rt_row.symm.trans e2)
  have hm : ty ∈ (List.range Tryz.prog.types.size).filter fun t => Tryz.prog.rowNamed t [101, 114, 114, 111, 114] := List.mem_filter.2 ⟨List.mem_range.2 e3, e4⟩
  rw [one_row] at hm
  obtain rfl := List.mem_singleton.1 hm
  have hh : typeHandle Tryz.prog 46 = .pointer (some ⟨9, 46, none⟩) := by kernel_rfl
  rw [hh] at e5
  simpa using World.var?_cell g_et e5 0
/-- A world in which the list's variables lie. -/
noncomputable def hW (os : Os) : World :=
  let w0 := World.holding Tryz.prog os ⟨#[], #[], []⟩
  { w0 with heap := w0.heap.modify 0 fun
      | .cells _ t frozen => .cells #[.iface 109 (.agg #[.pointer (some ⟨9, 46, none⟩)])] t frozen
      | o => o }
noncomputable def jW (os : Os) : World := (hW os).layVars Tryz.prog (Rows.fnJournalRow.laid.filter fun x => x.2.handleName?.isNone)
theorem jW_os (os : Os) : (jW os).os = os := World.layVars_os _ _ _
theorem laid_all {P : Program} {w0 : World} {l : List (String × DataW Unit)} (args : Array Value) (hf : w0.layFits P l [] = true) (hi : w0.layIfaces P l (w0.layVars P l) = true) :
    laidMet P l ((w0.layVars P l).forCall (fun _ _ => 0) ⟨#[], args, []⟩).memory := by
  have e1 : (l.filter fun x => (l.map (·.1)).contains x.1) = l := List.filter_eq_self.2 fun x hx => List.contains_iff_mem.2 (List.mem_map.2 ⟨x, hx, rfl⟩)
  have e2 : (l.filter fun x => !(l.map (·.1)).contains x.1) = [] := List.filter_eq_nil_iff.2 fun x hx => by rw [List.contains_iff_mem.2 (List.mem_map.2 ⟨x, hx, rfl⟩)]; simp
  have h : laidMet P l (w0.layVars P l) := laidMet_layVars (w0 := w0) (l.map (·.1)) [] (by rw [e1]) (by rw [e1]; exact hf) (by rw [e1]; exact hi) (by rw [e2]; exact LaidIn.none)
  exact h.of_heap (by simp [World.memory, World.forCall, Input.heap])
theorem jW_met (os : Os) (args : Array Value) : laidMetH Tryz.prog Rows.fnJournalRow.laid ((jW os).forCall (fun _ _ => 0) ⟨#[], args, []⟩).memory :=
  laidMetH_of_parts (laid_all args (by kernel_rfl) (by kernel_rfl)) (by kernel_rfl)
end Go.Proofs.YtmofnmklodmkmaaGreatDoor
