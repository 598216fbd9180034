/- Words of the exact laws: numbers. -/
import Derived.Test.YtfncmkmhdddmiabExP
import Derived.Test.YtfncmkmhdddmiabSameP
import Derived.Test.YtfncmkmhdddmiabExJ
import Derived.Test.YtfncmkmhdddmiabPadd
set_option linter.unusedVariables false
set_option linter.unusedSimpArgs false
namespace Go.Proofs.Ytfncmkmhdddmiab
open Go.RowKit

theorem own2P_row {w w' : World} {X : List Pst} {o : Option (List Pst)} {e : Ending} (h : Own2P w X o e w') : ∃ A n c z, e = .returned (.tuple #[.slice A n c, .int .i64 z, .bool o.isSome]) ∧ Hid (z = if o.isSome = true then nextI X else 0) ∧ w'.ownsRow w.heap.size 31 2 (.slice A n c) n (pcells (o.getD [])) ∧ Below w.heap.size w w' := by
  obtain ⟨v, rfl, ⟨A, n, c, rfl, h1⟩, hb⟩ := h
  exact ⟨A, n, c, _, rfl, rfl, h1, hb⟩
theorem pof_12 (X : List Pst) (s : ByteArray) : (pOfM X s).length ≤ 12 := by
  cases hv : psB X
  · rw [pOfM_f hv]; exact Nat.zero_le _
  · have := pOfM_len X s; have := psB_12 hv; omega
theorem padd_12 (X : List Pst) (s : ByteArray) : ((pAddM X s).getD []).length ≤ 12 := by
  cases ho : pAddM X s with
  | none => exact Nat.zero_le _
  | some Y => exact psB_12 (added ho).vy
end Go.Proofs.Ytfncmkmhdddmiab
