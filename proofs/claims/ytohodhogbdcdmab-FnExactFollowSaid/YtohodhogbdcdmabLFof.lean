/- Walk of FnFollowersOf. -/
import Derived.Test.YtohodhogbdcdmabFof
import Derived.Test.YtohodhogbdcdmabDrawA3
import Derived.Test.YtohodhogbdcdmabSame
set_option linter.unusedVariables false
set_option linter.unusedSimpArgs false
namespace Go.Proofs.Ytohodhogbdcdmab
open Go.RowKit

theorem own1_strs {w w' : World} {L : List ByteArray} {e : Ending} (h : Own1 w L e w') : ∃ A n c, e = .returned (.slice A n c) ∧ n ≤ c ∧ Strs w' w'.heap.size A n L ∧ Below w.heap.size w w' := by
  obtain ⟨v, rfl, ⟨A, n, c, rfl, own⟩, hb⟩ := h
  exact ⟨A, n, c, rfl, (own_cap own).1, Strs.of_own own, hb⟩
theorem folM_len (X : List Acc) (s : ByteArray) : (folM X s).length ≤ 10 := by
  cases hv : asB X
  · rw [folM_f hv]; exact Nat.zero_le _
  · rw [folM_t hv]; exact fol_len hv s

end Go.Proofs.Ytohodhogbdcdmab
