/- How lists of accounts of the call's own read. -/
import Derived.Test.YtohodhogbdcdmabChg
set_option linter.unusedVariables false
namespace Go.Proofs.Ytohodhogbdcdmab
open Go.RowKit

theorem own2A_accs {w w' : World} {o : Option (List Acc)} {e : Ending} (h : Own2A w o e w') : ∃ A n c, e = .returned (.tuple #[.slice A n c, .bool o.isSome]) ∧ n ≤ c ∧ Accs w' w'.heap.size A n (o.getD []) ∧ Below w.heap.size w w' := by
  obtain ⟨v, rfl, hO, hb⟩ := h
  obtain ⟨A, n, c, rfl, h1, _, h2, _⟩ := hO.accs
  exact ⟨A, n, c, rfl, h1, h2, hb⟩
theorem asB_small {X : List Acc} (h : asB X = true) : ASmall X := fun a ha => by
  have h1 := asB_acc h ha
  exact ⟨nvB_small h1.1, nsB_small h1.2.1⟩
end Go.Proofs.Ytohodhogbdcdmab
