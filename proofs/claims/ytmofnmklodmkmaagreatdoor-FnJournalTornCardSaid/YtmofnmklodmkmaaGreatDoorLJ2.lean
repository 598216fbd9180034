/- Walk of FnJournalPart. -/
import Derived.Test.YtmofnmklodmkmaaGreatDoorDrR4
import Derived.Test.YtmofnmklodmkmaaGreatDoorJnl2
import Derived.Test.YtmofnmklodmkmaaGreatDoorIrj
import Derived.IntWalk
set_option linter.unusedVariables false
set_option linter.unusedSimpArgs false
namespace Go.Proofs.YtmofnmklodmkmaaGreatDoor
open Go.RowKit Go.BigFrame

/-- 'x[:k]' of records. -/
theorem rcs_to (A : Option Addr) (n c k : Nat) (hk : k ≤ n) (hnc : n ≤ c) : ∃ E, (∀ W : World, (Instr.slice 23 (.slice A n c) none (some (.int .i64 (k : Int))) none).run Tryz.prog W = .ok (.slice E k c) W) ∧ ∀ (w : World) (B : Nat) (X : List Rec), Rcs w B A n X → Rcs w B E k (X.take k) := by
  obtain ⟨i1, hi1, hy0, hy1, hy2⟩ := rc_info
  obtain ⟨E, h1, h2, _⟩ := slice_to (P := Tryz.prog) Tryz.underlying23 hi1 hy1 A n c k (k : Int) rfl hk hnc
  refine ⟨E, h1, fun w B X h => ?_⟩
  have h3 := h2 w B _ h.rd
  rw [rcells_take] at h3
  exact Rcs.of_rd h3
theorem RSmall.take {X : List Rec} (h : RSmall X) (k : Nat) : RSmall (X.take k) := fun a ha => h a (List.mem_of_mem_take ha)

end Go.Proofs.YtmofnmklodmkmaaGreatDoor
