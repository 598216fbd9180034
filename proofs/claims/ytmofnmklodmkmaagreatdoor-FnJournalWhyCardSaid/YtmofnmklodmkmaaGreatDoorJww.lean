/- What is asked of the world where errors.As is come to, too. -/
import Derived.Test.YtmofnmklodmkmaaGreatDoorLbs
set_option linter.unusedVariables false
namespace Go.Proofs.YtmofnmklodmkmaaGreatDoor
open Go.RowKit
/-- Beside Vw: errors' own variable holds the handle of the type error. -/
structure Jw (w : World) : Prop where
  vw : Vw w
  et : w.cell? ⟨0, 0, none⟩ = some (.iface 109 (.agg #[.pointer (some ⟨9, 46, none⟩)]))
theorem Jw.on {w w' : World} (h : Jw w) (hb : Below w.heap.size w w') : Jw w' := ⟨h.vw.on hb, cell_on h.et hb⟩
theorem Jw.tw {w : World} (h : Jw w) : Tw w := h.vw.tw
end Go.Proofs.YtmofnmklodmkmaaGreatDoor
