/- Draws of stage 6. -/
import Derived.Test.YtmofnmklodmkmaaGreatDoorDrR
import Derived.Test.YtmofnmklodmkmaaGreatDoorRg
set_option linter.unusedVariables false
set_option linter.unusedSimpArgs false
namespace Go.Proofs.YtmofnmklodmkmaaGreatDoor
open Go.RowKit

theorem code_up {w : World} {B B' n : Nat} {A : Option Addr} (h : Code w B A n) (hB : B ≤ B') : Code w B' A n := fun h0 => by
  obtain ⟨cb, off, e, hb, hc⟩ := h h0
  exact ⟨cb, off, e, by omega, hc⟩
theorem pick_z6 (g p m : Nat) (z : Int) (w : World) (hz : z = (m : Int)) (hr : Rdr 73 w g p) (hp : p ≤ 1000000) (hm : 1 ≤ m) (hm2 : m ≤ 1000000) :
    Calls Tryz.prog 41 #[.pointer (some ⟨g, 0, none⟩), .int .i64 z] w fun e w' => In m e ∧ Rdr 73 w' g (p + 1) ∧ But w.heap.size g w w' := by subst hz; exact pick_any g p m w hr hp hm hm2
abbrev zR : Obj := .cells #[.int .i64 0, .int .i64 0, .int .i64 0, .string ⟨#[]⟩, .string ⟨#[]⟩] 28

end Go.Proofs.YtmofnmklodmkmaaGreatDoor
