/- Exact words of records. -/
import Derived.Test.YtmofnmklodmkmaaGreatDoorRg
set_option linter.unusedVariables false
set_option linter.unusedSimpArgs false
namespace Go.Proofs.YtmofnmklodmkmaaGreatDoor
open Go.RowKit

set_option maxHeartbeats 1000000 in
set_option maxRecDepth 100000 in
theorem e_eqR (k i d : Int) (s t : ByteArray) (w : World) :
    Calls Tryz.prog 39 #[.agg #[.int .i64 k, .int .i64 i, .int .i64 d, .string s, .string t], .agg #[.int .i64 k, .int .i64 i, .int .i64 d, .string s, .string t]] w fun e w' => e = .returned (.bool true) ∧ Below w.heap.size w w' := by
  have hb := hide (((Below.refl w.heap.size w).alloc (Nat.le_refl _) (rC k i d s t)).alloc (by simp) (rC k i d s t))
  go_enter Tryz.func39, Tryz.ntmps39
  go_wp2_with fail
  go_ret
  exact ⟨rfl, hb.out⟩
end Go.Proofs.YtmofnmklodmkmaaGreatDoor
