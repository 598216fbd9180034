/- postIdValid of the program. -/
import Derived.Test.YtmofnmklodmkmaaGreatDoorBxi
import Derived.Test.YtmofnmklodmkmaaGreatDoorNv
import Derived.Test.YtmofnmklodmkmaaGreatDoorLater
import Derived.Outline
set_option linter.unusedVariables false
set_option linter.unusedSimpArgs false
namespace Go.Proofs.YtmofnmklodmkmaaGreatDoor
open Go.RowKit Go.BigFrame

theorem p_id (i : Int) (w : World) :
    Calls Tryz.prog 134 #[.int .i64 i] w fun e w' => e = .returned (.bool (inR i)) ∧ w = w' := by
  by_cases h1 : 1 ≤ i
  · have H : Hid (inR i = decide (i ≤ 999)) := by show _ = _; unfold inR; simp [h1]
    go_enter Tryz.func134, Tryz.ntmps134
    go_wp2_with fail
    go_ret
    exact ⟨ret_bool H.out.symm, rfl⟩
  · have H : Hid (inR i = false) := inR_f (by omega)
    go_enter Tryz.func134, Tryz.ntmps134
    go_wp2_with fail
    go_ret
    exact ⟨ret_bool H.out.symm, rfl⟩
theorem p_idt {i : Int} {b : Bool} (h : inR i = b) (w : World) :
    Calls Tryz.prog 134 #[.int .i64 i] w fun e w' => e = .returned (.bool b) ∧ w = w' := by
  subst h; exact p_id i w
theorem p_id' {B : Nat} {W : World} (z : Later B W) {i : Int} {b : Bool} (h : inR i = b) :
    Calls Tryz.prog 134 #[.int .i64 i] z.it fun e w'' => e = .returned (.bool b) ∧ ∃ z' : Later B W, w'' = z'.it := by
  subst h; exact Later.same (p_id i _)
end Go.Proofs.YtmofnmklodmkmaaGreatDoor
