/- Walk of FnExactJournalText. -/
import Derived.Test.YtmofnmklodmkmaaDoorExRs
import Derived.Test.YtmofnmklodmkmaaDoorIrj
set_option linter.unusedVariables false
set_option linter.unusedSimpArgs false
namespace Go.Proofs.YtmofnmklodmkmaaDoor
open Go.RowKit

set_option maxHeartbeats 2000000 in
set_option maxRecDepth 100000 in
theorem FnExactJournalText_walk (w : World) (A : Option Addr) (n c : Nat) (X : List Rec) (hL : Rcs w w.heap.size A n X) (hS : RSmall X) (hnc : n ≤ c) (hn : n ≤ maxLen) (hV : Tw w) :
    Calls Tryd.prog 5 #[.slice A n c] w fun e w' => e = .returned (.bool true) ∧ Below w.heap.size w w' := by
  have HL := hide hL
  have HS := hide hS
  have HVw := hide hV
  clear hL hS hV
  go_enter Tryd.func5, Tryd.ntmps5
  go_wp2_with fail
  refine (e_szRs A n c X 1048576 _ HL.out HS.out hn (by omega)).mono ?_
  rintro e w0 ⟨rfl | ⟨r, rfl, hr, hnl⟩, hb0⟩
  · go_wp2_with fail
    go_ret
    exact ⟨rfl, hb0⟩
  have HL0 := hide (HL.out.on hb0)
  have hr0 : ¬ ((r : Int) < 0) := by omega
  go_wp2_with fail
  refine (e_toRs A n c X _ HL0.out hnl).mono ?_
  rintro e w1 ⟨rfl, own1, hb1'⟩
  have ST1 := hide (Rcs.of_own own1)
  have HL1 := hide (HL0.out.on hb1')
  have hb1 := hb0.trans (hb1'.mono hb0.size)
  clear own1 hb1' hb0
  go_wp2_with fail
  refine (s_JT _ n n X _ ST1.out HS.out hn).mono ?_
  rintro e w2 ⟨rfl, hb2⟩
  have hb12 := hb1.trans (hb2.mono hb1.size)
  have HL2 := hide (HL1.out.on hb2)
  clear hb2
  go_wp2_with fail
  refine (e_toRs A n c X _ HL2.out hnl).mono ?_
  rintro e w3 ⟨rfl, own3, hb3⟩
  have hb13 := hb12.trans (hb3.mono hb12.size)
  have ST3 := hide (Rcs.of_own own3)
  have HL3 := hide (HL2.out.on hb3)
  clear own3 hb3
  go_wp2_with fail
  refine (i_JT _ n n X _ ST3.out HS.out hn (HVw.out.on hb13)).mono ?_
  rintro e w4 ⟨rfl, hb4⟩
  have hb14 := hb13.trans (hb4.mono hb13.size)
  have HL4 := hide (HL3.out.on hb4)
  have ST34 := hide (ST3.out.on hb4)
  clear hb4
  go_wp2_with fail
  refine (e_toRs A n c X _ HL4.out hnl).mono ?_
  rintro e w5 ⟨rfl, own5, hb5⟩
  have ST5 := hide (Rcs.of_own own5)
  have ST35 := hide (ST34.out.on hb5)
  have hb15 := hb14.trans (hb5.mono hb14.size)
  clear own5 hb5
  go_wp2_with fail
  refine (e_eqRs _ n n _ n n X _ ST35.out ST5.out hn).mono ?_
  rintro e w6 ⟨rfl, hb6⟩
  go_wp2_with fail
  go_ret
  exact ⟨rfl, hb15.trans (hb6.mono hb15.size)⟩
end Go.Proofs.YtmofnmklodmkmaaDoor
