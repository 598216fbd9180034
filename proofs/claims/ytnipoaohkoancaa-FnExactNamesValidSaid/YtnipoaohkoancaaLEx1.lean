/- Walk of the exact law of NamesValid. -/
import Derived.Test.YtnipoaohkoancaaEx
import Derived.Test.YtnipoaohkoancaaPut
set_option linter.unusedVariables false
set_option linter.unusedSimpArgs false
namespace Go.Proofs.Ytnipoaohkoancaa
open Go.RowKit

theorem Strs.of_open {w : World} {x : Addr} {len cap : Nat} {ss : List ByteArray} (hl : len ≤ cap) (hz : ss.length = cap) (hcell : ∀ i, i < ss.length → w.cell? (x.add i) = some (.string (ss.getD i ByteArray.empty))) :
    Strs w w.heap.size (some x) len (ss.take len) := by
  refine ⟨by rw [List.length_take]; omega, fun h0 => ?_⟩
  obtain ⟨b, off, spot⟩ := x
  have h := hcell 0 (by omega)
  have hspot : spot = none := by simpa [Addr.add] using World.cell?_spot h
  subst hspot
  refine ⟨b, off, rfl, ?_, fun j s hs => ?_⟩
  · have := World.block_lt_of_cell? w _ h
    simpa [Addr.add] using this
  · have hj : j < len := by have := (List.getElem?_eq_some_iff.1 hs).1; rw [List.length_take] at this; omega
    rw [List.getElem?_take, if_pos hj] at hs
    obtain ⟨hj2, e⟩ := List.getElem?_eq_some_iff.1 hs
    have hc := hcell j hj2
    have e2 : (⟨b, off, none⟩ : Addr).add j = ⟨b, off + j, none⟩ := by unfold Addr.add; split <;> simp_all
    rw [e2] at hc
    rw [hc]
    simp [List.getD, hj2, e]

set_option maxHeartbeats 2000000 in
theorem FnExactNamesValid_walk (w : World) (A : Option Addr) (n c : Nat) (L : List ByteArray) (hL : Strs w w.heap.size A n L) (hS : Small L) (hnc : n ≤ c) (hn : n ≤ maxLen) :
    Calls Try.prog 14 #[.slice A n c] w fun e w' => e = .returned (.bool true) ∧ Below w.heap.size w w' := by
  have HL := hide hL
  have HS := hide hS
  clear hL hS
  go_enter Try.func14, Try.ntmps14
  go_wp2_with fail
  refine (e_sz A n c L 1048576 _ HL.out HS.out hn (by omega)).mono ?_
  rintro e w1 ⟨rfl | ⟨r, rfl, hr, hnl, hsl⟩, rfl⟩
  · go_wp2_with fail
    go_ret
    exact ⟨rfl, Below.refl _ _⟩
  clear hsl
  go_wp2_with fail
  refine (e_to A n c L _ HL.out hnl).mono ?_
  rintro e w1 ⟨rfl, own1, hb1⟩
  have ST1 := hide (Strs.of_own own1)
  clear own1
  go_wp2_with fail
  refine (s_NamesValid _ n n L _ ST1.out HS.out hn).mono ?_
  rintro e w2 ⟨rfl, q, rfl⟩
  have HL2 := hide (((HL.out.below hb1).more hb1.size).drewN q)
  have hb2 := below_drewN hb1 q
  go_wp2_with fail
  refine (e_to A n c L _ HL2.out hnl).mono ?_
  rintro e w3 ⟨rfl, own3, hb3⟩
  have ST3 := hide (Strs.of_own own3)
  have hb13 := hb2.trans (hb3.mono hb2.size)
  have HL3 := hide ((HL2.out.below hb3).more hb3.size)
  clear own3
  go_wp2_with fail
  refine (i_NamesValid _ n n L _ ST3.out HS.out hn).mono ?_
  rintro e w4 ⟨rfl, rfl⟩
  go_wp2_with fail
  refine (e_to A n c L _ HL3.out hnl).mono ?_
  rintro e w5 ⟨rfl, own5, hb5⟩
  have ST5 := hide (Strs.of_own own5)
  have ST35 := hide ((ST3.out.below hb5).more hb5.size)
  have hb15 := hb13.trans (hb5.mono hb13.size)
  clear own5
  go_wp2_with fail
  refine (e_eq_t _ n n _ n n L _ ST35.out ST5.out hn hn).mono ?_
  rintro e w6 ⟨rfl, q6, rfl⟩
  go_wp2_with fail
  go_ret
  exact ⟨rfl, below_drewN hb15 q6⟩
end Go.Proofs.Ytnipoaohkoancaa
