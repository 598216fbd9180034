/- Walk of FnExactJournalFrom. -/
import Derived.Test.YtmofnmklodmkmaaGreatDoorExRm
import Derived.Test.YtmofnmklodmkmaaGreatDoorJnl2
import Derived.Test.YtmofnmklodmkmaaGreatDoorIrj
set_option linter.unusedVariables false
set_option linter.unusedSimpArgs false
namespace Go.Proofs.YtmofnmklodmkmaaGreatDoor
open Go.RowKit

set_option maxHeartbeats 4000000 in
set_option maxRecDepth 100000 in
theorem FnExactJournalFrom_walk (w : World) (s : ByteArray) (hs : s.size ≤ maxLen) (hV : Jw w) :
    Calls Tryz.prog 9 #[.string s] w fun e w' => e = .returned (.bool true) ∧ Below w.heap.size w w' := by
  have HVw := hide hV
  clear hV
  unfold maxLen at hs
  by_cases h : 1048576 < s.size
  · go_enter Tryz.func9, Tryz.ntmps9
    go_wp2_with fail
    go_ret
    exact ⟨rfl, Below.refl _ _⟩
  go_enter Tryz.func9, Tryz.ntmps9
  go_wp2_with fail
  refine (s_JF s _ (by omega)).mono ?_
  rintro e w1 ⟨v1, X, m, why, rfl, hj, hO1, hb1⟩
  obtain ⟨A1, n1, c1, rfl, hl1, _, _, hR1⟩ := hO1.rcs
  have HJ := hide hj
  have HR1 := hide hR1
  have HL := hide hl1
  have hb1' := hide hb1
  have hz1 : w.heap.size ≤ w1.heap.size := hb1.size
  have hX30 : X.length ≤ 30 := (jf_text hj).2.2.2.2.1
  clear hj hO1 hR1 hb1
  go_wp2_with fail
  refine (i_JF s _ (by omega) (HVw.out.on hb1'.out)).mono ?_
  rintro e w2 ⟨v2, X2, m2, why2, rfl, hj, ⟨A2, n2, c2, rfl, own2⟩, hb2⟩
  rw [HJ.out] at hj
  injection hj with e1 e2
  injection e2 with e2 e3
  subst e1 e2 e3
  have hn2 : n2 ≤ 30 := by have h1 := (Rcs.of_own own2).1; omega
  have hn2m : n2 ≤ maxLen := by unfold maxLen; omega
  have Own2 := hide own2
  have Hb2 := hide (hb1'.out.trans (hb2.mono hz1))
  have HB2 := hide hb2
  have hz2 : w1.heap.size ≤ w2.heap.size := hb2.size
  have HR2 := hide (HR1.out.on hb2)
  have HS2 := hide (Rcs.of_own own2)
  clear hb2 own2 hX30
  go_wp2_with fail
  refine (e_eqRs A2 n2 c2 A1 n1 c1 X _ HS2.out HR2.out hn2m).mono ?_
  rintro e w3 ⟨rfl, hb3⟩
  have Own3 := hide (Own2.out.kept (row := none) (grown_of_below hb3) (by cases (Value.slice A2 n2 c2).ownBlock <;> simp))
  have Hb3 := hide (Hb2.out.trans (hb3.mono (by omega)))
  have HB3 := hide (HB2.out.trans (hb3.mono hz2))
  have hz3 : w2.heap.size ≤ w3.heap.size := hb3.size
  clear hb3 HS2 Own2 HR2
  go_wp2_with fail
  refine (e_marksRs _ A2 n2 c2 1 X _ Own3.out (by omega) (by omega) (by omega)).mono ?_
  rintro e w4 ⟨rfl, own4, gr4⟩
  have Hb4 : Hid (Below w.heap.size w w4) := Hb3.out.grown gr4 Hb3.out.size (fun k hk => by have := (Own3.out.lt k hk).1; omega)
  have HB4 : Hid (Below w1.heap.size w1 w4) := HB3.out.grown gr4 HB3.out.size (fun k hk => (Own3.out.lt k hk).1)
  have Own4 := hide own4
  have hz4 : w1.heap.size ≤ w4.heap.size := HB4.out.size
  have hk8 : ¬ (((1 + 5 * n2 : Nat) : Int) < 0) := by omega
  clear own4 gr4 Own3
  obtain ⟨k8, hk8e⟩ : ∃ k8, 1 + 5 * n2 = k8 := ⟨_, rfl⟩
  have HK := hide hk8e
  rw [hk8e] at hk8 ⊢
  clear hk8e
  go_wp2_with fail
  refine (e_heldRs A2 n2 c2 1 _ (Rcs.of_own Own4.out) (by omega) (by omega) (by omega)).mono ?_
  rintro e w5 ⟨rfl, hb5⟩
  rw [HK.out]
  have Own5 := hide (Own4.out.kept (row := none) (grown_of_below hb5) (by cases (Value.slice A2 n2 c2).ownBlock <;> simp))
  have Hb5 := hide (Hb4.out.trans (hb5.mono (by omega)))
  have HB5 := hide (HB4.out.trans (hb5.mono hz4))
  have hz5 : w4.heap.size ≤ w5.heap.size := hb5.size
  clear hb5 Own4
  go_wp2_with fail
  refine (i_JF s _ (by omega) (HVw.out.on Hb5.out)).mono ?_
  rintro e w6 ⟨v6, X6, m6, why6, rfl, hj, ⟨A6, n6, c6, rfl, own6⟩, hb6⟩
  rw [HJ.out] at hj
  injection hj with e1 e2
  injection e2 with e2 e3
  subst e1 e2 e3
  have HS6 := hide (Rcs.of_own own6)
  have hn6 : n6 ≤ maxLen := by have h1 := (Rcs.of_own own6).1; have h2 := HL.out; unfold maxLen; have h3 := (jf_text HJ.out).2.2.2.2.1; omega
  have Own6 := hide (Own5.out.kept (row := none) (grown_of_below hb6) (by cases (Value.slice A2 n2 c2).ownBlock <;> simp))
  have Hb6 := hide (Hb5.out.trans (hb6.mono (by omega)))
  have HB6 := hide (HB5.out.trans (hb6.mono (by omega)))
  have hz6 : w5.heap.size ≤ w6.heap.size := hb6.size
  have HR6 := hide (HR1.out.on HB6.out)
  clear hb6 own6 Own5
  go_wp2_with fail
  refine (e_eqRs A6 n6 c6 A1 n1 c1 X _ HS6.out HR6.out hn6).mono ?_
  rintro e w7 ⟨rfl, hb7⟩
  have Own7 := hide (Own6.out.kept (row := none) (grown_of_below hb7) (by cases (Value.slice A2 n2 c2).ownBlock <;> simp))
  have Hb7 := hide (Hb6.out.trans (hb7.mono (by omega)))
  have hz7 : w6.heap.size ≤ w7.heap.size := hb7.size
  clear hb7 Own6 HS6 HR6
  go_wp2_with fail
  refine (e_heldRs A2 n2 c2 1 _ (Rcs.of_own Own7.out) (by omega) (by omega) (by omega)).mono ?_
  rintro e w8 ⟨rfl, hb8⟩
  rw [HK.out]
  have Hb8 := hide (Hb7.out.trans (hb8.mono (by omega)))
  clear hb8
  go_wp2_with fail
  go_ret
  exact ⟨rfl, Hb8.out⟩
end Go.Proofs.YtmofnmklodmkmaaGreatDoor
