/- Walks of the exact laws of posts. -/
import Derived.Test.YtfncmkmhdddmiabExI
set_option linter.unusedVariables false
set_option linter.unusedSimpArgs false
namespace Go.Proofs.Ytfncmkmhdddmiab
open Go.RowKit

set_option maxHeartbeats 2000000 in
theorem FnExactPostsValid_walk (w : World) (A : Option Addr) (n c : Nat) (X : List Pst) (hL : Psts w w.heap.size A n X) (hS : PSmall X) (hnc : n ≤ c) (hn : n ≤ maxLen) :
    Calls Try.prog 12 #[.slice A n c] w fun e w' => e = .returned (.bool true) ∧ Below w.heap.size w w' := by
  have HL := hide hL
  have HS := hide hS
  clear hL hS
  go_enter Try.func12, Try.ntmps12
  go_wp2_with fail
  refine (e_szP A n c X 1048576 _ HL.out HS.out hn (by omega)).mono ?_
  rintro e w0 ⟨rfl | ⟨r, rfl, hr, hnl⟩, hb0⟩
  · go_wp2_with fail
    go_ret
    exact ⟨rfl, hb0⟩
  have HL0 := hide (HL.out.on hb0)
  have hr0 : ¬ ((r : Int) < 0) := by omega
  go_wp2_with fail
  refine (e_toP A n c X _ HL0.out hnl).mono ?_
  rintro e w1 ⟨rfl, own1, hb1'⟩
  have ST1 := hide (Psts.of_own own1)
  have HL1 := hide (HL0.out.on hb1')
  have hb1 := hb0.trans (hb1'.mono hb0.size)
  clear own1 hb1' hb0
  go_wp2_with fail
  refine (s_Ps _ n n X _ ST1.out HS.out hn).mono ?_
  rintro e w2 ⟨rfl, hb2⟩
  have hb12 := hb1.trans (hb2.mono hb1.size)
  have HL2 := hide (HL1.out.on hb2)
  clear hb2
  go_wp2_with fail
  refine (e_toP A n c X _ HL2.out hnl).mono ?_
  rintro e w3 ⟨rfl, own3, hb3⟩
  have hb13 := hb12.trans (hb3.mono hb12.size)
  have ST3 := hide (Psts.of_own own3)
  have HL3 := hide (HL2.out.on hb3)
  clear own3 hb3
  go_wp2_with fail
  refine (i_Ps _ n n X _ ST3.out HS.out hn).mono ?_
  rintro e w4 ⟨rfl, hb4⟩
  have hb14 := hb13.trans (hb4.mono hb13.size)
  have HL4 := hide (HL3.out.on hb4)
  have ST34 := hide (ST3.out.on hb4)
  clear hb4
  go_wp2_with fail
  refine (e_toP A n c X _ HL4.out hnl).mono ?_
  rintro e w5 ⟨rfl, own5, hb5⟩
  have ST5 := hide (Psts.of_own own5)
  have ST35 := hide (ST34.out.on hb5)
  have hb15 := hb14.trans (hb5.mono hb14.size)
  clear own5 hb5
  go_wp2_with fail
  refine (e_eqP _ n n _ n n X _ ST35.out ST5.out hn).mono ?_
  rintro e w6 ⟨rfl, hb6⟩
  go_wp2_with fail
  go_ret
  exact ⟨rfl, hb15.trans (hb6.mono hb15.size)⟩

set_option maxHeartbeats 2000000 in
theorem FnExactPostsAuthor_walk (w : World) (A : Option Addr) (n c : Nat) (X : List Pst) (hL : Psts w w.heap.size A n X) (hS : PSmall X) (hnc : n ≤ c) (hn : n ≤ maxLen) (i : Int) (_ : (Lit.int .i64 i).wf = true) :
    Calls Try.prog 15 #[.slice A n c, .int .i64 i] w fun e w' => e = .returned (.bool true) ∧ Below w.heap.size w w' := by
  have HL := hide hL
  have HS := hide hS
  clear hL hS
  go_enter Try.func15, Try.ntmps15
  go_wp2_with fail
  refine (e_szP A n c X 1048576 _ HL.out HS.out hn (by omega)).mono ?_
  rintro e w0 ⟨rfl | ⟨r, rfl, hr, hnl⟩, hb0⟩
  · go_wp2_with fail
    go_ret
    exact ⟨rfl, hb0⟩
  have HL0 := hide (HL.out.on hb0)
  have hr0 : ¬ ((r : Int) < 0) := by omega
  go_wp2_with fail
  refine (e_toP A n c X _ HL0.out hnl).mono ?_
  rintro e w1 ⟨rfl, own1, hb1'⟩
  have ST1 := hide (Psts.of_own own1)
  have HL1 := hide (HL0.out.on hb1')
  have hb1 := hb0.trans (hb1'.mono hb0.size)
  clear own1 hb1' hb0
  go_wp2_with fail
  refine (s_pau _ n n X i _ ST1.out HS.out hn).mono ?_
  rintro e w2 ⟨rfl, hb2⟩
  have hb12 := hb1.trans (hb2.mono hb1.size)
  have HL2 := hide (HL1.out.on hb2)
  clear hb2
  go_wp2_with fail
  refine (e_toP A n c X _ HL2.out hnl).mono ?_
  rintro e w3 ⟨rfl, own3, hb3⟩
  have hb13 := hb12.trans (hb3.mono hb12.size)
  have ST3 := hide (Psts.of_own own3)
  have HL3 := hide (HL2.out.on hb3)
  clear own3 hb3
  go_wp2_with fail
  refine (i_pau _ n n X i _ ST3.out HS.out hn).mono ?_
  rintro e w4 ⟨rfl, hb4⟩
  have hb14 := hb13.trans (hb4.mono hb13.size)
  have HL4 := hide (HL3.out.on hb4)
  have ST34 := hide (ST3.out.on hb4)
  clear hb4
  go_wp2_with fail
  refine (e_toP A n c X _ HL4.out hnl).mono ?_
  rintro e w5 ⟨rfl, own5, hb5⟩
  have ST5 := hide (Psts.of_own own5)
  have ST35 := hide (ST34.out.on hb5)
  have hb15 := hb14.trans (hb5.mono hb14.size)
  clear own5 hb5
  go_wp2_with fail
  refine (e_eqP _ n n _ n n X _ ST35.out ST5.out hn).mono ?_
  rintro e w6 ⟨rfl, hb6⟩
  go_wp2_with fail
  go_ret
  exact ⟨rfl, hb15.trans (hb6.mono hb15.size)⟩

set_option maxHeartbeats 4000000 in
theorem FnExactPostsOf_walk (w : World) (A : Option Addr) (n c : Nat) (X : List Pst) (hL : Psts w w.heap.size A n X) (hS : PSmall X) (hnc : n ≤ c) (hn : n ≤ maxLen) (s : ByteArray) (hsm : s.size ≤ maxLen) :
    Calls Try.prog 14 #[.slice A n c, .string s] w fun e w' => e = .returned (.bool true) ∧ Below w.heap.size w w' := by
  have HL := hide hL
  have HS := hide hS
  clear hL hS
  have HM := hide (pof_12 X s)
  by_cases hbig : 1048576 < s.size
  · unfold maxLen at hsm
    go_enter Try.func14, Try.ntmps14
    go_wp2_with fail
    go_ret
    exact ⟨rfl, Below.refl _ _⟩
  go_enter Try.func14, Try.ntmps14
  go_wp2_with fail
  refine (e_szP A n c X 1048576 _ HL.out HS.out hn (by omega)).mono ?_
  rintro e w0 ⟨rfl | ⟨r, rfl, hr, hnl⟩, hb0⟩
  · go_wp2_with fail
    go_ret
    exact ⟨rfl, hb0⟩
  have HL0 := hide (HL.out.on hb0)
  have hr0 : ¬ ((r : Int) < 0) := by omega
  go_wp2_with fail
  refine (e_toP A n c X _ HL0.out hnl).mono ?_
  rintro e w1 ⟨rfl, own1, hb1'⟩
  have ST1 := hide (Psts.of_own own1)
  have HL1 := hide (HL0.out.on hb1')
  have hb1 := hb0.trans (hb1'.mono hb0.size)
  clear own1 hb1' hb0
  go_wp2_with fail
  refine (s_pof _ n n X s _ ST1.out HS.out hn (by omega)).mono ?_
  intro e w2 ho
  obtain ⟨A2, n2, c2, z2, rfl, hz2, own2, hb2⟩ := own1I_row ho
  have hb12 := hb1.trans (hb2.mono hb1.size)
  have HL2 := hide (HL1.out.on hb2)
  have ST2 := hide (Ints.of_own own2)
  have hn2 : n2 ≤ 12 := by have h1 := ST2.out.1; have h2 := HM.out; omega
  have hn2m : n2 ≤ maxLen := by unfold maxLen; omega
  clear own2 ho
  go_wp2_with fail
  refine (e_toP A n c X _ HL2.out hnl).mono ?_
  rintro e w3 ⟨rfl, own3, hb3⟩
  have hb13 := hb12.trans (hb3.mono hb12.size)
  have ST3 := hide (Psts.of_own own3)
  have OWN3 := hide own3
  have hs3 : w2.heap.size < w3.heap.size := (own3.lt _ rfl).2
  have hs12 := hb1.size
  have hs22 := hb2.size
  clear own3
  go_wp2_with fail
  refine (i_pof _ n n X s _ ST3.out HS.out hn  ).mono ?_
  intro e w4 ho
  obtain ⟨A4, n4, c4, z4, rfl, hz4, own4, hb4⟩ := own1I_row ho
  have hb14 := hb13.trans (hb4.mono hb13.size)
  have hB4 : Below w2.heap.size w2 w4 := hb3.trans (hb4.mono hb3.size)
  have OWN34 := hide (OWN3.out.kept (grown_of_below hb4 (row := none)) (.inr (by simp [Value.ownBlock])))
  have OWN4 := hide own4
  have ST4 := hide (Ints.of_own own4)
  have hn4 : n4 ≤ 12 := by have h1 := ST4.out.1; have h2 := HM.out; omega
  have hn4m : n4 ≤ maxLen := by unfold maxLen; omega
  have hs34 := hb4.size
  obtain rfl : z4 = z2 := hz4.out.trans hz2.out.symm
  clear own4 HL2 ST1 HL1 HL0 ST3 ho hz4
  go_wp2_with fail
  refine (e_eqI A4 n4 c4 A2 n2 c2 _ _ ST4.out ((ST2.out.below hB4).more hB4.size) hn4m).mono ?_
  rintro e w5 ⟨rfl, hb5⟩
  have hb15 := hb14.trans (hb5.mono hb14.size)
  have hB5 := hB4.trans (hb5.mono hB4.size)
  have OWN35 := hide (OWN34.out.kept (row := none) (grown_of_below hb5) (.inr (by simp [Value.ownBlock])))
  have OWN45 := hide (OWN4.out.kept (row := none) (grown_of_below hb5) (by cases (Value.slice A4 n4 c4).ownBlock <;> simp))
  clear OWN34 OWN4 ST4 hb5
  go_wp2_with fail
  refine (e_toP A n c X _ ((HL.out.below hb15).more hb15.size) hnl).mono ?_
  rintro e w6 ⟨rfl, own6, hb6⟩
  have hb16 := hb15.trans (hb6.mono hb15.size)
  have hB6 := hB5.trans (hb6.mono hB5.size)
  have OWN36 := hide (OWN35.out.kept (row := none) (grown_of_below hb6) (.inr (by simp [Value.ownBlock])))
  have OWN46 := hide (OWN45.out.kept (row := none) (grown_of_below hb6) (by cases (Value.slice A4 n4 c4).ownBlock <;> simp))
  have ST6 := hide (Psts.of_own own6)
  clear own6 OWN35 OWN45 hb6
  go_wp2_with fail
  refine (e_eqP _ n n _ n n X _ (Psts.of_own OWN36.out) ST6.out hn).mono ?_
  rintro e w7 ⟨rfl, hb7⟩
  have hb17 := hb16.trans (hb7.mono hb16.size)
  have hB7 := hB6.trans (hb7.mono hB6.size)
  have OWN37 := hide (OWN36.out.kept (row := none) (grown_of_below hb7) (.inr (by simp [Value.ownBlock])))
  have OWN47 := hide (OWN46.out.kept (row := none) (grown_of_below hb7) (by cases (Value.slice A4 n4 c4).ownBlock <;> simp))
  clear OWN36 OWN46 ST6 hb7
  go_wp2_with fail
  refine (e_marksP _ _ n n 1 X _ OWN37.out (by omega) (by omega) (by omega)).mono ?_
  rintro e w8 ⟨rfl, own8, gr8⟩
  have hb18 : Below w.heap.size w w8 := hb17.grown gr8 hb17.size (fun k hk => by simp [Value.ownBlock] at hk; omega)
  have hB8 : Below w2.heap.size w2 w8 := hB7.grown gr8 hB7.size (fun k hk => by simp [Value.ownBlock] at hk; omega)
  have OWN48 := hide (OWN47.out.kept gr8 (.inr (fun h => by have := (OWN47.out.lt w2.heap.size (by rw [h]; rfl)).1; omega)))
  have hk8 : ¬ (((1 + 2 * n : Nat) : Int) < 0) := by omega
  clear own8 gr8 OWN37 OWN47
  generalize 1 + 2 * n = k8 at *
  go_wp2_with fail
  refine (e_eqI A4 n4 c4 A2 n2 c2 _ _ (Ints.of_own OWN48.out) ((ST2.out.below hB8).more hB8.size) hn4m).mono ?_
  rintro e w9 ⟨rfl, hb9⟩
  have hb19 := hb18.trans (hb9.mono hb18.size)
  have hB9 := hB8.trans (hb9.mono hB8.size)
  have OWN49 := hide (OWN48.out.kept (row := none) (grown_of_below hb9) (by cases (Value.slice A4 n4 c4).ownBlock <;> simp))
  clear OWN48 hb9
  go_wp2_with fail
  refine (e_marksI _ _ n4 c4 1 _ _ OWN49.out (by omega) (by omega) (by omega)).mono ?_
  rintro e w10 ⟨rfl, own10, gr10⟩
  have hb110 : Below w.heap.size w w10 := hb19.grown gr10 hb19.size (fun k hk => by have := (OWN49.out.lt k hk).1; omega)
  have hB10 : Below w2.heap.size w2 w10 := hB9.grown gr10 hB9.size (fun k hk => by have := (OWN49.out.lt k hk).1; omega)
  have OWN10 := hide own10
  clear own10 gr10 OWN49
  go_wp2_with fail
  refine (e_heldI A4 n4 c4 1 _ (Ints.of_own OWN10.out) (by omega) (by omega) (by omega)).mono ?_
  rintro e w11 ⟨rfl, hb11⟩
  have hb111 := hb110.trans (hb11.mono hb110.size)
  have hB11 := hB10.trans (hb11.mono hB10.size)
  have OWN11 := hide (OWN10.out.kept (row := none) (grown_of_below hb11) (by cases (Value.slice A4 n4 c4).ownBlock <;> simp))
  clear OWN10 hb11
  go_wp2_with fail
  refine (e_toP A n c X _ ((HL.out.below hb111).more hb111.size) hnl).mono ?_
  rintro e w12 ⟨rfl, own12, hb12'⟩
  have hb112 := hb111.trans (hb12'.mono hb111.size)
  have hB12 := hB11.trans (hb12'.mono hB11.size)
  have OWN12 := hide (OWN11.out.kept (row := none) (grown_of_below hb12') (by cases (Value.slice A4 n4 c4).ownBlock <;> simp))
  have ST12 := hide (Psts.of_own own12)
  clear OWN11 own12 hb12'
  go_wp2_with fail
  refine (i_pof _ n n X s _ ST12.out HS.out hn  ).mono ?_
  intro e w13 ho
  obtain ⟨A13, n13, c13, z13, rfl, hz13, own13, hb13'⟩ := own1I_row ho
  have hb113 := hb112.trans (hb13'.mono hb112.size)
  have hB13 := hB12.trans (hb13'.mono hB12.size)
  have OWN13 := hide (OWN12.out.kept (row := none) (grown_of_below hb13') (by cases (Value.slice A4 n4 c4).ownBlock <;> simp))
  have ST13 := hide (Ints.of_own own13)
  have hn13 : n13 ≤ 12 := by have h1 := ST13.out.1; have h2 := HM.out; omega
  have hn13m : n13 ≤ maxLen := by unfold maxLen; omega
  obtain rfl : z13 = z4 := hz13.out.trans hz2.out.symm
  clear OWN12 own13 ho hz13 hb13'
  go_wp2_with fail
  refine (e_eqI A13 n13 c13 A2 n2 c2 _ _ ST13.out ((ST2.out.below hB13).more hB13.size) hn13m).mono ?_
  rintro e w14 ⟨rfl, hb14'⟩
  have hb114 := hb113.trans (hb14'.mono hb113.size)
  have OWN14 := hide (OWN13.out.kept (row := none) (grown_of_below hb14') (by cases (Value.slice A4 n4 c4).ownBlock <;> simp))
  clear OWN13 ST13 hb14'
  go_wp2_with fail
  refine (e_heldI A4 n4 c4 1 _ (Ints.of_own OWN14.out) (by omega) (by omega) (by omega)).mono ?_
  rintro e w15 ⟨rfl, hb15'⟩
  go_wp2_with fail
  go_ret
  exact ⟨rfl, hb114.trans (hb15'.mono hb114.size)⟩

set_option maxHeartbeats 4000000 in
theorem FnExactPostsAdd_walk (w : World) (A : Option Addr) (n c : Nat) (X : List Pst) (hL : Psts w w.heap.size A n X) (hS : PSmall X) (hnc : n ≤ c) (hn : n ≤ maxLen) (s : ByteArray) (hsm : s.size ≤ maxLen) :
    Calls Try.prog 13 #[.slice A n c, .string s] w fun e w' => e = .returned (.bool true) ∧ Below w.heap.size w w' := by
  have HL := hide hL
  have HS := hide hS
  clear hL hS
  have HM := hide (padd_12 X s)
  by_cases hbig : 1048576 < s.size
  · unfold maxLen at hsm
    go_enter Try.func13, Try.ntmps13
    go_wp2_with fail
    go_ret
    exact ⟨rfl, Below.refl _ _⟩
  go_enter Try.func13, Try.ntmps13
  go_wp2_with fail
  refine (e_szP A n c X 1048576 _ HL.out HS.out hn (by omega)).mono ?_
  rintro e w0 ⟨rfl | ⟨r, rfl, hr, hnl⟩, hb0⟩
  · go_wp2_with fail
    go_ret
    exact ⟨rfl, hb0⟩
  have HL0 := hide (HL.out.on hb0)
  have hr0 : ¬ ((r : Int) < 0) := by omega
  go_wp2_with fail
  refine (e_toP A n c X _ HL0.out hnl).mono ?_
  rintro e w1 ⟨rfl, own1, hb1'⟩
  have ST1 := hide (Psts.of_own own1)
  have HL1 := hide (HL0.out.on hb1')
  have hb1 := hb0.trans (hb1'.mono hb0.size)
  clear own1 hb1' hb0
  go_wp2_with fail
  refine (s_padd _ n n X s _ ST1.out HS.out hn hsm (by omega)).mono ?_
  intro e w2 ho
  obtain ⟨A2, n2, c2, z2, rfl, hz2, own2, hb2⟩ := own2P_row ho
  have hb12 := hb1.trans (hb2.mono hb1.size)
  have HL2 := hide (HL1.out.on hb2)
  have ST2 := hide (Psts.of_own own2)
  have hn2 : n2 ≤ 12 := by have h1 := ST2.out.1; have h2 := HM.out; omega
  have hn2m : n2 ≤ maxLen := by unfold maxLen; omega
  clear own2 ho
  go_wp2_with fail
  refine (e_toP A n c X _ HL2.out hnl).mono ?_
  rintro e w3 ⟨rfl, own3, hb3⟩
  have hb13 := hb12.trans (hb3.mono hb12.size)
  have ST3 := hide (Psts.of_own own3)
  have OWN3 := hide own3
  have hs3 : w2.heap.size < w3.heap.size := (own3.lt _ rfl).2
  have hs12 := hb1.size
  have hs22 := hb2.size
  clear own3
  go_wp2_with fail
  refine (i_padd _ n n X s _ ST3.out HS.out hn hsm).mono ?_
  intro e w4 ho
  obtain ⟨A4, n4, c4, z4, rfl, hz4, own4, hb4⟩ := own2P_row ho
  have hb14 := hb13.trans (hb4.mono hb13.size)
  have hB4 : Below w2.heap.size w2 w4 := hb3.trans (hb4.mono hb3.size)
  have OWN34 := hide (OWN3.out.kept (grown_of_below hb4 (row := none)) (.inr (by simp [Value.ownBlock])))
  have OWN4 := hide own4
  have ST4 := hide (Psts.of_own own4)
  have hn4 : n4 ≤ 12 := by have h1 := ST4.out.1; have h2 := HM.out; omega
  have hn4m : n4 ≤ maxLen := by unfold maxLen; omega
  have hs34 := hb4.size
  obtain rfl : z4 = z2 := hz4.out.trans hz2.out.symm
  clear own4 HL2 ST1 HL1 HL0 ST3 ho hz4
  go_wp2_with fail
  refine (e_eqP A4 n4 c4 A2 n2 c2 _ _ ST4.out ((ST2.out.below hB4).more hB4.size) hn4m).mono ?_
  rintro e w5 ⟨rfl, hb5⟩
  have hb15 := hb14.trans (hb5.mono hb14.size)
  have hB5 := hB4.trans (hb5.mono hB4.size)
  have OWN35 := hide (OWN34.out.kept (row := none) (grown_of_below hb5) (.inr (by simp [Value.ownBlock])))
  have OWN45 := hide (OWN4.out.kept (row := none) (grown_of_below hb5) (by cases (Value.slice A4 n4 c4).ownBlock <;> simp))
  clear OWN34 OWN4 ST4 hb5
  go_wp2_with fail
  refine (e_toP A n c X _ ((HL.out.below hb15).more hb15.size) hnl).mono ?_
  rintro e w6 ⟨rfl, own6, hb6⟩
  have hb16 := hb15.trans (hb6.mono hb15.size)
  have hB6 := hB5.trans (hb6.mono hB5.size)
  have OWN36 := hide (OWN35.out.kept (row := none) (grown_of_below hb6) (.inr (by simp [Value.ownBlock])))
  have OWN46 := hide (OWN45.out.kept (row := none) (grown_of_below hb6) (by cases (Value.slice A4 n4 c4).ownBlock <;> simp))
  have ST6 := hide (Psts.of_own own6)
  clear own6 OWN35 OWN45 hb6
  go_wp2_with fail
  refine (e_eqP _ n n _ n n X _ (Psts.of_own OWN36.out) ST6.out hn).mono ?_
  rintro e w7 ⟨rfl, hb7⟩
  have hb17 := hb16.trans (hb7.mono hb16.size)
  have hB7 := hB6.trans (hb7.mono hB6.size)
  have OWN37 := hide (OWN36.out.kept (row := none) (grown_of_below hb7) (.inr (by simp [Value.ownBlock])))
  have OWN47 := hide (OWN46.out.kept (row := none) (grown_of_below hb7) (by cases (Value.slice A4 n4 c4).ownBlock <;> simp))
  clear OWN36 OWN46 ST6 hb7
  go_wp2_with fail
  refine (e_marksP _ _ n n 1 X _ OWN37.out (by omega) (by omega) (by omega)).mono ?_
  rintro e w8 ⟨rfl, own8, gr8⟩
  have hb18 : Below w.heap.size w w8 := hb17.grown gr8 hb17.size (fun k hk => by simp [Value.ownBlock] at hk; omega)
  have hB8 : Below w2.heap.size w2 w8 := hB7.grown gr8 hB7.size (fun k hk => by simp [Value.ownBlock] at hk; omega)
  have OWN48 := hide (OWN47.out.kept gr8 (.inr (fun h => by have := (OWN47.out.lt w2.heap.size (by rw [h]; rfl)).1; omega)))
  have hk8 : ¬ (((1 + 2 * n : Nat) : Int) < 0) := by omega
  clear own8 gr8 OWN37 OWN47
  generalize 1 + 2 * n = k8 at *
  go_wp2_with fail
  refine (e_eqP A4 n4 c4 A2 n2 c2 _ _ (Psts.of_own OWN48.out) ((ST2.out.below hB8).more hB8.size) hn4m).mono ?_
  rintro e w9 ⟨rfl, hb9⟩
  have hb19 := hb18.trans (hb9.mono hb18.size)
  have hB9 := hB8.trans (hb9.mono hB8.size)
  have OWN49 := hide (OWN48.out.kept (row := none) (grown_of_below hb9) (by cases (Value.slice A4 n4 c4).ownBlock <;> simp))
  clear OWN48 hb9
  go_wp2_with fail
  refine (e_marksP _ _ n4 c4 1 _ _ OWN49.out (by omega) (by omega) (by omega)).mono ?_
  rintro e w10 ⟨rfl, own10, gr10⟩
  have hb110 : Below w.heap.size w w10 := hb19.grown gr10 hb19.size (fun k hk => by have := (OWN49.out.lt k hk).1; omega)
  have hB10 : Below w2.heap.size w2 w10 := hB9.grown gr10 hB9.size (fun k hk => by have := (OWN49.out.lt k hk).1; omega)
  have OWN10 := hide own10
  clear own10 gr10 OWN49
  go_wp2_with fail
  refine (e_heldP A4 n4 c4 1 _ (Psts.of_own OWN10.out) (by omega) (by omega) (by omega)).mono ?_
  rintro e w11 ⟨rfl, hb11⟩
  have hb111 := hb110.trans (hb11.mono hb110.size)
  have hB11 := hB10.trans (hb11.mono hB10.size)
  have OWN11 := hide (OWN10.out.kept (row := none) (grown_of_below hb11) (by cases (Value.slice A4 n4 c4).ownBlock <;> simp))
  clear OWN10 hb11
  go_wp2_with fail
  refine (e_toP A n c X _ ((HL.out.below hb111).more hb111.size) hnl).mono ?_
  rintro e w12 ⟨rfl, own12, hb12'⟩
  have hb112 := hb111.trans (hb12'.mono hb111.size)
  have hB12 := hB11.trans (hb12'.mono hB11.size)
  have OWN12 := hide (OWN11.out.kept (row := none) (grown_of_below hb12') (by cases (Value.slice A4 n4 c4).ownBlock <;> simp))
  have ST12 := hide (Psts.of_own own12)
  clear OWN11 own12 hb12'
  go_wp2_with fail
  refine (i_padd _ n n X s _ ST12.out HS.out hn hsm).mono ?_
  intro e w13 ho
  obtain ⟨A13, n13, c13, z13, rfl, hz13, own13, hb13'⟩ := own2P_row ho
  have hb113 := hb112.trans (hb13'.mono hb112.size)
  have hB13 := hB12.trans (hb13'.mono hB12.size)
  have OWN13 := hide (OWN12.out.kept (row := none) (grown_of_below hb13') (by cases (Value.slice A4 n4 c4).ownBlock <;> simp))
  have ST13 := hide (Psts.of_own own13)
  have hn13 : n13 ≤ 12 := by have h1 := ST13.out.1; have h2 := HM.out; omega
  have hn13m : n13 ≤ maxLen := by unfold maxLen; omega
  obtain rfl : z13 = z4 := hz13.out.trans hz2.out.symm
  clear OWN12 own13 ho hz13 hb13'
  go_wp2_with fail
  refine (e_eqP A13 n13 c13 A2 n2 c2 _ _ ST13.out ((ST2.out.below hB13).more hB13.size) hn13m).mono ?_
  rintro e w14 ⟨rfl, hb14'⟩
  have hb114 := hb113.trans (hb14'.mono hb113.size)
  have OWN14 := hide (OWN13.out.kept (row := none) (grown_of_below hb14') (by cases (Value.slice A4 n4 c4).ownBlock <;> simp))
  clear OWN13 ST13 hb14'
  go_wp2_with fail
  refine (e_heldP A4 n4 c4 1 _ (Psts.of_own OWN14.out) (by omega) (by omega) (by omega)).mono ?_
  rintro e w15 ⟨rfl, hb15'⟩
  go_wp2_with fail
  go_ret
  exact ⟨rfl, hb114.trans (hb15'.mono hb114.size)⟩
end Go.Proofs.Ytfncmkmhdddmiab
