/- Walks of the exact laws of NamesPut and NamesDrop. -/
import Derived.Test.YtnipoaohkoancabEx2
import Derived.Test.YtnipoaohkoancabPut
import Derived.Test.YtnipoaohkoancabSPut
import Derived.Test.YtnipoaohkoancabOrd2
set_option linter.unusedVariables false
set_option linter.unusedSimpArgs false
namespace Go.Proofs.Ytnipoaohkoancab
open Go.RowKit
theorem own_cap2 {w : World} {base : Nat} {e : TypeId} {size : Nat} {A : Option Addr} {n c m : Nat} {xs : List Value} (h : w.ownsRow base e size (.slice A n c) m xs) : n ≤ c ∧ c ≤ maxLen := by
  rcases h.2 with ⟨h1, _⟩ | ⟨g, cap, cur, h1, _, _, h2, h3, _⟩
  · injection h1 with _ h1 h2
    subst h1 h2
    exact ⟨Nat.le_refl _, Nat.zero_le _⟩
  · injection h1 with _ h1 h4
    subst h1 h4
    exact ⟨h2, h3⟩
theorem grown_drewN (w : World) (n : Nat) {row : Option Nat} : w.grownBy (w.drewN n) row := ⟨rfl, rfl, rfl, Nat.le_refl _, fun _ _ _ => rfl⟩
/-- The whole of one of the two exact laws, behind a name. -/
theorem opt_len {M : Option (List ByteArray)} (h : ∀ K, M = some K → K.length ≤ 11) : (M.getD []).length ≤ 11 := by
  cases M with
  | none => exact Nat.zero_le _
  | some K => exact h K rfl
set_option maxHeartbeats 4000000 in
theorem FnExactNamesPut_walk (w : World) (A : Option Addr) (n c : Nat) (L : List ByteArray) (hL : Strs w w.heap.size A n L) (hS : Small L) (hnc : n ≤ c) (hn : n ≤ maxLen) (s : ByteArray) (hsm : s.size ≤ maxLen) :
    Calls Try.prog 3 #[.slice A n c, .string s] w fun e w' => e = .returned (.bool true) ∧ Below w.heap.size w w' := by
  have HL := hide hL
  have HS := hide hS
  clear hL hS
  have HM := hide (opt_len (M := putM L s) (fun K h => putM_len h))
  by_cases hbig : 1048576 < s.size
  · unfold maxLen at hsm
    go_enter Try.func3, Try.ntmps3
    go_wp2_with fail
    go_ret
    exact ⟨rfl, Below.refl _ _⟩
  go_enter Try.func3, Try.ntmps3
  go_wp2_with fail
  refine (e_sz A n c L 1048576 _ HL.out HS.out hn (by omega)).mono ?_
  rintro e w1 ⟨rfl | ⟨r, rfl, hr, hnl, hsl⟩, rfl⟩
  · go_wp2_with fail
    go_ret
    exact ⟨rfl, Below.refl _ _⟩
  clear hsl
  go_wp2_with fail
  refine (e_to A n c L _ HL.out hnl).mono ?_
  rintro e w1 ⟨rfl, own1, hb1⟩
  have ST1 := hide (Strs.of_own own1)
  have HL1 := hide ((HL.out.below hb1).more hb1.size)
  clear own1
  go_wp2_with fail
  refine (s_NamesPut _ n n L s _ ST1.out HS.out (Nat.le_refl _) hn hsm).mono ?_
  rintro e w2 ⟨v2, rfl, ⟨A2, n2, c2, rfl, own2⟩, hb2⟩
  have hb12 := hb1.trans (hb2.mono hb1.size)
  have HL2 := hide ((HL1.out.below hb2).more hb2.size)
  have hn2 : n2 ≤ 11 := by have h1 := own_len own2; have h2 := HM.out; omega
  have hn2m : n2 ≤ maxLen := by unfold maxLen; omega
  have ST2 := hide (Strs.of_own own2)
  clear own2
  go_wp2_with fail
  refine (e_to A n c L _ HL2.out hnl).mono ?_
  rintro e w3 ⟨rfl, own3, hb3⟩
  have hb13 := hb12.trans (hb3.mono hb12.size)
  have HL3 := hide ((HL2.out.below hb3).more hb3.size)
  have ST3 := hide (Strs.of_own own3)
  have OWN3 := hide own3
  have hs3 : w2.heap.size < w3.heap.size := (own3.lt _ rfl).2
  have hs12 := hb1.size
  have hs22 := hb2.size
  clear own3
  go_wp2_with fail
  refine (i_NamesPut _ n n L s _ ST3.out HS.out (Nat.le_refl _) hn hsm).mono ?_
  rintro e w4 ⟨v4, rfl, ⟨A4, n4, c4, rfl, own4⟩, hb4⟩
  have hb14 := hb13.trans (hb4.mono hb13.size)
  have hB4 : Below w2.heap.size w2 w4 := hb3.trans (hb4.mono hb3.size)
  have OWN34 := hide (OWN3.out.kept (grown_of_below hb4 (row := none)) (.inr (by simp [Value.ownBlock])))
  have hn4 : n4 ≤ 11 := by have h1 := own_len own4; have h2 := HM.out; omega
  have hn4m : n4 ≤ maxLen := by unfold maxLen; omega
  have OWN4 := hide own4
  have hs34 := hb4.size
  clear own4 HL2 HL3 ST1 HL1
  go_wp2_with fail
  refine (e_eq_t A4 n4 c4 A2 n2 c2 _ _ (Strs.of_own OWN4.out) ((ST2.out.below hB4).more hB4.size) hn4m hn2m).mono ?_
  rintro e w5 ⟨rfl, q5, rfl⟩
  have hb15 := below_drewN hb14 q5
  have hB5 := below_drewN hB4 q5
  have OWN35 := hide (OWN34.out.kept (row := none) (grown_drewN w4 q5) (.inr (by simp [Value.ownBlock])))
  have OWN45 := hide (OWN4.out.kept (row := none) (grown_drewN w4 q5) (by cases (Value.slice A4 n4 c4).ownBlock <;> simp))
  clear OWN34 OWN4
  generalize w4.drewN q5 = w5 at *
  go_wp2_with fail
  refine (e_to A n c L _ ((HL.out.below hb15).more hb15.size) hnl).mono ?_
  rintro e w6 ⟨rfl, own6, hb6⟩
  have hb16 := hb15.trans (hb6.mono hb15.size)
  have hB6 := hB5.trans (hb6.mono hB5.size)
  have OWN36 := hide (OWN35.out.kept (row := none) (grown_of_below hb6) (.inr (by simp [Value.ownBlock])))
  have OWN46 := hide (OWN45.out.kept (row := none) (grown_of_below hb6) (by cases (Value.slice A4 n4 c4).ownBlock <;> simp))
  have ST6 := hide (Strs.of_own own6)
  clear own6 OWN35 OWN45
  go_wp2_with fail
  refine (e_eq_t _ n n _ n n L _ (Strs.of_own OWN36.out) ST6.out hn hn).mono ?_
  rintro e w7 ⟨rfl, q7, rfl⟩
  have hb17 := below_drewN hb16 q7
  have hB7 := below_drewN hB6 q7
  have OWN37 := hide (OWN36.out.kept (row := none) (grown_drewN w6 q7) (.inr (by simp [Value.ownBlock])))
  have OWN47 := hide (OWN46.out.kept (row := none) (grown_drewN w6 q7) (by cases (Value.slice A4 n4 c4).ownBlock <;> simp))
  clear OWN36 OWN46 ST6 ST3
  generalize w6.drewN q7 = w7 at *
  go_wp2_with fail
  refine (e_marks _ _ n n 1 L _ OWN37.out (by omega) (by omega) (by omega)).mono ?_
  rintro e w8 ⟨rfl, own8, gr8⟩
  have hb18 : Below w.heap.size w w8 := hb17.grown gr8 hb17.size (fun k hk => by simp [Value.ownBlock] at hk; omega)
  have hB8 : Below w2.heap.size w2 w8 := hB7.grown gr8 hB7.size (fun k hk => by simp [Value.ownBlock] at hk; omega)
  have OWN48 := hide (OWN47.out.kept gr8 (.inr (fun h => by have := (OWN47.out.lt w2.heap.size (by rw [h]; rfl)).1; omega)))
  clear own8 gr8 OWN37 OWN47
  go_wp2_with fail
  refine (e_eq_t A4 n4 c4 A2 n2 c2 _ _ (Strs.of_own OWN48.out) ((ST2.out.below hB8).more hB8.size) hn4m hn2m).mono ?_
  rintro e w9 ⟨rfl, q9, rfl⟩
  have hb19 := below_drewN hb18 q9
  have hB9 := below_drewN hB8 q9
  have OWN49 := hide (OWN48.out.kept (row := none) (grown_drewN w8 q9) (by cases (Value.slice A4 n4 c4).ownBlock <;> simp))
  clear OWN48
  generalize w8.drewN q9 = w9 at *
  go_wp2_with fail
  refine (e_marks _ _ n4 c4 1 _ _ OWN49.out (by omega) (by omega) (by omega)).mono ?_
  rintro e w10 ⟨rfl, own10, gr10⟩
  have hb110 : Below w.heap.size w w10 := hb19.grown gr10 hb19.size (fun k hk => by have := (OWN49.out.lt k hk).1; omega)
  have hB10 : Below w2.heap.size w2 w10 := hB9.grown gr10 hB9.size (fun k hk => by have := (OWN49.out.lt k hk).1; omega)
  have OWN10 := hide own10
  clear own10 gr10 OWN49
  go_wp2_with fail
  refine (e_held A4 n4 c4 1 _ (Strs.of_own OWN10.out) (by omega) (by omega) (by omega)).mono ?_
  rintro e w11 ⟨rfl, hb11⟩
  have hb111 := hb110.trans (hb11.mono hb110.size)
  have hB11 := hB10.trans (hb11.mono hB10.size)
  have OWN11 := hide (OWN10.out.kept (row := none) (grown_of_below hb11) (by cases (Value.slice A4 n4 c4).ownBlock <;> simp))
  clear OWN10
  go_wp2_with fail
  refine (e_to A n c L _ ((HL.out.below hb111).more hb111.size) hnl).mono ?_
  rintro e w12 ⟨rfl, own12, hb12'⟩
  have hb112 := hb111.trans (hb12'.mono hb111.size)
  have hB12 := hB11.trans (hb12'.mono hB11.size)
  have OWN12 := hide (OWN11.out.kept (row := none) (grown_of_below hb12') (by cases (Value.slice A4 n4 c4).ownBlock <;> simp))
  have ST12 := hide (Strs.of_own own12)
  clear OWN11 own12
  go_wp2_with fail
  refine (i_NamesPut _ n n L s _ ST12.out HS.out (Nat.le_refl _) hn hsm).mono ?_
  rintro e w13 ⟨v13, rfl, ⟨A13, n13, c13, rfl, own13⟩, hb13'⟩
  have hb113 := hb112.trans (hb13'.mono hb112.size)
  have hB13 := hB12.trans (hb13'.mono hB12.size)
  have OWN13 := hide (OWN12.out.kept (row := none) (grown_of_below hb13') (by cases (Value.slice A4 n4 c4).ownBlock <;> simp))
  have ST13 := hide (Strs.of_own own13)
  have hn13 : n13 ≤ 11 := by have h1 := own_len own13; have h2 := HM.out; omega
  have hn13m : n13 ≤ maxLen := by unfold maxLen; omega
  clear OWN12 own13
  go_wp2_with fail
  refine (e_eq_t A13 n13 c13 A2 n2 c2 _ _ ST13.out ((ST2.out.below hB13).more hB13.size) hn13m hn2m).mono ?_
  rintro e w14 ⟨rfl, q14, rfl⟩
  have hb114 := below_drewN hb113 q14
  have OWN14 := hide (OWN13.out.kept (row := none) (grown_drewN w13 q14) (by cases (Value.slice A4 n4 c4).ownBlock <;> simp))
  clear OWN13 ST13
  generalize w13.drewN q14 = w14 at *
  go_wp2_with fail
  refine (e_held A4 n4 c4 1 _ (Strs.of_own OWN14.out) (by omega) (by omega) (by omega)).mono ?_
  rintro e w15 ⟨rfl, hb15'⟩
  go_wp2_with fail
  go_ret
  exact ⟨rfl, hb114.trans (hb15'.mono hb114.size)⟩
set_option maxHeartbeats 4000000 in
theorem FnExactNamesDrop_walk (w : World) (A : Option Addr) (n c : Nat) (L : List ByteArray) (hL : Strs w w.heap.size A n L) (hS : Small L) (hnc : n ≤ c) (hn : n ≤ maxLen) (s : ByteArray) (hsm : s.size ≤ maxLen) :
    Calls Try.prog 4 #[.slice A n c, .string s] w fun e w' => e = .returned (.bool true) ∧ Below w.heap.size w w' := by
  have HL := hide hL
  have HS := hide hS
  clear hL hS
  have HM := hide (opt_len (M := dropM L s) (fun K h => dropM_len h))
  by_cases hbig : 1048576 < s.size
  · unfold maxLen at hsm
    go_enter Try.func4, Try.ntmps4
    go_wp2_with fail
    go_ret
    exact ⟨rfl, Below.refl _ _⟩
  go_enter Try.func4, Try.ntmps4
  go_wp2_with fail
  refine (e_sz A n c L 1048576 _ HL.out HS.out hn (by omega)).mono ?_
  rintro e w1 ⟨rfl | ⟨r, rfl, hr, hnl, hsl⟩, rfl⟩
  · go_wp2_with fail
    go_ret
    exact ⟨rfl, Below.refl _ _⟩
  clear hsl
  go_wp2_with fail
  refine (e_to A n c L _ HL.out hnl).mono ?_
  rintro e w1 ⟨rfl, own1, hb1⟩
  have ST1 := hide (Strs.of_own own1)
  have HL1 := hide ((HL.out.below hb1).more hb1.size)
  clear own1
  go_wp2_with fail
  refine (s_NamesDrop _ n n L s _ ST1.out HS.out (Nat.le_refl _) hn ).mono ?_
  rintro e w2 ⟨v2, rfl, ⟨A2, n2, c2, rfl, own2⟩, hb2⟩
  have hb12 := hb1.trans (hb2.mono hb1.size)
  have HL2 := hide ((HL1.out.below hb2).more hb2.size)
  have hn2 : n2 ≤ 11 := by have h1 := own_len own2; have h2 := HM.out; omega
  have hn2m : n2 ≤ maxLen := by unfold maxLen; omega
  have ST2 := hide (Strs.of_own own2)
  clear own2
  go_wp2_with fail
  refine (e_to A n c L _ HL2.out hnl).mono ?_
  rintro e w3 ⟨rfl, own3, hb3⟩
  have hb13 := hb12.trans (hb3.mono hb12.size)
  have HL3 := hide ((HL2.out.below hb3).more hb3.size)
  have ST3 := hide (Strs.of_own own3)
  have OWN3 := hide own3
  have hs3 : w2.heap.size < w3.heap.size := (own3.lt _ rfl).2
  have hs12 := hb1.size
  have hs22 := hb2.size
  clear own3
  go_wp2_with fail
  refine (i_NamesDrop _ n n L s _ ST3.out HS.out (Nat.le_refl _) hn ).mono ?_
  rintro e w4 ⟨v4, rfl, ⟨A4, n4, c4, rfl, own4⟩, hb4⟩
  have hb14 := hb13.trans (hb4.mono hb13.size)
  have hB4 : Below w2.heap.size w2 w4 := hb3.trans (hb4.mono hb3.size)
  have OWN34 := hide (OWN3.out.kept (grown_of_below hb4 (row := none)) (.inr (by simp [Value.ownBlock])))
  have hn4 : n4 ≤ 11 := by have h1 := own_len own4; have h2 := HM.out; omega
  have hn4m : n4 ≤ maxLen := by unfold maxLen; omega
  have OWN4 := hide own4
  have hs34 := hb4.size
  clear own4 HL2 HL3 ST1 HL1
  go_wp2_with fail
  refine (e_eq_t A4 n4 c4 A2 n2 c2 _ _ (Strs.of_own OWN4.out) ((ST2.out.below hB4).more hB4.size) hn4m hn2m).mono ?_
  rintro e w5 ⟨rfl, q5, rfl⟩
  have hb15 := below_drewN hb14 q5
  have hB5 := below_drewN hB4 q5
  have OWN35 := hide (OWN34.out.kept (row := none) (grown_drewN w4 q5) (.inr (by simp [Value.ownBlock])))
  have OWN45 := hide (OWN4.out.kept (row := none) (grown_drewN w4 q5) (by cases (Value.slice A4 n4 c4).ownBlock <;> simp))
  clear OWN34 OWN4
  generalize w4.drewN q5 = w5 at *
  go_wp2_with fail
  refine (e_to A n c L _ ((HL.out.below hb15).more hb15.size) hnl).mono ?_
  rintro e w6 ⟨rfl, own6, hb6⟩
  have hb16 := hb15.trans (hb6.mono hb15.size)
  have hB6 := hB5.trans (hb6.mono hB5.size)
  have OWN36 := hide (OWN35.out.kept (row := none) (grown_of_below hb6) (.inr (by simp [Value.ownBlock])))
  have OWN46 := hide (OWN45.out.kept (row := none) (grown_of_below hb6) (by cases (Value.slice A4 n4 c4).ownBlock <;> simp))
  have ST6 := hide (Strs.of_own own6)
  clear own6 OWN35 OWN45
  go_wp2_with fail
  refine (e_eq_t _ n n _ n n L _ (Strs.of_own OWN36.out) ST6.out hn hn).mono ?_
  rintro e w7 ⟨rfl, q7, rfl⟩
  have hb17 := below_drewN hb16 q7
  have hB7 := below_drewN hB6 q7
  have OWN37 := hide (OWN36.out.kept (row := none) (grown_drewN w6 q7) (.inr (by simp [Value.ownBlock])))
  have OWN47 := hide (OWN46.out.kept (row := none) (grown_drewN w6 q7) (by cases (Value.slice A4 n4 c4).ownBlock <;> simp))
  clear OWN36 OWN46 ST6 ST3
  generalize w6.drewN q7 = w7 at *
  go_wp2_with fail
  refine (e_marks _ _ n n 1 L _ OWN37.out (by omega) (by omega) (by omega)).mono ?_
  rintro e w8 ⟨rfl, own8, gr8⟩
  have hb18 : Below w.heap.size w w8 := hb17.grown gr8 hb17.size (fun k hk => by simp [Value.ownBlock] at hk; omega)
  have hB8 : Below w2.heap.size w2 w8 := hB7.grown gr8 hB7.size (fun k hk => by simp [Value.ownBlock] at hk; omega)
  have OWN48 := hide (OWN47.out.kept gr8 (.inr (fun h => by have := (OWN47.out.lt w2.heap.size (by rw [h]; rfl)).1; omega)))
  clear own8 gr8 OWN37 OWN47
  go_wp2_with fail
  refine (e_eq_t A4 n4 c4 A2 n2 c2 _ _ (Strs.of_own OWN48.out) ((ST2.out.below hB8).more hB8.size) hn4m hn2m).mono ?_
  rintro e w9 ⟨rfl, q9, rfl⟩
  have hb19 := below_drewN hb18 q9
  have hB9 := below_drewN hB8 q9
  have OWN49 := hide (OWN48.out.kept (row := none) (grown_drewN w8 q9) (by cases (Value.slice A4 n4 c4).ownBlock <;> simp))
  clear OWN48
  generalize w8.drewN q9 = w9 at *
  go_wp2_with fail
  refine (e_marks _ _ n4 c4 1 _ _ OWN49.out (by omega) (by omega) (by omega)).mono ?_
  rintro e w10 ⟨rfl, own10, gr10⟩
  have hb110 : Below w.heap.size w w10 := hb19.grown gr10 hb19.size (fun k hk => by have := (OWN49.out.lt k hk).1; omega)
  have hB10 : Below w2.heap.size w2 w10 := hB9.grown gr10 hB9.size (fun k hk => by have := (OWN49.out.lt k hk).1; omega)
  have OWN10 := hide own10
  clear own10 gr10 OWN49
  go_wp2_with fail
  refine (e_held A4 n4 c4 1 _ (Strs.of_own OWN10.out) (by omega) (by omega) (by omega)).mono ?_
  rintro e w11 ⟨rfl, hb11⟩
  have hb111 := hb110.trans (hb11.mono hb110.size)
  have hB11 := hB10.trans (hb11.mono hB10.size)
  have OWN11 := hide (OWN10.out.kept (row := none) (grown_of_below hb11) (by cases (Value.slice A4 n4 c4).ownBlock <;> simp))
  clear OWN10
  go_wp2_with fail
  refine (e_to A n c L _ ((HL.out.below hb111).more hb111.size) hnl).mono ?_
  rintro e w12 ⟨rfl, own12, hb12'⟩
  have hb112 := hb111.trans (hb12'.mono hb111.size)
  have hB12 := hB11.trans (hb12'.mono hB11.size)
  have OWN12 := hide (OWN11.out.kept (row := none) (grown_of_below hb12') (by cases (Value.slice A4 n4 c4).ownBlock <;> simp))
  have ST12 := hide (Strs.of_own own12)
  clear OWN11 own12
  go_wp2_with fail
  refine (i_NamesDrop _ n n L s _ ST12.out HS.out (Nat.le_refl _) hn ).mono ?_
  rintro e w13 ⟨v13, rfl, ⟨A13, n13, c13, rfl, own13⟩, hb13'⟩
  have hb113 := hb112.trans (hb13'.mono hb112.size)
  have hB13 := hB12.trans (hb13'.mono hB12.size)
  have OWN13 := hide (OWN12.out.kept (row := none) (grown_of_below hb13') (by cases (Value.slice A4 n4 c4).ownBlock <;> simp))
  have ST13 := hide (Strs.of_own own13)
  have hn13 : n13 ≤ 11 := by have h1 := own_len own13; have h2 := HM.out; omega
  have hn13m : n13 ≤ maxLen := by unfold maxLen; omega
  clear OWN12 own13
  go_wp2_with fail
  refine (e_eq_t A13 n13 c13 A2 n2 c2 _ _ ST13.out ((ST2.out.below hB13).more hB13.size) hn13m hn2m).mono ?_
  rintro e w14 ⟨rfl, q14, rfl⟩
  have hb114 := below_drewN hb113 q14
  have OWN14 := hide (OWN13.out.kept (row := none) (grown_drewN w13 q14) (by cases (Value.slice A4 n4 c4).ownBlock <;> simp))
  clear OWN13 ST13
  generalize w13.drewN q14 = w14 at *
  go_wp2_with fail
  refine (e_held A4 n4 c4 1 _ (Strs.of_own OWN14.out) (by omega) (by omega) (by omega)).mono ?_
  rintro e w15 ⟨rfl, hb15'⟩
  go_wp2_with fail
  go_ret
  exact ⟨rfl, hb114.trans (hb15'.mono hb114.size)⟩
end Go.Proofs.Ytnipoaohkoancab
