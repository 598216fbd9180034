/- Walk of the exact law of BoxesGet. -/
import Derived.Test.YtfncmkmhdddmiaaLExB
set_option linter.unusedVariables false
set_option linter.unusedSimpArgs false
namespace Go.Proofs.Ytfncmkmhdddmiaa
open Go.RowKit

set_option maxHeartbeats 4000000 in
theorem FnExactBoxesGet_walk (w : World) (A : Option Addr) (n c : Nat) (X : List Bx) (hL : Bxs w w.heap.size A n X) (hS : BSmall X) (hnc : n ≤ c) (hn : n ≤ maxLen) (s : ByteArray) (hsm : s.size ≤ maxLen) :
    Calls Try.prog 18 #[.slice A n c, .string s] w fun e w' => e = .returned (.bool true) ∧ Below w.heap.size w w' := by
  have HL := hide hL
  have HS := hide hS
  clear hL hS
  have HM := hide (bget_12 X s)
  by_cases hbig : 1048576 < s.size
  · unfold maxLen at hsm
    go_enter Try.func18, Try.ntmps18
    go_wp2_with fail
    go_ret
    exact ⟨rfl, Below.refl _ _⟩
  go_enter Try.func18, Try.ntmps18
  go_wp2_with fail
  refine (e_szB A n c X 1048576 _ HL.out HS.out hn (by omega)).mono ?_
  rintro e w0 ⟨rfl | ⟨r, rfl, hr⟩, hb0⟩
  · go_wp2_with fail
    go_ret
    exact ⟨rfl, hb0⟩
  have hnl : n ≤ 1048576 := by omega
  have htl : totI X ≤ 1048576 := by omega
  have HR := hide hr
  have HL0 := hide (HL.out.on hb0)
  have hr0 : ¬ ((r : Int) < 0) := by omega
  clear hr
  go_wp2_with fail
  refine (e_toB A n c X _ HL0.out hnl htl).mono ?_
  rintro e w1 ⟨rfl, ⟨Y1, e1, N1⟩, hb1'⟩
  have ST1 := hide (e1 ▸ N1.bxs)
  have HL1 := hide (HL0.out.on hb1')
  have hb1 := hb0.trans (hb1'.mono hb0.size)
  clear N1 e1 hb1' hb0
  go_wp2_with fail
  refine (s_BoxesGet _ n n X s _ ST1.out HS.out hn  ).mono ?_
  rintro e w2 ⟨v2, rfl, ⟨A2, n2, c2, rfl, own2⟩, hb2⟩
  have hb12 := hb1.trans (hb2.mono hb1.size)
  have HL2 := hide (HL1.out.on hb2)
  have ST2 := hide (Ints.of_own own2)
  have hn2 : n2 ≤ 12 := by have h1 := ST2.out.1; have h2 := HM.out; omega
  have hn2m : n2 ≤ maxLen := by unfold maxLen; omega
  clear own2
  go_wp2_with fail
  refine (e_toB A n c X _ HL2.out hnl htl).mono ?_
  rintro e w3 ⟨rfl, ⟨Y3, e3, N3⟩, hb3⟩
  have hb13 := hb12.trans (hb3.mono hb12.size)
  have ST3 := hide (e3 ▸ N3.bxs)
  have OWN3 := hide N3
  have HT3 : Hid (∀ b, WBlk (.slice (some ⟨w2.heap.size, 0, none⟩) n n) Y3 b → b < w3.heap.size) := fun b hb => (N3.lt hb).2
  have hcn : Hid (1 + cnt (lens Y3) ≤ 1500000) := by
    have h1 := cnt_lens Y3
    have h2 := N3.len
    have h3 := HR.out
    rw [e3] at h1
    show _ ≤ _
    omega
  have E3 := hide e3
  have hs3 := hb3.size
  have hs12 := hb1.size
  have hs22 := hb2.size
  clear N3 e3
  go_wp2_with fail
  refine (i_BoxesGet _ n n X s _ ST3.out HS.out hn  ).mono ?_
  rintro e w4 ⟨v4, rfl, ⟨A4, n4, c4, rfl, own4⟩, hb4⟩
  have hb14 := hb13.trans (hb4.mono hb13.size)
  have hB4 : Below w2.heap.size w2 w4 := hb3.trans (hb4.mono hb3.size)
  have OWN34 := hide (OWN3.out.below hb4)
  have OWN4 := hide own4
  have ST4 := hide (Ints.of_own own4)
  have hn4 : n4 ≤ 12 := by have h1 := ST4.out.1; have h2 := HM.out; omega
  have hn4m : n4 ≤ maxLen := by unfold maxLen; omega
  have hs34 := hb4.size
  clear own4 HL2 ST1 HL1 HL0 ST3
  go_wp2_with fail
  refine (e_eqI A4 n4 c4 A2 n2 c2 _ _ ST4.out ((ST2.out.below hB4).more hB4.size) hn4m).mono ?_
  rintro e w5 ⟨rfl, hb5⟩
  have hb15 := hb14.trans (hb5.mono hb14.size)
  have hB5 := hB4.trans (hb5.mono hB4.size)
  have OWN35 := hide (OWN34.out.below hb5)
  have OWN45 := hide (OWN4.out.kept (row := none) (grown_of_below hb5) (by cases (Value.slice A4 n4 c4).ownBlock <;> simp))
  clear OWN34 OWN4 ST4 hb5
  go_wp2_with fail
  refine (e_toB A n c X _ ((HL.out.below hb15).up hb15.size) hnl htl).mono ?_
  rintro e w6 ⟨rfl, ⟨Y6, e6, N6⟩, hb6⟩
  have hb16 := hb15.trans (hb6.mono hb15.size)
  have hB6 := hB5.trans (hb6.mono hB5.size)
  have OWN36 := hide (OWN35.out.below hb6)
  have OWN46 := hide (OWN45.out.kept (row := none) (grown_of_below hb6) (by cases (Value.slice A4 n4 c4).ownBlock <;> simp))
  have ST6 := hide (e6 ▸ N6.bxs)
  have ST36 := hide (E3.out ▸ OWN36.out.bxs)
  clear N6 e6 OWN35 OWN45 hb6
  go_wp2_with fail
  refine (e_eqB _ n n _ n n X _ ST36.out ST6.out hn).mono ?_
  rintro e w7 ⟨rfl, hb7⟩
  have hb17 := hb16.trans (hb7.mono hb16.size)
  have hB7 := hB6.trans (hb7.mono hB6.size)
  have OWN37 := hide (OWN36.out.below hb7)
  have OWN47 := hide (OWN46.out.kept (row := none) (grown_of_below hb7) (by cases (Value.slice A4 n4 c4).ownBlock <;> simp))
  clear OWN36 OWN46 ST6 ST36 hb7
  go_wp2_with fail
  refine (e_marksB w2.heap.size w3.heap.size _ n n 1 Y3 _ OWN37.out HT3.out (by omega) hcn.out).mono ?_
  rintro e w8 ⟨rfl, _, gr8⟩
  have hb18 : Below w.heap.size w w8 := gr8.below hb17 hb12.size hb17.size
  have hB8 : Below w2.heap.size w2 w8 := gr8.below hB7 (Nat.le_refl _) hB7.size
  have OWN48 := hide (gr8.row OWN47.out (Nat.le_refl _))
  have hk8 : ¬ (((1 + cnt (lens Y3) : Nat) : Int) < 0) := by omega
  clear gr8 OWN37 OWN47 HT3 hcn
  generalize 1 + cnt (lens Y3) = k8 at *
  go_wp2_with fail
  refine (e_eqI A4 n4 c4 A2 n2 c2 _ _ (Ints.of_own OWN48.out) ((ST2.out.below hB8).more hB8.size) hn4m).mono ?_
  rintro e w9 ⟨rfl, hb9⟩
  have hb19 := hb18.trans (hb9.mono hb18.size)
  have hB9 := hB8.trans (hb9.mono hB8.size)
  have OWN49 := hide (OWN48.out.kept (row := none) (grown_of_below hb9) (by cases (Value.slice A4 n4 c4).ownBlock <;> simp))
  clear OWN48 hb9
  go_wp2_with fail
  refine (e_marksI _ _ n4 c4 1 _ _ OWN49.out (by omega) (by omega) (by omega)).mono ?_
  rintro e w10 ⟨rfl, own10, gr10⟩
  have hb110 : Below w.heap.size w w10 := hb19.grown gr10 hb19.size (fun k hk => by have := (OWN49.out.lt k hk).1; omega)
  have hB10 : Below w2.heap.size w2 w10 := hB9.grown gr10 hB9.size (fun k hk => by have := (OWN49.out.lt k hk).1; omega)
  have OWN10 := hide own10
  clear own10 gr10 OWN49
  go_wp2_with fail
  refine (e_heldI A4 n4 c4 1 _ (Ints.of_own OWN10.out) (by omega) (by omega) (by omega)).mono ?_
  rintro e w11 ⟨rfl, hb11⟩
  have hb111 := hb110.trans (hb11.mono hb110.size)
  have hB11 := hB10.trans (hb11.mono hB10.size)
  have OWN11 := hide (OWN10.out.kept (row := none) (grown_of_below hb11) (by cases (Value.slice A4 n4 c4).ownBlock <;> simp))
  clear OWN10 hb11
  go_wp2_with fail
  refine (e_toB A n c X _ ((HL.out.below hb111).up hb111.size) hnl htl).mono ?_
  rintro e w12 ⟨rfl, ⟨Y12, e12, N12⟩, hb12'⟩
  have hb112 := hb111.trans (hb12'.mono hb111.size)
  have hB12 := hB11.trans (hb12'.mono hB11.size)
  have OWN12 := hide (OWN11.out.kept (row := none) (grown_of_below hb12') (by cases (Value.slice A4 n4 c4).ownBlock <;> simp))
  have ST12 := hide (e12 ▸ N12.bxs)
  clear OWN11 N12 e12 hb12'
  go_wp2_with fail
  refine (i_BoxesGet _ n n X s _ ST12.out HS.out hn  ).mono ?_
  rintro e w13 ⟨v13, rfl, ⟨A13, n13, c13, rfl, own13⟩, hb13'⟩
  have hb113 := hb112.trans (hb13'.mono hb112.size)
  have hB13 := hB12.trans (hb13'.mono hB12.size)
  have OWN13 := hide (OWN12.out.kept (row := none) (grown_of_below hb13') (by cases (Value.slice A4 n4 c4).ownBlock <;> simp))
  have ST13 := hide (Ints.of_own own13)
  have hn13 : n13 ≤ 12 := by have h1 := ST13.out.1; have h2 := HM.out; omega
  have hn13m : n13 ≤ maxLen := by unfold maxLen; omega
  clear OWN12 own13 hb13'
  go_wp2_with fail
  refine (e_eqI A13 n13 c13 A2 n2 c2 _ _ ST13.out ((ST2.out.below hB13).more hB13.size) hn13m).mono ?_
  rintro e w14 ⟨rfl, hb14'⟩
  have hb114 := hb113.trans (hb14'.mono hb113.size)
  have OWN14 := hide (OWN13.out.kept (row := none) (grown_of_below hb14') (by cases (Value.slice A4 n4 c4).ownBlock <;> simp))
  clear OWN13 ST13 hb14'
  go_wp2_with fail
  refine (e_heldI A4 n4 c4 1 _ (Ints.of_own OWN14.out) (by omega) (by omega) (by omega)).mono ?_
  rintro e w15 ⟨rfl, hb15'⟩
  go_wp2_with fail
  go_ret
  exact ⟨rfl, hb114.trans (hb15'.mono hb114.size)⟩
end Go.Proofs.Ytfncmkmhdddmiaa
