/- Walks of the exact laws of BoxesValid, BoxesPut, BoxesGet. -/
import Derived.Test.YtfncmkmhdddmiaaExB3
import Derived.Test.YtfncmkmhdddmiaaIbx
import Derived.Test.YtfncmkmhdddmiaaBsp
set_option linter.unusedVariables false
set_option linter.unusedSimpArgs false
namespace Go.Proofs.Ytfncmkmhdddmiaa
open Go.RowKit

theorem cnt_lens (Y : List BxV) : cnt (lens Y) = Y.length + totI (bxV Y) := by
  unfold cnt lens totI bxV
  rw [List.length_map, List.map_map]
  rfl
theorem totI_six {X : List Bx} (h : ∀ a ∈ X, a.2.length ≤ 6) : totI X ≤ X.length * 6 := by
  unfold totI
  induction X with
  | nil => exact Nat.le_refl _
  | cons a X ih =>
    have h1 := h a (by simp)
    have h2 := ih fun b hb => h b (List.mem_cons_of_mem _ hb)
    simp only [List.map_cons, List.sum_cons, List.length_cons]
    omega
theorem bsput_70 (X : List Bx) (s : ByteArray) (i : Int) : ((bsPutM X s i).getD []).length + totI ((bsPutM X s i).getD []) ≤ 70 := by
  cases ho : bsPutM X s i with
  | none => exact Nat.zero_le _
  | some Y =>
    have hv := (bsPutM_some ho).vy
    have h1 := bxsB_10 hv
    have h2 := totI_six (X := Y) fun a ha => idsB_6 (bxsB_bx hv ha).2.1
    show Y.length + totI Y ≤ 70
    omega
theorem bget_12 (X : List Bx) (s : ByteArray) : (bgetM X s).length ≤ 12 := by
  cases hv : bxsB X with
  | false => rw [bgetM_f hv]; exact Nat.zero_le _
  | true => rw [bgetM_t hv]; have := idsB_6 (bget_valid hv s); omega

set_option maxHeartbeats 2000000 in
set_option maxRecDepth 100000 in
theorem FnExactBoxesValid_walk (w : World) (A : Option Addr) (n c : Nat) (X : List Bx) (hL : Bxs w w.heap.size A n X) (hS : BSmall X) (hnc : n ≤ c) (hn : n ≤ maxLen) :
    Calls Try.prog 15 #[.slice A n c] w fun e w' => e = .returned (.bool true) ∧ Below w.heap.size w w' := by
  have HL := hide hL
  have HS := hide hS
  clear hL hS
  go_enter Try.func15, Try.ntmps15
  go_wp2_with fail
  refine (e_szB A n c X 1048576 _ HL.out HS.out hn (by omega)).mono ?_
  rintro e w0 ⟨rfl | ⟨r, rfl, hr⟩, hb0⟩
  · go_wp2_with fail
    go_ret
    exact ⟨rfl, hb0⟩
  have hnl : n ≤ 1048576 := by omega
  have htl : totI X ≤ 1048576 := by omega
  have HL0 := hide (HL.out.on hb0)
  have hr0 : ¬ ((r : Int) < 0) := by omega
  clear hr
  go_wp2_with fail
  refine (e_toB A n c X _ HL0.out hnl htl).mono ?_
  rintro e w1 ⟨rfl, ⟨Y1, e1, N1⟩, hb1'⟩
  have ST1 := hide (e1 ▸ N1.bxs)
  have HL1 := hide (HL0.out.on hb1')
  have hb1 := hb0.trans (hb1'.mono hb0.size)
  clear N1 e1 hb1' hb0
  go_wp2_with fail
  refine (s_Bs _ n n X _ ST1.out HS.out hn).mono ?_
  rintro e w2 ⟨rfl, hb2⟩
  have hb12 := hb1.trans (hb2.mono hb1.size)
  have HL2 := hide (HL1.out.on hb2)
  clear hb2
  go_wp2_with fail
  refine (e_toB A n c X _ HL2.out hnl htl).mono ?_
  rintro e w3 ⟨rfl, ⟨Y3, e3, N3⟩, hb3⟩
  have hb13 := hb12.trans (hb3.mono hb12.size)
  have ST3 := hide (e3 ▸ N3.bxs)
  have HL3 := hide (HL2.out.on hb3)
  clear N3 e3 hb3
  go_wp2_with fail
  refine (i_Bs _ n n X _ ST3.out HS.out hn).mono ?_
  rintro e w4 ⟨rfl, hb4⟩
  have hb14 := hb13.trans (hb4.mono hb13.size)
  have HL4 := hide (HL3.out.on hb4)
  have ST34 := hide (ST3.out.on hb4)
  clear hb4
  go_wp2_with fail
  refine (e_toB A n c X _ HL4.out hnl htl).mono ?_
  rintro e w5 ⟨rfl, ⟨Y5, e5, N5⟩, hb5⟩
  have ST5 := hide (e5 ▸ N5.bxs)
  have ST35 := hide (ST34.out.on hb5)
  have hb15 := hb14.trans (hb5.mono hb14.size)
  clear N5 e5 hb5
  go_wp2_with fail
  refine (e_eqB _ n n _ n n X _ ST35.out ST5.out hn).mono ?_
  rintro e w6 ⟨rfl, hb6⟩
  go_wp2_with fail
  go_ret
  exact ⟨rfl, hb15.trans (hb6.mono hb15.size)⟩


set_option maxHeartbeats 4000000 in
theorem FnExactBoxesPut_walk (w : World) (A : Option Addr) (n c : Nat) (X : List Bx) (hL : Bxs w w.heap.size A n X) (hS : BSmall X) (hnc : n ≤ c) (hn : n ≤ maxLen) (s : ByteArray) (hsm : s.size ≤ maxLen) (i : Int) (_ : (Lit.int .i64 i).wf = true) :
    Calls Try.prog 17 #[.slice A n c, .string s, .int .i64 i] w fun e w' => e = .returned (.bool true) ∧ Below w.heap.size w w' := by
  have HL := hide hL
  have HS := hide hS
  clear hL hS
  have HM := hide (bsput_70 X s i)
  by_cases hbig : 1048576 < s.size
  · unfold maxLen at hsm
    go_enter Try.func17, Try.ntmps17
    go_wp2_with fail
    go_ret
    exact ⟨rfl, Below.refl _ _⟩
  go_enter Try.func17, Try.ntmps17
  go_wp2_with fail
  refine (e_szB A n c X 1048576 _ HL.out HS.out hn (by omega)).mono ?_
  rintro e w0 ⟨rfl | ⟨r, rfl, hr⟩, hb0⟩
  · go_wp2_with fail
    go_ret
    exact ⟨rfl, hb0⟩
  have hnl : n ≤ 1048576 := by omega
  have htl : totI X ≤ 1048576 := by omega
  have HR := hide hr
  have HL0 := hide (HL.out.on hb0)
  have hr0 : ¬ ((r : Int) < 0) := by omega
  clear hr
  go_wp2_with fail
  refine (e_toB A n c X _ HL0.out hnl htl).mono ?_
  rintro e w1 ⟨rfl, ⟨Y1, e1, N1⟩, hb1'⟩
  have ST1 := hide (e1 ▸ N1.bxs)
  have HL1 := hide (HL0.out.on hb1')
  have hb1 := hb0.trans (hb1'.mono hb0.size)
  clear N1 e1 hb1' hb0
  go_wp2_with fail
  refine (s_BoxesPut _ n n X s i _ ST1.out HS.out hn hsm).mono ?_
  intro e w2 ho
  obtain ⟨A2, n2, c2, rfl, hnc2, hcc2, hst2, hb2⟩ := own2_bxs ho
  have hb12 := hb1.trans (hb2.mono hb1.size)
  have HL2 := hide (HL1.out.on hb2)
  have ST2 := hide hst2
  have hs12 := hb1.size
  have hs22 := hb2.size
  clear hst2 ho hb2
  go_wp2_with fail
  refine (e_toB A n c X _ HL2.out hnl htl).mono ?_
  rintro e w3 ⟨rfl, ⟨Y3, e3, N3⟩, hb3⟩
  have hb13 := hb12.trans (hb3.mono hb12.size)
  have ST3 := hide (e3 ▸ N3.bxs)
  have OWN3 := hide N3
  have HT3 : Hid (∀ b, WBlk (.slice (some ⟨w2.heap.size, 0, none⟩) n n) Y3 b → b < w3.heap.size) := fun b hb => (N3.lt hb).2
  have hcn : Hid (1 + cnt (lens Y3) ≤ 1500000) := by
    have h1 := cnt_lens Y3
    have h2 := N3.len
    have h3 := HR.out
    rw [e3] at h1
    show _ ≤ _
    omega
  have E3 := hide e3
  have hs3 := hb3.size
  clear N3 e3
  go_wp2_with fail
  refine (i_BoxesPut _ n n X s i _ ST3.out HS.out hn hsm).mono ?_
  rintro e w4 ⟨v4, rfl, ⟨A4, n4, c4, Y4, rfl, e4, N4⟩, hb4⟩
  have hb14 := hb13.trans (hb4.mono hb13.size)
  have hB4 : Below w2.heap.size w2 w4 := hb3.trans (hb4.mono hb3.size)
  have OWN34 := hide (OWN3.out.below hb4)
  have OWN4 := hide N4
  have E4 := hide e4
  have HT4 : Hid (∀ b, WBlk (.slice A4 n4 c4) Y4 b → b < w4.heap.size) := fun b hb => (N4.lt hb).2
  have hcn4 : Hid (1 + cnt (lens Y4) ≤ 1500000) := by
    have h1 := cnt_lens Y4
    have h3 := HM.out
    have h4 := congrArg List.length e4
    rw [bxV_len] at h4
    rw [e4] at h1
    show _ ≤ _
    omega
  have hn4m : n4 ≤ maxLen := by
    have h1 := HM.out
    have h2 := N4.len
    have h4 := congrArg List.length e4
    rw [bxV_len] at h4
    unfold maxLen; omega
  have ST4 := hide (e4 ▸ N4.bxs)
  have hs34 := hb4.size
  clear N4 e4 HL2 ST1 HL1 HL0 ST3
  go_wp2_with fail
  refine (e_eqB A4 n4 c4 A2 n2 c2 _ _ ST4.out ((ST2.out.below hB4).up hB4.size) hn4m).mono ?_
  rintro e w5 ⟨rfl, hb5⟩
  have hb15 := hb14.trans (hb5.mono hb14.size)
  have hB5 := hB4.trans (hb5.mono hB4.size)
  have OWN35 := hide (OWN34.out.below hb5)
  have OWN45 := hide (OWN4.out.below hb5)
  clear OWN34 OWN4 ST4 hb5
  go_wp2_with fail
  refine (e_toB A n c X _ ((HL.out.below hb15).up hb15.size) hnl htl).mono ?_
  rintro e w6 ⟨rfl, ⟨Y6, e6, N6⟩, hb6⟩
  have hb16 := hb15.trans (hb6.mono hb15.size)
  have hB6 := hB5.trans (hb6.mono hB5.size)
  have OWN36 := hide (OWN35.out.below hb6)
  have OWN46 := hide (OWN45.out.below hb6)
  have ST6 := hide (e6 ▸ N6.bxs)
  have ST36 := hide (E3.out ▸ OWN36.out.bxs)
  clear N6 e6 OWN35 OWN45 hb6
  go_wp2_with fail
  refine (e_eqB _ n n _ n n X _ ST36.out ST6.out hn).mono ?_
  rintro e w7 ⟨rfl, hb7⟩
  have hb17 := hb16.trans (hb7.mono hb16.size)
  have hB7 := hB6.trans (hb7.mono hB6.size)
  have OWN37 := hide (OWN36.out.below hb7)
  have OWN47 := hide (OWN46.out.below hb7)
  clear OWN36 OWN46 ST6 ST36 hb7
  go_wp2_with fail
  refine (e_marksB w2.heap.size w3.heap.size _ n n 1 Y3 _ OWN37.out HT3.out (by omega) hcn.out).mono ?_
  rintro e w8 ⟨rfl, _, gr8⟩
  have hb18 : Below w.heap.size w w8 := gr8.below hb17 hb12.size hb17.size
  have hB8 : Below w2.heap.size w2 w8 := gr8.below hB7 (Nat.le_refl _) hB7.size
  have OWN48 := hide (gr8.nest OWN47.out (Nat.le_refl _))
  have ST48 := hide (E4.out ▸ OWN48.out.bxs)
  have hk8 : ¬ (((1 + cnt (lens Y3) : Nat) : Int) < 0) := by omega
  clear gr8 OWN37 OWN47 HT3 hcn
  generalize 1 + cnt (lens Y3) = k8 at *
  go_wp2_with fail
  refine (e_eqB A4 n4 c4 A2 n2 c2 _ _ ST48.out ((ST2.out.below hB8).up hB8.size) hn4m).mono ?_
  rintro e w9 ⟨rfl, hb9⟩
  have hb19 := hb18.trans (hb9.mono hb18.size)
  have hB9 := hB8.trans (hb9.mono hB8.size)
  have OWN49 := hide (OWN48.out.below hb9)
  clear OWN48 ST48 hb9
  go_wp2_with fail
  refine (e_marksB w3.heap.size w4.heap.size A4 n4 c4 1 Y4 _ OWN49.out HT4.out (by omega) hcn4.out).mono ?_
  rintro e w10 ⟨rfl, ⟨Z, NZ, eZ, _⟩, gr10⟩
  have hb110 : Below w.heap.size w w10 := gr10.below hb19 (by omega) hb19.size
  have hB10 : Below w2.heap.size w2 w10 := gr10.below hB9 hs3 hB9.size
  have OWN10 := hide NZ
  have EZ := hide eZ
  have SZ10 := hide (eZ ▸ NZ.bxs)
  have hneg : ¬ (((1 + cnt (lens Y4) : Nat) : Int) < 0) := by omega
  clear NZ eZ gr10 OWN49 HT4
  go_wp2_with fail
  refine (e_heldB A4 n4 c4 1 _ _ SZ10.out (by omega) hcn4.out).mono ?_
  rintro e w11 ⟨rfl, hb11⟩
  have hb111 := hb110.trans (hb11.mono hb110.size)
  have hB11 := hB10.trans (hb11.mono hB10.size)
  have OWN11 := hide (OWN10.out.below hb11)
  clear OWN10 SZ10 hb11
  go_wp2_with fail
  refine (e_toB A n c X _ ((HL.out.below hb111).up hb111.size) hnl htl).mono ?_
  rintro e w12 ⟨rfl, ⟨Y12, e12, N12⟩, hb12'⟩
  have hb112 := hb111.trans (hb12'.mono hb111.size)
  have hB12 := hB11.trans (hb12'.mono hB11.size)
  have OWN12 := hide (OWN11.out.below hb12')
  have ST12 := hide (e12 ▸ N12.bxs)
  clear OWN11 N12 e12 hb12'
  go_wp2_with fail
  refine (i_BoxesPut _ n n X s i _ ST12.out HS.out hn hsm).mono ?_
  rintro e w13 ⟨v13, rfl, ⟨A13, n13, c13, Y13, rfl, e13, N13⟩, hb13'⟩
  have hb113 := hb112.trans (hb13'.mono hb112.size)
  have hB13 := hB12.trans (hb13'.mono hB12.size)
  have OWN13 := hide (OWN12.out.below hb13')
  have hn13m : n13 ≤ maxLen := by
    have h1 := HM.out
    have h2 := N13.len
    have h4 := congrArg List.length e13
    rw [bxV_len] at h4
    unfold maxLen; omega
  have ST13 := hide (e13 ▸ N13.bxs)
  clear OWN12 N13 e13 hb13'
  go_wp2_with fail
  refine (e_eqB A13 n13 c13 A2 n2 c2 _ _ ST13.out ((ST2.out.below hB13).up hB13.size) hn13m).mono ?_
  rintro e w14 ⟨rfl, hb14'⟩
  have hb114 := hb113.trans (hb14'.mono hb113.size)
  have OWN14 := hide (OWN13.out.below hb14')
  have SZ14 := hide (EZ.out ▸ OWN14.out.bxs)
  clear OWN13 ST13 hb14'
  go_wp2_with fail
  refine (e_heldB A4 n4 c4 1 _ _ SZ14.out (by omega) hcn4.out).mono ?_
  rintro e w15 ⟨rfl, hb15'⟩
  go_wp2_with fail
  go_ret
  exact ⟨rfl, hb114.trans (hb15'.mono hb114.size)⟩
end Go.Proofs.Ytfncmkmhdddmiaa
