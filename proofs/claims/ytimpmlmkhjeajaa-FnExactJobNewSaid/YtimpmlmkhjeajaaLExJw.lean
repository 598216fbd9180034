/- Walk of the exact law of JobNew. -/
import Derived.Test.YtimpmlmkhjeajaaExJb
import Derived.Test.YtimpmlmkhjeajaaZn
import Derived.Test.YtimpmlmkhjeajaaZe
import Derived.Test.YtimpmlmkhjeajaaZk
set_option linter.unusedVariables false
set_option linter.unusedSimpArgs false
namespace Go.Proofs.Ytimpmlmkhjeajaa
open Go.RowKit

theorem jnew_10 (X : List Acc) (s : ByteArray) (i : Int) : ((jNewM X s i).getD jb0).2.1.length ≤ 10 := by
  cases ho : jNewM X s i with
  | none => exact Nat.zero_le _
  | some j =>
    obtain ⟨_, _, _, _, h5⟩ := jNew_some ho
    exact jb_10 h5
theorem own2j_own {w w' : World} {o : Option Jb} {e : Ending} (h : Own2J w o e w') : ∃ A n c, e = .returned (.tuple #[.agg #[.int .i64 (o.getD jb0).1, .slice A n c, .int .i64 (o.getD jb0).2.2], .bool o.isSome]) ∧ w'.ownsRow w.heap.size 9 1 (.slice A n c) n ((o.getD jb0).2.1.map Value.string) ∧ Below w.heap.size w w' := by
  obtain ⟨v, rfl, ⟨A, n, c, rfl, h1⟩, hb⟩ := h
  exact ⟨A, n, c, rfl, h1, hb⟩
theorem Mid.blk {base top q : Nat} {a b : World} {t : TypeId} {cs : Array Value} (h : Mid base top a b) (hq : Blk a q t cs) (ht : top ≤ q) : Blk b q t cs := (h.block q hq.lt (.inr ht)).trans hq

set_option maxHeartbeats 8000000 in
set_option maxRecDepth 100000 in
theorem FnExactJobNew_walk (w : World) (A : Option Addr) (n c : Nat) (X : List Acc) (hL : Accs w w.heap.size A n X) (hS : ASmall X) (hnc : n ≤ c) (hn : n ≤ maxLen) (s : ByteArray) (hsm : s.size ≤ maxLen) (i : Int) (_ : (Lit.int .i64 i).wf = true) :
    Calls Try.prog 16 #[.slice A n c, .string s, .int .i64 i] w fun e w' => e = .returned (.bool true) ∧ Below w.heap.size w w' := by
  have HL := hide hL
  have HS := hide hS
  have H10 := hide (jnew_10 X s i)
  clear hL hS
  by_cases hbig : 1048576 < s.size
  · unfold maxLen at hsm
    go_enter Try.func16, Try.ntmps16
    go_wp2_with fail
    go_ret
    exact ⟨rfl, Below.refl _ _⟩
  go_enter Try.func16, Try.ntmps16
  go_wp2_with fail
  refine (e_szA A n c X 1048576 _ HL.out HS.out hn (by omega)).mono ?_
  rintro e w0 ⟨rfl | ⟨r, rfl, hr⟩, hb0⟩
  · go_wp2_with fail
    go_ret
    exact ⟨rfl, hb0⟩
  have hnl : n ≤ 1048576 := by omega
  have htl : totF X ≤ 1048576 := by omega
  have HR := hide hr
  have HL0 := hide (HL.out.on hb0)
  have hr0 : ¬ ((r : Int) < 0) := by omega
  clear hr
  go_wp2_with fail
  refine (e_toA A n c X _ HL0.out hnl htl).mono ?_
  rintro e w1 ⟨rfl, ⟨Y1, e1, N1⟩, hb1⟩
  have ST1 := hide (e1 ▸ N1.accs)
  have HL1 := hide (HL0.out.on hb1)
  have BW1 := hide (hb0.trans (hb1.mono hb0.size))
  clear N1 e1 hb1 hb0
  go_wp2_with fail
  refine (s_JobNew _ n n X s i _ ST1.out HS.out hn).mono ?_
  intro e w2 ho
  obtain ⟨Bw, mw, dw, rfl, _, hdw, hst, hb⟩ := own2_job ho
  obtain ⟨⟨j1, T, j3⟩, ho2⟩ : ∃ j, (jNewM X s i).getD jb0 = j := ⟨_, rfl⟩
  obtain ⟨bo, hbo⟩ : ∃ b, (jNewM X s i).isSome = b := ⟨_, rfl⟩
  have h10 := H10.out
  rw [ho2] at h10 hst ⊢
  rw [hbo]
  simp only at h10 hst ⊢
  have HO := hide ho2
  have HBO := hide hbo
  have hmw : mw ≤ 10 := by have := hst.1; omega
  have hb' := (Below.refl w2.heap.size w2).alloc (Nat.le_refl _) (.cells #[.int .i64 j1, .slice Bw mw dw, .int .i64 j3] 28)
  have HW := hide (Blk.new w2 28 #[.int .i64 j1, .slice Bw mw dw, .int .i64 j3])
  have ST := hide (hst.on' hb')
  have SA := hide ((HL1.out.on hb).on hb')
  have BW := hide ((BW1.out.trans (hb.mono BW1.out.size)).trans (hb'.mono (Nat.le_trans BW1.out.size hb.size)))
  clear hb hb' ho ho2 hbo hst ST1 HL1 HL0
  go_wp2_with fail
  generalize w2.alloc (.cells #[.int .i64 j1, .slice Bw mw dw, .int .i64 j3] 28) = wb at *
  refine (e_toA A n c X _ SA.out hnl htl).mono ?_
  rintro e w3 ⟨rfl, ⟨Y3, e3, N3⟩, hb⟩
  have HBb := hide hb
  have OX := hide N3
  have HT3 : Hid (∀ b, VBlk (.slice (some ⟨wb.heap.size, 0, none⟩) n n) Y3 b → b < w3.heap.size) := fun b hb => (N3.lt hb).2
  have hcn : Hid (1 + cnt (lens Y3) ≤ 1500000) := by
    have h1 := cnt_lens Y3
    have h2 := N3.len
    have h3 := HR.out
    rw [e3] at h1
    show _ ≤ _
    omega
  have E3 := hide e3
  clear N3 e3 hb
  obtain ⟨⟨u0, u1, u2⟩, _⟩ := (HW.out.below HBb.out HW.out.lt).cells3
  try (obtain ⟨⟨g0, g1, g2⟩, _⟩ := HG.out.cells3)
  go_wp2_with fail
  refine (i_JobNew _ n n X s i _ (E3.out ▸ OX.out.accs) HS.out hn hsm).mono ?_
  intro e w4 ho
  obtain ⟨B7, m7, d7, rfl, og1, hb⟩ := own2j_own ho
  rw [HO.out] at og1 ⊢
  rw [HBO.out]
  simp only at og1 ⊢
  have hs34 := hb.size
  have HS3 := hide (HBb.out.size)
  try clear u0 u1 u2
  try clear g0 g1 g2
  replace HBb := hide (HBb.out.trans (Below.mono hb HBb.out.size))
  try replace OX := hide (OX.out.below hb)
  try replace OG1 := hide (own_below OG1.out hb)
  try replace HG := hide (HG.out.below hb HG.out.lt)
  clear hb
  obtain ⟨⟨u0, u1, u2⟩, _⟩ := (HW.out.below HBb.out HW.out.lt).cells3
  try (obtain ⟨⟨g0, g1, g2⟩, _⟩ := HG.out.cells3)
  have OG1 := hide og1
  have hl8 := og1.1
  rw [List.length_map, Nat.mul_one] at hl8
  have hm7 : m7 ≤ 10 := by omega
  clear og1 hl8 ho
  have hb := (Below.refl w4.heap.size w4).alloc (Nat.le_refl _) (.cells #[.int .i64 j1, .slice B7 m7 d7, .int .i64 j3] 28)
  try clear u0 u1 u2
  try clear g0 g1 g2
  replace HBb := hide (HBb.out.trans (Below.mono hb HBb.out.size))
  try replace OX := hide (OX.out.below hb)
  try replace OG1 := hide (own_below OG1.out hb)
  try replace HG := hide (HG.out.below hb HG.out.lt)
  clear hb
  obtain ⟨⟨u0, u1, u2⟩, _⟩ := (HW.out.below HBb.out HW.out.lt).cells3
  try (obtain ⟨⟨g0, g1, g2⟩, _⟩ := HG.out.cells3)
  have HG := hide (Blk.new w4 28 #[.int .i64 j1, .slice B7 m7 d7, .int .i64 j3])
  go_wp2_with fail
  generalize w4.alloc (.cells #[.int .i64 j1, .slice B7 m7 d7, .int .i64 j3] 28) = w5 at *
  have hM3 : m7 ≤ maxLen := by unfold maxLen; omega
  have hM4 : mw ≤ maxLen := by unfold maxLen; omega
  refine (e_eqJ j1 j3 B7 m7 d7 Bw mw dw T _ (Strs.of_own OG1.out) (ST.out.on' HBb.out) hM3 hM4).mono ?_
  rintro e w6 ⟨rfl, hb⟩
  try clear u0 u1 u2
  try clear g0 g1 g2
  replace HBb := hide (HBb.out.trans (Below.mono hb HBb.out.size))
  try replace OX := hide (OX.out.below hb)
  try replace OG1 := hide (own_below OG1.out hb)
  try replace HG := hide (HG.out.below hb HG.out.lt)
  clear hb
  obtain ⟨⟨u0, u1, u2⟩, _⟩ := (HW.out.below HBb.out HW.out.lt).cells3
  try (obtain ⟨⟨g0, g1, g2⟩, _⟩ := HG.out.cells3)
  go_wp2_with fail
  refine (e_toA A n c X _ (SA.out.on HBb.out) hnl htl).mono ?_
  rintro e w7 ⟨rfl, ⟨Y7, e7, N7⟩, hb⟩
  have ST7 := hide (e7 ▸ N7.accs)
  try clear u0 u1 u2
  try clear g0 g1 g2
  replace HBb := hide (HBb.out.trans (Below.mono hb HBb.out.size))
  try replace OX := hide (OX.out.below hb)
  try replace OG1 := hide (own_below OG1.out hb)
  try replace HG := hide (HG.out.below hb HG.out.lt)
  clear hb
  obtain ⟨⟨u0, u1, u2⟩, _⟩ := (HW.out.below HBb.out HW.out.lt).cells3
  try (obtain ⟨⟨g0, g1, g2⟩, _⟩ := HG.out.cells3)
  clear N7 e7
  go_wp2_with fail
  refine (e_eqA _ n n _ n n X _ (E3.out ▸ OX.out.accs) ST7.out hn).mono ?_
  rintro e w8 ⟨rfl, hb⟩
  try clear u0 u1 u2
  try clear g0 g1 g2
  replace HBb := hide (HBb.out.trans (Below.mono hb HBb.out.size))
  try replace OX := hide (OX.out.below hb)
  try replace OG1 := hide (own_below OG1.out hb)
  try replace HG := hide (HG.out.below hb HG.out.lt)
  clear hb
  obtain ⟨⟨u0, u1, u2⟩, _⟩ := (HW.out.below HBb.out HW.out.lt).cells3
  try (obtain ⟨⟨g0, g1, g2⟩, _⟩ := HG.out.cells3)
  go_wp2_with fail
  refine (e_marksA wb.heap.size w3.heap.size _ n n 1 Y3 _ OX.out HT3.out (by omega) hcn.out).mono ?_
  rintro e w9 ⟨rfl, _, gr⟩
  try clear u0 u1 u2
  try clear g0 g1 g2
  replace HBb := hide (gr.below HBb.out (Nat.le_refl _) HBb.out.size)
  replace OG1 := hide (gr.row OG1.out (Nat.le_refl _))
  replace HG := hide (gr.blk HG.out hs34)
  clear OX gr HT3 E3
  obtain ⟨⟨u0, u1, u2⟩, _⟩ := (HW.out.below HBb.out HW.out.lt).cells3
  try (obtain ⟨⟨g0, g1, g2⟩, _⟩ := HG.out.cells3)
  have hneg : ¬ (((1 + cnt (lens Y3) : Nat) : Int) < 0) := by omega
  clear hcn
  generalize 1 + cnt (lens Y3) = k9 at *
  go_wp2_with fail
  refine (e_eqJ j1 j3 B7 m7 d7 Bw mw dw T _ (Strs.of_own OG1.out) (ST.out.on' HBb.out) hM3 hM4).mono ?_
  rintro e w10 ⟨rfl, hb⟩
  try clear u0 u1 u2
  try clear g0 g1 g2
  replace HBb := hide (HBb.out.trans (Below.mono hb HBb.out.size))
  try replace OX := hide (OX.out.below hb)
  try replace OG1 := hide (own_below OG1.out hb)
  try replace HG := hide (HG.out.below hb HG.out.lt)
  clear hb
  obtain ⟨⟨u0, u1, u2⟩, _⟩ := (HW.out.below HBb.out HW.out.lt).cells3
  try (obtain ⟨⟨g0, g1, g2⟩, _⟩ := HG.out.cells3)
  go_wp2_with fail
  refine (e_markJ j1 j3 _ B7 m7 d7 1 T _ OG1.out (by omega) (by omega) (by omega)).mono ?_
  rintro e w11 ⟨rfl, og1, gr⟩
  try clear u0 u1 u2
  try clear g0 g1 g2
  have hs3 := HS3.out
  replace HBb := hide (HBb.out.grown gr HBb.out.size (fun q h1 => by have h3 := (OG1.out.lt q h1).1; omega))
  replace HG := hide (HG.out.grown gr (blk_not_row HG.out (by decide) OG1.out))
  replace OG1 := hide og1
  clear og1 gr
  obtain ⟨⟨u0, u1, u2⟩, _⟩ := (HW.out.below HBb.out HW.out.lt).cells3
  try (obtain ⟨⟨g0, g1, g2⟩, _⟩ := HG.out.cells3)
  have hng : ¬ (((1 + m7 : Nat) : Int) < 0) := by omega
  go_wp2_with fail
  refine (e_heldJ j1 j3 B7 m7 d7 1 _ (Strs.of_own OG1.out) (by omega) (by omega) (by omega)).mono ?_
  rintro e w12 ⟨rfl, hb⟩
  try clear u0 u1 u2
  try clear g0 g1 g2
  replace HBb := hide (HBb.out.trans (Below.mono hb HBb.out.size))
  try replace OX := hide (OX.out.below hb)
  try replace OG1 := hide (own_below OG1.out hb)
  try replace HG := hide (HG.out.below hb HG.out.lt)
  clear hb
  obtain ⟨⟨u0, u1, u2⟩, _⟩ := (HW.out.below HBb.out HW.out.lt).cells3
  try (obtain ⟨⟨g0, g1, g2⟩, _⟩ := HG.out.cells3)
  go_wp2_with fail
  refine (e_toA A n c X _ (SA.out.on HBb.out) hnl htl).mono ?_
  rintro e w13 ⟨rfl, ⟨Y13, e13, N13⟩, hb⟩
  have ST13 := hide (e13 ▸ N13.accs)
  try clear u0 u1 u2
  try clear g0 g1 g2
  replace HBb := hide (HBb.out.trans (Below.mono hb HBb.out.size))
  try replace OX := hide (OX.out.below hb)
  try replace OG1 := hide (own_below OG1.out hb)
  try replace HG := hide (HG.out.below hb HG.out.lt)
  clear hb
  obtain ⟨⟨u0, u1, u2⟩, _⟩ := (HW.out.below HBb.out HW.out.lt).cells3
  try (obtain ⟨⟨g0, g1, g2⟩, _⟩ := HG.out.cells3)
  clear N13 e13
  go_wp2_with fail
  refine (i_JobNew _ n n X s i _ ST13.out HS.out hn hsm).mono ?_
  intro e w14 ho
  obtain ⟨B8, m8, d8, rfl, _, hd8, hst, hb⟩ := own2_job ho
  rw [HO.out] at hst ⊢
  rw [HBO.out]
  simp only at hst ⊢
  clear ho
  try clear u0 u1 u2
  try clear g0 g1 g2
  replace HBb := hide (HBb.out.trans (Below.mono hb HBb.out.size))
  try replace OX := hide (OX.out.below hb)
  try replace OG1 := hide (own_below OG1.out hb)
  try replace HG := hide (HG.out.below hb HG.out.lt)
  clear hb
  obtain ⟨⟨u0, u1, u2⟩, _⟩ := (HW.out.below HBb.out HW.out.lt).cells3
  try (obtain ⟨⟨g0, g1, g2⟩, _⟩ := HG.out.cells3)
  have hm8 : m8 ≤ maxLen := by have := hst.1; unfold maxLen; omega
  have hb := (Below.refl w14.heap.size w14).alloc (Nat.le_refl _) (.cells #[.int .i64 j1, .slice B8 m8 d8, .int .i64 j3] 28)
  have ST8 := hide (hst.on' hb)
  try clear u0 u1 u2
  try clear g0 g1 g2
  replace HBb := hide (HBb.out.trans (Below.mono hb HBb.out.size))
  try replace OX := hide (OX.out.below hb)
  try replace OG1 := hide (own_below OG1.out hb)
  try replace HG := hide (HG.out.below hb HG.out.lt)
  clear hb
  obtain ⟨⟨u0, u1, u2⟩, _⟩ := (HW.out.below HBb.out HW.out.lt).cells3
  try (obtain ⟨⟨g0, g1, g2⟩, _⟩ := HG.out.cells3)
  clear hst
  go_wp2_with fail
  generalize w14.alloc (.cells #[.int .i64 j1, .slice B8 m8 d8, .int .i64 j3] 28) = w15 at *
  refine (e_eqJ j1 j3 B8 m8 d8 Bw mw dw T _ ST8.out (ST.out.on' HBb.out) hm8 hM4).mono ?_
  rintro e w16 ⟨rfl, hb⟩
  try clear u0 u1 u2
  try clear g0 g1 g2
  replace HBb := hide (HBb.out.trans (Below.mono hb HBb.out.size))
  try replace OX := hide (OX.out.below hb)
  try replace OG1 := hide (own_below OG1.out hb)
  try replace HG := hide (HG.out.below hb HG.out.lt)
  clear hb
  obtain ⟨⟨u0, u1, u2⟩, _⟩ := (HW.out.below HBb.out HW.out.lt).cells3
  try (obtain ⟨⟨g0, g1, g2⟩, _⟩ := HG.out.cells3)
  go_wp2_with fail
  refine (e_heldJ j1 j3 B7 m7 d7 1 _ (Strs.of_own OG1.out) (by omega) (by omega) (by omega)).mono ?_
  rintro e w17 ⟨rfl, hb⟩
  try clear u0 u1 u2
  try clear g0 g1 g2
  replace HBb := hide (HBb.out.trans (Below.mono hb HBb.out.size))
  try replace OX := hide (OX.out.below hb)
  try replace OG1 := hide (own_below OG1.out hb)
  try replace HG := hide (HG.out.below hb HG.out.lt)
  clear hb
  obtain ⟨⟨u0, u1, u2⟩, _⟩ := (HW.out.below HBb.out HW.out.lt).cells3
  try (obtain ⟨⟨g0, g1, g2⟩, _⟩ := HG.out.cells3)
  go_wp2_with fail
  go_ret
  exact ⟨rfl, BW.out.trans (HBb.out.mono BW.out.size)⟩
end Go.Proofs.Ytimpmlmkhjeajaa
