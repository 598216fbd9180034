/- Walk of the exact law of JobNext. -/
import Derived.Test.YtimpmlmkhjeajaaExJb
import Derived.Test.YtimpmlmkhjeajaaJn
import Derived.Test.YtimpmlmkhjeajaaZk
import Derived.Deep.RegionHeld3
set_option linter.unusedVariables false
set_option linter.unusedSimpArgs false
namespace Go.Proofs.Ytimpmlmkhjeajaa
open Go.RowKit

theorem jnext_10 (i d many : Int) (L : List ByteArray) : ((jNextM (i, L, d) many).getD ([], jb0)).1.length ≤ 10 ∧ ((jNextM (i, L, d) many).getD ([], jb0)).2.2.1.length ≤ 10 := by
  cases ho : jNextM (i, L, d) many with
  | none => exact ⟨Nat.zero_le _, Nat.zero_le _⟩
  | some r =>
    obtain ⟨N, x⟩ := r
    have h := jNext_some ho
    have h1 := jb_10 h.v
    have h2 := h.len
    have h3 := jEnd_le (i, L, d) many
    have h4 := h.same.2.1
    simp only at h1 h3 h4
    refine ⟨?_, ?_⟩
    · show N.length ≤ 10; omega
    · show x.2.1.length ≤ 10; rw [h4]; omega

set_option maxHeartbeats 8000000 in
set_option maxRecDepth 100000 in
theorem FnExactJobNext_walk (w : World) (i d : Int) (A : Option Addr) (n c : Nat) (L : List ByteArray) (hL : Strs w w.heap.size A n L) (hS : Small L) (hnc : n ≤ c) (hn : n ≤ maxLen) (many : Int) (_ : (Lit.int .i64 many).wf = true) :
    Calls Try.prog 17 #[.agg #[.int .i64 i, .slice A n c, .int .i64 d], .int .i64 many] w fun e w' => e = .returned (.bool true) ∧ Below w.heap.size w w' := by
  have HP := hide (Blk.new w 57 #[.int .i64 i, .slice A n c, .int .i64 d])
  have BW := hide ((Below.refl w.heap.size w).alloc (Nat.le_refl _) (.cells #[.int .i64 i, .slice A n c, .int .i64 d] 57))
  have SL := hide (hL.on' BW.out)
  have HS := hide hS
  have HN := hide hn
  have H10 := hide (jnext_10 i d many L)
  clear hL hS hn
  go_enter Try.func17, Try.ntmps17
  go_wp2_with fail
  refine (e_szJ i d A n c L 1048576 _ SL.out HS.out HN.out (by omega)).mono ?_
  rintro e w1 ⟨rfl | ⟨r, rfl, hr, hnl, hsl⟩, hb⟩
  · go_wp2_with fail
    go_ret
    exact ⟨rfl, BW.out.trans (hb.mono BW.out.size)⟩
  have hr0 : ¬ ((r : Int) < 0) := by omega
  clear hsl
  try clear p0 p1 p2
  replace HP := hide (HP.out.below hb HP.out.lt)
  replace SL := hide (SL.out.on' hb)
  replace BW := hide (BW.out.trans (Below.mono hb BW.out.size))
  obtain ⟨⟨p0, p1, p2⟩, _⟩ := HP.out.cells3
  clear hb
  go_wp2_with fail
  refine (e_toJ i d A n c L _ SL.out hnl).mono ?_
  rintro e w2 ⟨g2, rfl, own2, hb⟩
  have S2 := hide (Strs.of_own own2)
  try clear p0 p1 p2
  replace HP := hide (HP.out.below hb HP.out.lt)
  replace SL := hide (SL.out.on' hb)
  replace BW := hide (BW.out.trans (Below.mono hb BW.out.size))
  obtain ⟨⟨p0, p1, p2⟩, _⟩ := HP.out.cells3
  clear hb own2
  go_wp2_with fail
  refine (s_JobNext i d many _ n n L _ S2.out HS.out HN.out (Nat.le_refl _)).mono ?_
  intro e w3 ho
  obtain ⟨Aw, nw, cw, Bw, mw, dw, rfl, _, hcw, _, hdw, hsn, hst, hb⟩ := own3_job ho
  -- the answer of the spec's function, behind names
  obtain ⟨⟨N, j1, T, j3⟩, ho2⟩ : ∃ j, (jNextM (i, L, d) many).getD ([], jb0) = j := ⟨_, rfl⟩
  obtain ⟨bo, hbo⟩ : ∃ b, (jNextM (i, L, d) many).isSome = b := ⟨_, rfl⟩
  have h10 := H10.out
  rw [ho2] at h10 hsn hst ⊢
  rw [hbo]
  simp only at h10 hsn hst ⊢
  have HO := hide ho2
  have HBO := hide hbo
  try clear p0 p1 p2
  replace HP := hide (HP.out.below hb HP.out.lt)
  replace SL := hide (SL.out.on' hb)
  replace BW := hide (BW.out.trans (Below.mono hb BW.out.size))
  obtain ⟨⟨p0, p1, p2⟩, _⟩ := HP.out.cells3
  clear hb S2 ho ho2 hbo
  have hnw : nw ≤ 10 := by have := hsn.1; omega
  have hmw : mw ≤ 10 := by have := hst.1; omega
  have hb := (Below.refl w3.heap.size w3).alloc (Nat.le_refl _) (.cells #[.int .i64 j1, .slice Bw mw dw, .int .i64 j3] 28)
  have HW := hide (Blk.new w3 28 #[.int .i64 j1, .slice Bw mw dw, .int .i64 j3])
  have SN := hide (hsn.on' hb)
  have ST := hide (hst.on' hb)
  try clear p0 p1 p2
  replace HP := hide (HP.out.below hb HP.out.lt)
  replace SL := hide (SL.out.on' hb)
  replace BW := hide (BW.out.trans (Below.mono hb BW.out.size))
  obtain ⟨⟨p0, p1, p2⟩, _⟩ := HP.out.cells3
  clear hb hsn hst
  have HBb := hide (Below.refl (w3.alloc (.cells #[.int .i64 j1, .slice Bw mw dw, .int .i64 j3] 28)).heap.size (w3.alloc (.cells #[.int .i64 j1, .slice Bw mw dw, .int .i64 j3] 28)))
  go_wp2_with fail
  refine (e_toJ i d A n c L _ SL.out hnl).mono ?_
  rintro e w4 ⟨g4, rfl, own4, hb⟩
  generalize w3.alloc (.cells #[.int .i64 j1, .slice Bw mw dw, .int .i64 j3] 28) = wb at *
  have OX := hide own4
  replace HBb := hide hb
  clear hb own4 p0 p1 p2
  have hb := (Below.refl w4.heap.size w4).alloc (Nat.le_refl _) (.cells #[.int .i64 i, .slice (some ⟨g4, 0, none⟩) n n, .int .i64 d] 28)
  try clear p0 p1 p2
  try clear u0 u1 u2
  try clear x0 x1 x2
  try clear g0 g1 g2
  try clear h0 h1 h2
  replace HBb := hide (HBb.out.trans (Below.mono hb HBb.out.size))
  try replace OX := hide (own_below OX.out hb)
  try replace HX := hide (HX.out.below hb HX.out.lt)
  try replace OG0 := hide (own_below OG0.out hb)
  try replace OG1 := hide (own_below OG1.out hb)
  try replace HG := hide (HG.out.below hb HG.out.lt)
  clear hb
  obtain ⟨⟨p0, p1, p2⟩, _⟩ := (HP.out.below HBb.out HP.out.lt).cells3
  obtain ⟨⟨u0, u1, u2⟩, _⟩ := (HW.out.below HBb.out HW.out.lt).cells3
  try (obtain ⟨⟨x0, x1, x2⟩, _⟩ := HX.out.cells3)
  try (obtain ⟨⟨g0, g1, g2⟩, _⟩ := HG.out.cells3)
  have HX := hide (Blk.new w4 28 #[.int .i64 i, .slice (some ⟨g4, 0, none⟩) n n, .int .i64 d])
  obtain ⟨⟨x0, x1, x2⟩, _⟩ := HX.out.cells3
  go_wp2_with fail
  generalize w4.alloc (.cells #[.int .i64 i, .slice (some ⟨g4, 0, none⟩) n n, .int .i64 d] 28) = w5 at *
  have TX := hide (OX.out.lt g4 rfl)
  have HS5 := hide (HBb.out.size)
  refine (i_JobNext i d many _ n n L _ (Strs.of_own OX.out) HS.out HN.out (Nat.le_refl _)).mono ?_
  rintro e w6 ⟨A7, n7, c7, B7, m7, d7, rfl, og0, og1, hdis, hb⟩
  rw [HO.out] at og0 og1 ⊢
  rw [HBO.out]
  simp only at og0 og1 ⊢
  try clear p0 p1 p2
  try clear u0 u1 u2
  try clear x0 x1 x2
  try clear g0 g1 g2
  try clear h0 h1 h2
  replace HBb := hide (HBb.out.trans (Below.mono hb HBb.out.size))
  try replace OX := hide (own_below OX.out hb)
  try replace HX := hide (HX.out.below hb HX.out.lt)
  try replace OG0 := hide (own_below OG0.out hb)
  try replace OG1 := hide (own_below OG1.out hb)
  try replace HG := hide (HG.out.below hb HG.out.lt)
  clear hb
  obtain ⟨⟨p0, p1, p2⟩, _⟩ := (HP.out.below HBb.out HP.out.lt).cells3
  obtain ⟨⟨u0, u1, u2⟩, _⟩ := (HW.out.below HBb.out HW.out.lt).cells3
  try (obtain ⟨⟨x0, x1, x2⟩, _⟩ := HX.out.cells3)
  try (obtain ⟨⟨g0, g1, g2⟩, _⟩ := HG.out.cells3)
  have OG0 := hide og0
  have OG1 := hide og1
  have HD := hide hdis
  have hl7 := og0.1
  have hl8 := og1.1
  rw [List.length_map, Nat.mul_one] at hl7 hl8
  have hn7 : n7 ≤ 10 := by omega
  have hm7 : m7 ≤ 10 := by omega
  clear og0 og1 hdis hl7 hl8
  have hb := (Below.refl w6.heap.size w6).alloc (Nat.le_refl _) (.cells #[.int .i64 j1, .slice B7 m7 d7, .int .i64 j3] 28)
  try clear p0 p1 p2
  try clear u0 u1 u2
  try clear x0 x1 x2
  try clear g0 g1 g2
  try clear h0 h1 h2
  replace HBb := hide (HBb.out.trans (Below.mono hb HBb.out.size))
  try replace OX := hide (own_below OX.out hb)
  try replace HX := hide (HX.out.below hb HX.out.lt)
  try replace OG0 := hide (own_below OG0.out hb)
  try replace OG1 := hide (own_below OG1.out hb)
  try replace HG := hide (HG.out.below hb HG.out.lt)
  clear hb
  obtain ⟨⟨p0, p1, p2⟩, _⟩ := (HP.out.below HBb.out HP.out.lt).cells3
  obtain ⟨⟨u0, u1, u2⟩, _⟩ := (HW.out.below HBb.out HW.out.lt).cells3
  try (obtain ⟨⟨x0, x1, x2⟩, _⟩ := HX.out.cells3)
  try (obtain ⟨⟨g0, g1, g2⟩, _⟩ := HG.out.cells3)
  have HG := hide (Blk.new w6 28 #[.int .i64 j1, .slice B7 m7 d7, .int .i64 j3])
  obtain ⟨⟨g0, g1, g2⟩, _⟩ := HG.out.cells3
  go_wp2_with fail
  generalize w6.alloc (.cells #[.int .i64 j1, .slice B7 m7 d7, .int .i64 j3] 28) = w7 at *
  have hM1 : n7 ≤ maxLen := by unfold maxLen; omega
  have hM2 : nw ≤ maxLen := by unfold maxLen; omega
  have hM3 : m7 ≤ maxLen := by unfold maxLen; omega
  have hM4 : mw ≤ maxLen := by unfold maxLen; omega
  refine (e_eq_t A7 n7 c7 Aw nw cw N _ (Strs.of_own OG0.out) (SN.out.on' HBb.out) hM1 hM2).mono ?_
  rintro e w8 ⟨rfl, q8, hq⟩
  have hb : Below w7.heap.size w7 w8 := by rw [hq]; exact below_drewN' _ _ _
  clear hq
  try clear p0 p1 p2
  try clear u0 u1 u2
  try clear x0 x1 x2
  try clear g0 g1 g2
  try clear h0 h1 h2
  replace HBb := hide (HBb.out.trans (Below.mono hb HBb.out.size))
  try replace OX := hide (own_below OX.out hb)
  try replace HX := hide (HX.out.below hb HX.out.lt)
  try replace OG0 := hide (own_below OG0.out hb)
  try replace OG1 := hide (own_below OG1.out hb)
  try replace HG := hide (HG.out.below hb HG.out.lt)
  clear hb
  obtain ⟨⟨p0, p1, p2⟩, _⟩ := (HP.out.below HBb.out HP.out.lt).cells3
  obtain ⟨⟨u0, u1, u2⟩, _⟩ := (HW.out.below HBb.out HW.out.lt).cells3
  try (obtain ⟨⟨x0, x1, x2⟩, _⟩ := HX.out.cells3)
  try (obtain ⟨⟨g0, g1, g2⟩, _⟩ := HG.out.cells3)
  go_wp2_with fail
  refine (e_eqJ j1 j3 B7 m7 d7 Bw mw dw T _ (Strs.of_own OG1.out) (ST.out.on' HBb.out) hM3 hM4).mono ?_
  rintro e w9 ⟨rfl, hb⟩
  try clear p0 p1 p2
  try clear u0 u1 u2
  try clear x0 x1 x2
  try clear g0 g1 g2
  try clear h0 h1 h2
  replace HBb := hide (HBb.out.trans (Below.mono hb HBb.out.size))
  try replace OX := hide (own_below OX.out hb)
  try replace HX := hide (HX.out.below hb HX.out.lt)
  try replace OG0 := hide (own_below OG0.out hb)
  try replace OG1 := hide (own_below OG1.out hb)
  try replace HG := hide (HG.out.below hb HG.out.lt)
  clear hb
  obtain ⟨⟨p0, p1, p2⟩, _⟩ := (HP.out.below HBb.out HP.out.lt).cells3
  obtain ⟨⟨u0, u1, u2⟩, _⟩ := (HW.out.below HBb.out HW.out.lt).cells3
  try (obtain ⟨⟨x0, x1, x2⟩, _⟩ := HX.out.cells3)
  try (obtain ⟨⟨g0, g1, g2⟩, _⟩ := HG.out.cells3)
  go_wp2_with fail
  have hx9 := HX.out.lt
  have hp9 := (HP.out.below HBb.out HP.out.lt).lt
  have PB := hide (HP.out.below HBb.out HP.out.lt)
  have SL9 := hide (SL.out.on' HBb.out)
  go_region_held3 (fun w' => (w'.cell? ⟨w4.heap.size, 0, none⟩ = some (.int .i64 i) ∧ w'.cell? ⟨w4.heap.size, 1, none⟩ = some (.slice (some ⟨g4, 0, none⟩) n n) ∧ w'.cell? ⟨w4.heap.size, 2, none⟩ = some (.int .i64 d)) ∧ w'.cell? ⟨w.heap.size, 0, none⟩ = some (.int .i64 i) ∧ w'.cell? ⟨w.heap.size, 1, none⟩ = some (.slice A n c) ∧ w'.cell? ⟨w.heap.size, 2, none⟩ = some (.int .i64 d)) (first | exact ⟨HX6.out, HP6.out⟩ | exact ⟨HX7.out, HP7.out⟩ | go_keep) (first
    | (go_at_call 41
       refine (e_toJ i d A n c L _ (by exact SL9.out) hnl).mono ?_
       rintro e w10 ⟨g10, rfl, own10, hb10⟩
       have hb910 : Below w9.heap.size w9 w10 := (Below.refl _ w9).drew.trans hb10
       have HX6 := hide (HX.out.below hb910 hx9).cells3.1
       have HP6 := hide (PB.out.below hb910 hp9).cells3.1
       have S10 := hide (Strs.of_own own10)
       have SX10 := hide ((Strs.of_own OX.out).on' hb910)
       have Hb910 := hide hb910
       clear own10 hb10 hb910)
    | (go_at_call 42
       refine (e_eqJ i d _ n n _ n n L _ (by exact SX10.out) (by exact S10.out) HN.out HN.out).mono ?_
       rintro e w11 ⟨rfl, hb11⟩
       have hb : Below w9.heap.size w9 w11 := Hb910.out.trans (hb11.mono Hb910.out.size)
       have HX7 := hide (HX.out.below hb hx9).cells3.1
       have HP7 := hide (PB.out.below hb hp9).cells3.1
       clear hb11)
    | fail)
  clear PB hx9 hp9 SL9
  try clear p0 p1 p2
  try clear u0 u1 u2
  try clear x0 x1 x2
  try clear g0 g1 g2
  try clear h0 h1 h2
  replace HBb := hide (HBb.out.trans (Below.mono hb HBb.out.size))
  try replace OX := hide (own_below OX.out hb)
  try replace HX := hide (HX.out.below hb HX.out.lt)
  try replace OG0 := hide (own_below OG0.out hb)
  try replace OG1 := hide (own_below OG1.out hb)
  try replace HG := hide (HG.out.below hb HG.out.lt)
  clear hb
  obtain ⟨⟨p0, p1, p2⟩, _⟩ := (HP.out.below HBb.out HP.out.lt).cells3
  obtain ⟨⟨u0, u1, u2⟩, _⟩ := (HW.out.below HBb.out HW.out.lt).cells3
  try (obtain ⟨⟨x0, x1, x2⟩, _⟩ := HX.out.cells3)
  try (obtain ⟨⟨g0, g1, g2⟩, _⟩ := HG.out.cells3)
  go_wp2_with fail
  refine (e_markJ i d _ _ n n 1 L _ OX.out (by omega) (by omega) (by omega)).mono ?_
  rintro e w12 ⟨rfl, ox, gr⟩
  replace OG0 := hide (own_grown OG0.out gr (fun b h1 h2 => by have h3 := (OG0.out.lt b h1).1; have h4 := TX.out.2; simp [Value.ownBlock] at h2; omega))
  replace OG1 := hide (own_grown OG1.out gr (fun b h1 h2 => by have h3 := (OG1.out.lt b h1).1; have h4 := TX.out.2; simp [Value.ownBlock] at h2; omega))
  try clear p0 p1 p2
  try clear u0 u1 u2
  try clear x0 x1 x2
  try clear g0 g1 g2
  replace HBb := hide (HBb.out.grown gr HBb.out.size (fun q h1 => (OX.out.lt q h1).1))
  try replace HX := hide (HX.out.grown gr (blk_not_row HX.out (by decide) OX.out))
  try replace HG := hide (HG.out.grown gr (blk_not_row HG.out (by decide) OX.out))
  clear OX HX ox gr
  obtain ⟨⟨p0, p1, p2⟩, _⟩ := (HP.out.below HBb.out HP.out.lt).cells3
  obtain ⟨⟨u0, u1, u2⟩, _⟩ := (HW.out.below HBb.out HW.out.lt).cells3
  try (obtain ⟨⟨x0, x1, x2⟩, _⟩ := HX.out.cells3)
  try (obtain ⟨⟨g0, g1, g2⟩, _⟩ := HG.out.cells3)
  have hneg : ¬ (((1 + n : Nat) : Int) < 0) := by omega
  generalize 1 + n = k12 at *
  go_wp2_with fail
  refine (e_eq_t A7 n7 c7 Aw nw cw N _ (Strs.of_own OG0.out) (SN.out.on' HBb.out) hM1 hM2).mono ?_
  rintro e w13 ⟨rfl, q8, hq⟩
  have hb : Below w12.heap.size w12 w13 := by rw [hq]; exact below_drewN' _ _ _
  clear hq
  try clear p0 p1 p2
  try clear u0 u1 u2
  try clear x0 x1 x2
  try clear g0 g1 g2
  try clear h0 h1 h2
  replace HBb := hide (HBb.out.trans (Below.mono hb HBb.out.size))
  try replace OX := hide (own_below OX.out hb)
  try replace HX := hide (HX.out.below hb HX.out.lt)
  try replace OG0 := hide (own_below OG0.out hb)
  try replace OG1 := hide (own_below OG1.out hb)
  try replace HG := hide (HG.out.below hb HG.out.lt)
  clear hb
  obtain ⟨⟨p0, p1, p2⟩, _⟩ := (HP.out.below HBb.out HP.out.lt).cells3
  obtain ⟨⟨u0, u1, u2⟩, _⟩ := (HW.out.below HBb.out HW.out.lt).cells3
  try (obtain ⟨⟨x0, x1, x2⟩, _⟩ := HX.out.cells3)
  try (obtain ⟨⟨g0, g1, g2⟩, _⟩ := HG.out.cells3)
  go_wp2_with fail
  refine (e_eqJ j1 j3 B7 m7 d7 Bw mw dw T _ (Strs.of_own OG1.out) (ST.out.on' HBb.out) hM3 hM4).mono ?_
  rintro e w14 ⟨rfl, hb⟩
  try clear p0 p1 p2
  try clear u0 u1 u2
  try clear x0 x1 x2
  try clear g0 g1 g2
  try clear h0 h1 h2
  replace HBb := hide (HBb.out.trans (Below.mono hb HBb.out.size))
  try replace OX := hide (own_below OX.out hb)
  try replace HX := hide (HX.out.below hb HX.out.lt)
  try replace OG0 := hide (own_below OG0.out hb)
  try replace OG1 := hide (own_below OG1.out hb)
  try replace HG := hide (HG.out.below hb HG.out.lt)
  clear hb
  obtain ⟨⟨p0, p1, p2⟩, _⟩ := (HP.out.below HBb.out HP.out.lt).cells3
  obtain ⟨⟨u0, u1, u2⟩, _⟩ := (HW.out.below HBb.out HW.out.lt).cells3
  try (obtain ⟨⟨x0, x1, x2⟩, _⟩ := HX.out.cells3)
  try (obtain ⟨⟨g0, g1, g2⟩, _⟩ := HG.out.cells3)
  go_wp2_with fail
  refine (e_marks _ A7 n7 c7 1 N _ OG0.out (by omega) (by omega) (by omega)).mono ?_
  rintro e w15 ⟨rfl, og0, gr⟩
  replace OG1 := hide (own_grown OG1.out gr (fun b h1 h2 => HD.out b h2 h1))
  try clear p0 p1 p2
  try clear u0 u1 u2
  try clear x0 x1 x2
  try clear g0 g1 g2
  replace HBb := hide (HBb.out.grown gr HBb.out.size (fun q h1 => by have h3 := (OG0.out.lt q h1).1; have h4 := HS5.out; omega))
  try replace HX := hide (HX.out.grown gr (blk_not_row HX.out (by decide) OG0.out))
  try replace HG := hide (HG.out.grown gr (blk_not_row HG.out (by decide) OG0.out))
  replace OG0 := hide og0
  clear og0 gr
  obtain ⟨⟨p0, p1, p2⟩, _⟩ := (HP.out.below HBb.out HP.out.lt).cells3
  obtain ⟨⟨u0, u1, u2⟩, _⟩ := (HW.out.below HBb.out HW.out.lt).cells3
  try (obtain ⟨⟨x0, x1, x2⟩, _⟩ := HX.out.cells3)
  try (obtain ⟨⟨g0, g1, g2⟩, _⟩ := HG.out.cells3)
  go_wp2_with fail
  refine (e_markJ j1 j3 _ B7 m7 d7 (1 + n7) T _ OG1.out (by omega) (by omega) (by omega)).mono ?_
  rintro e w16 ⟨rfl, og1, gr⟩
  replace OG0 := hide (own_grown OG0.out gr (fun b h1 h2 => HD.out b h1 h2))
  try clear p0 p1 p2
  try clear u0 u1 u2
  try clear x0 x1 x2
  try clear g0 g1 g2
  replace HBb := hide (HBb.out.grown gr HBb.out.size (fun q h1 => by have h3 := (OG1.out.lt q h1).1; have h4 := HS5.out; omega))
  try replace HX := hide (HX.out.grown gr (blk_not_row HX.out (by decide) OG1.out))
  try replace HG := hide (HG.out.grown gr (blk_not_row HG.out (by decide) OG1.out))
  replace OG1 := hide og1
  clear og1 gr
  obtain ⟨⟨p0, p1, p2⟩, _⟩ := (HP.out.below HBb.out HP.out.lt).cells3
  obtain ⟨⟨u0, u1, u2⟩, _⟩ := (HW.out.below HBb.out HW.out.lt).cells3
  try (obtain ⟨⟨x0, x1, x2⟩, _⟩ := HX.out.cells3)
  try (obtain ⟨⟨g0, g1, g2⟩, _⟩ := HG.out.cells3)
  have hng1 : ¬ (((1 + n7 : Nat) : Int) < 0) := by omega
  have hng2 : ¬ (((1 + n7 + m7 : Nat) : Int) < 0) := by omega
  go_wp2_with fail
  refine (e_held A7 n7 c7 1 _ (Strs.of_own OG0.out) (by omega) (by omega) (by omega)).mono ?_
  rintro e w17 ⟨rfl, hb⟩
  try clear p0 p1 p2
  try clear u0 u1 u2
  try clear x0 x1 x2
  try clear g0 g1 g2
  try clear h0 h1 h2
  replace HBb := hide (HBb.out.trans (Below.mono hb HBb.out.size))
  try replace OX := hide (own_below OX.out hb)
  try replace HX := hide (HX.out.below hb HX.out.lt)
  try replace OG0 := hide (own_below OG0.out hb)
  try replace OG1 := hide (own_below OG1.out hb)
  try replace HG := hide (HG.out.below hb HG.out.lt)
  clear hb
  obtain ⟨⟨p0, p1, p2⟩, _⟩ := (HP.out.below HBb.out HP.out.lt).cells3
  obtain ⟨⟨u0, u1, u2⟩, _⟩ := (HW.out.below HBb.out HW.out.lt).cells3
  try (obtain ⟨⟨x0, x1, x2⟩, _⟩ := HX.out.cells3)
  try (obtain ⟨⟨g0, g1, g2⟩, _⟩ := HG.out.cells3)
  go_wp2_with fail
  refine (e_heldJ j1 j3 B7 m7 d7 (1 + n7) _ (Strs.of_own OG1.out) (by omega) (by omega) (by omega)).mono ?_
  rintro e w18 ⟨rfl, hb⟩
  try clear p0 p1 p2
  try clear u0 u1 u2
  try clear x0 x1 x2
  try clear g0 g1 g2
  try clear h0 h1 h2
  replace HBb := hide (HBb.out.trans (Below.mono hb HBb.out.size))
  try replace OX := hide (own_below OX.out hb)
  try replace HX := hide (HX.out.below hb HX.out.lt)
  try replace OG0 := hide (own_below OG0.out hb)
  try replace OG1 := hide (own_below OG1.out hb)
  try replace HG := hide (HG.out.below hb HG.out.lt)
  clear hb
  obtain ⟨⟨p0, p1, p2⟩, _⟩ := (HP.out.below HBb.out HP.out.lt).cells3
  obtain ⟨⟨u0, u1, u2⟩, _⟩ := (HW.out.below HBb.out HW.out.lt).cells3
  try (obtain ⟨⟨x0, x1, x2⟩, _⟩ := HX.out.cells3)
  try (obtain ⟨⟨g0, g1, g2⟩, _⟩ := HG.out.cells3)
  go_wp2_with fail
  refine (e_toJ i d A n c L _ (SL.out.on' HBb.out) hnl).mono ?_
  rintro e w19 ⟨g19, rfl, own19, hb⟩
  try clear p0 p1 p2
  try clear u0 u1 u2
  try clear x0 x1 x2
  try clear g0 g1 g2
  try clear h0 h1 h2
  replace HBb := hide (HBb.out.trans (Below.mono hb HBb.out.size))
  try replace OX := hide (own_below OX.out hb)
  try replace HX := hide (HX.out.below hb HX.out.lt)
  try replace OG0 := hide (own_below OG0.out hb)
  try replace OG1 := hide (own_below OG1.out hb)
  try replace HG := hide (HG.out.below hb HG.out.lt)
  clear hb
  obtain ⟨⟨p0, p1, p2⟩, _⟩ := (HP.out.below HBb.out HP.out.lt).cells3
  obtain ⟨⟨u0, u1, u2⟩, _⟩ := (HW.out.below HBb.out HW.out.lt).cells3
  try (obtain ⟨⟨x0, x1, x2⟩, _⟩ := HX.out.cells3)
  try (obtain ⟨⟨g0, g1, g2⟩, _⟩ := HG.out.cells3)
  go_wp2_with fail
  refine (i_JobNext i d many _ n n L _ (Strs.of_own own19) HS.out HN.out (Nat.le_refl _)).mono ?_
  intro e w20 ho
  obtain ⟨A8, n8, c8, B8, m8, d8, rfl, _, hc8, _, hd8, hsn, hst, hb⟩ := own3_job ho
  rw [HO.out] at hsn hst ⊢
  rw [HBO.out]
  simp only at hsn hst ⊢
  clear ho own19
  try clear p0 p1 p2
  try clear u0 u1 u2
  try clear x0 x1 x2
  try clear g0 g1 g2
  try clear h0 h1 h2
  replace HBb := hide (HBb.out.trans (Below.mono hb HBb.out.size))
  try replace OX := hide (own_below OX.out hb)
  try replace HX := hide (HX.out.below hb HX.out.lt)
  try replace OG0 := hide (own_below OG0.out hb)
  try replace OG1 := hide (own_below OG1.out hb)
  try replace HG := hide (HG.out.below hb HG.out.lt)
  clear hb
  obtain ⟨⟨p0, p1, p2⟩, _⟩ := (HP.out.below HBb.out HP.out.lt).cells3
  obtain ⟨⟨u0, u1, u2⟩, _⟩ := (HW.out.below HBb.out HW.out.lt).cells3
  try (obtain ⟨⟨x0, x1, x2⟩, _⟩ := HX.out.cells3)
  try (obtain ⟨⟨g0, g1, g2⟩, _⟩ := HG.out.cells3)
  have hn8 : n8 ≤ maxLen := by have := hsn.1; unfold maxLen; omega
  have hm8 : m8 ≤ maxLen := by have := hst.1; unfold maxLen; omega
  have hb := (Below.refl w20.heap.size w20).alloc (Nat.le_refl _) (.cells #[.int .i64 j1, .slice B8 m8 d8, .int .i64 j3] 28)
  have SN8 := hide (hsn.on' hb)
  have ST8 := hide (hst.on' hb)
  try clear p0 p1 p2
  try clear u0 u1 u2
  try clear x0 x1 x2
  try clear g0 g1 g2
  try clear h0 h1 h2
  replace HBb := hide (HBb.out.trans (Below.mono hb HBb.out.size))
  try replace OX := hide (own_below OX.out hb)
  try replace HX := hide (HX.out.below hb HX.out.lt)
  try replace OG0 := hide (own_below OG0.out hb)
  try replace OG1 := hide (own_below OG1.out hb)
  try replace HG := hide (HG.out.below hb HG.out.lt)
  clear hb
  obtain ⟨⟨p0, p1, p2⟩, _⟩ := (HP.out.below HBb.out HP.out.lt).cells3
  obtain ⟨⟨u0, u1, u2⟩, _⟩ := (HW.out.below HBb.out HW.out.lt).cells3
  try (obtain ⟨⟨x0, x1, x2⟩, _⟩ := HX.out.cells3)
  try (obtain ⟨⟨g0, g1, g2⟩, _⟩ := HG.out.cells3)
  have HH := hide (Blk.new w20 28 #[.int .i64 j1, .slice B8 m8 d8, .int .i64 j3])
  clear hsn hst
  go_wp2_with fail
  generalize w20.alloc (.cells #[.int .i64 j1, .slice B8 m8 d8, .int .i64 j3] 28) = w21 at *
  refine (e_eq_t A8 n8 c8 Aw nw cw N _ SN8.out (SN.out.on' HBb.out) hn8 hM2).mono ?_
  rintro e w22 ⟨rfl, q8, hq⟩
  have hb : Below w21.heap.size w21 w22 := by rw [hq]; exact below_drewN' _ _ _
  replace HH := hide (HH.out.below hb HH.out.lt)
  replace ST8 := hide (ST8.out.on' hb)
  clear hq
  try clear p0 p1 p2
  try clear u0 u1 u2
  try clear x0 x1 x2
  try clear g0 g1 g2
  try clear h0 h1 h2
  replace HBb := hide (HBb.out.trans (Below.mono hb HBb.out.size))
  try replace OX := hide (own_below OX.out hb)
  try replace HX := hide (HX.out.below hb HX.out.lt)
  try replace OG0 := hide (own_below OG0.out hb)
  try replace OG1 := hide (own_below OG1.out hb)
  try replace HG := hide (HG.out.below hb HG.out.lt)
  clear hb
  obtain ⟨⟨p0, p1, p2⟩, _⟩ := (HP.out.below HBb.out HP.out.lt).cells3
  obtain ⟨⟨u0, u1, u2⟩, _⟩ := (HW.out.below HBb.out HW.out.lt).cells3
  try (obtain ⟨⟨x0, x1, x2⟩, _⟩ := HX.out.cells3)
  try (obtain ⟨⟨g0, g1, g2⟩, _⟩ := HG.out.cells3)
  obtain ⟨⟨h0, h1, h2⟩, _⟩ := HH.out.cells3
  go_wp2_with fail
  refine (e_eqJ j1 j3 B8 m8 d8 Bw mw dw T _ ST8.out (ST.out.on' HBb.out) hm8 hM4).mono ?_
  rintro e w23 ⟨rfl, hb⟩
  try clear p0 p1 p2
  try clear u0 u1 u2
  try clear x0 x1 x2
  try clear g0 g1 g2
  try clear h0 h1 h2
  replace HBb := hide (HBb.out.trans (Below.mono hb HBb.out.size))
  try replace OX := hide (own_below OX.out hb)
  try replace HX := hide (HX.out.below hb HX.out.lt)
  try replace OG0 := hide (own_below OG0.out hb)
  try replace OG1 := hide (own_below OG1.out hb)
  try replace HG := hide (HG.out.below hb HG.out.lt)
  clear hb
  obtain ⟨⟨p0, p1, p2⟩, _⟩ := (HP.out.below HBb.out HP.out.lt).cells3
  obtain ⟨⟨u0, u1, u2⟩, _⟩ := (HW.out.below HBb.out HW.out.lt).cells3
  try (obtain ⟨⟨x0, x1, x2⟩, _⟩ := HX.out.cells3)
  try (obtain ⟨⟨g0, g1, g2⟩, _⟩ := HG.out.cells3)
  go_wp2_with fail
  refine (e_held A7 n7 c7 1 _ (Strs.of_own OG0.out) (by omega) (by omega) (by omega)).mono ?_
  rintro e w24 ⟨rfl, hb⟩
  try clear p0 p1 p2
  try clear u0 u1 u2
  try clear x0 x1 x2
  try clear g0 g1 g2
  try clear h0 h1 h2
  replace HBb := hide (HBb.out.trans (Below.mono hb HBb.out.size))
  try replace OX := hide (own_below OX.out hb)
  try replace HX := hide (HX.out.below hb HX.out.lt)
  try replace OG0 := hide (own_below OG0.out hb)
  try replace OG1 := hide (own_below OG1.out hb)
  try replace HG := hide (HG.out.below hb HG.out.lt)
  clear hb
  obtain ⟨⟨p0, p1, p2⟩, _⟩ := (HP.out.below HBb.out HP.out.lt).cells3
  obtain ⟨⟨u0, u1, u2⟩, _⟩ := (HW.out.below HBb.out HW.out.lt).cells3
  try (obtain ⟨⟨x0, x1, x2⟩, _⟩ := HX.out.cells3)
  try (obtain ⟨⟨g0, g1, g2⟩, _⟩ := HG.out.cells3)
  go_wp2_with fail
  refine (e_heldJ j1 j3 B7 m7 d7 (1 + n7) _ (Strs.of_own OG1.out) (by omega) (by omega) (by omega)).mono ?_
  rintro e w25 ⟨rfl, hb⟩
  try clear p0 p1 p2
  try clear u0 u1 u2
  try clear x0 x1 x2
  try clear g0 g1 g2
  try clear h0 h1 h2
  replace HBb := hide (HBb.out.trans (Below.mono hb HBb.out.size))
  try replace OX := hide (own_below OX.out hb)
  try replace HX := hide (HX.out.below hb HX.out.lt)
  try replace OG0 := hide (own_below OG0.out hb)
  try replace OG1 := hide (own_below OG1.out hb)
  try replace HG := hide (HG.out.below hb HG.out.lt)
  clear hb
  obtain ⟨⟨p0, p1, p2⟩, _⟩ := (HP.out.below HBb.out HP.out.lt).cells3
  obtain ⟨⟨u0, u1, u2⟩, _⟩ := (HW.out.below HBb.out HW.out.lt).cells3
  try (obtain ⟨⟨x0, x1, x2⟩, _⟩ := HX.out.cells3)
  try (obtain ⟨⟨g0, g1, g2⟩, _⟩ := HG.out.cells3)
  go_wp2_with fail
  go_ret
  exact ⟨rfl, BW.out.trans (HBb.out.mono BW.out.size)⟩
end Go.Proofs.Ytimpmlmkhjeajaa
