/- Walks of FnJobRunOn. -/
import Derived.Test.YtimpmlmkhjeajaaZe
import Derived.Test.YtimpmlmkhjeajaaJn
import Derived.Test.YtimpmlmkhjeajaaDrawJ2
import Derived.Test.YtimpmlmkhjeajaaZl
import Derived.Test.YtimpmlmkhjeajaaZb
import Derived.Test.YtimpmlmkhjeajaaZh
set_option linter.unusedVariables false
set_option linter.unusedSimpArgs false
namespace Go.Proofs.Ytimpmlmkhjeajaa
open Go.RowKit Go.BigFrame

set_option maxHeartbeats 1000000 in
set_option maxRecDepth 100000 in
theorem FnJobRunOn_walk (w : World) (A : Option Addr) (n c : Nat) (hc : Code w w.heap.size A n) (hnc : n ≤ c) (hm : n ≤ maxLen) (A0 : Option Addr) (n0 c0 : Nat) (hc0 : Code w w.heap.size A0 n0) (hnc0 : n0 ≤ c0) (hm0 : n0 ≤ maxLen) :
    Calls Try.prog 10 #[.slice A n c, .slice A0 n0 c0] w fun e w' => e = .returned (.bool true) ∧ Below w.heap.size w w' := by
  by_cases h : 1048576 < n
  · unfold maxLen at hm hm0
    go_enter Try.func10, Try.ntmps10
    go_wp2
    go_ret
    exact ⟨rfl, Below.refl _ _⟩
  by_cases h0 : 1048576 < n0
  · unfold maxLen at hm hm0
    go_enter Try.func10, Try.ntmps10
    go_wp2
    go_ret
    exact ⟨rfl, Below.refl _ _⟩
  go_enter Try.func10, Try.ntmps10
  go_wp2_with fail
  refine (d_JobRun A n c w hc hnc (by omega)).mono ?_
  rintro e w1 ⟨v, X, i, d, A1, n1, c1, L, m, rfl, ⟨AX, nX, cX, rfl, hbx, hncX, hcX, hbd, hbb⟩, hdr, hm1, hm2⟩
  have HX1 := hide (hbx.on (on_new w1 28 #[.int .i64 i, .slice A1 n1 c1, .int .i64 d]))
  have Hsx := hide hbd.small
  have Hn0 : Hid (nX ≤ maxLen) := Nat.le_trans hncX hcX
  have HdJ := hide hdr.jd
  have Hsm := hide hdr.small.1
  have hnc1 := hdr.nc
  have hn13 : n1 ≤ 13 := hdr.small.2
  have Hn1 : Hid (n1 ≤ maxLen) := by show n1 ≤ maxLen; unfold maxLen; omega
  have HJ1 := hide (JVar.new (i := i) (d := d) (c := c1) hdr.st)
  obtain ⟨a10, a11, a12⟩ := HJ1.out.cells
  have Hb1 := hide (below_new (e := 28) (cs := #[.int .i64 i, .slice A1 n1 c1, .int .i64 d]) hbb (Nat.le_refl _))
  have hl := hide hdr.st.1
  clear hdr hc hbx hbd hbb
  cases hj : jRunM X (i, L, d) m with
  | none =>
    have HJ := hide hj
    clear hj
    go_wp2_with fail
    refine (i_JobRun AX nX cX X i d m A1 n1 c1 L _ HX1.out Hsx.out Hn0.out HJ1.out.st Hsm.out Hn1.out hnc1).mono ?_
    intro e w2 ho
    rw [HJ.out] at ho
    obtain ⟨A2, n2, c2, B2, m2, d2, rfl, h1, h2, h3, h4, hst2, hsj2, hb2⟩ := own3_rn ho
    have hmd2 := h3
    have HO2 := hide (JVar.new (i := 0) (d := 0) (c := d2) hsj2)
    have HY2 := hide (hst2.on (on_new w2 28 #[.int .i64 0, .slice B2 m2 d2, .int .i64 0]))
    have HX2 := hide ((HX1.out.on hb2).on (on_new w2 28 #[.int .i64 0, .slice B2 m2 d2, .int .i64 0]))
    have HJ2 := hide ((HJ1.out.on hb2).on (on_new w2 28 #[.int .i64 0, .slice B2 m2 d2, .int .i64 0]))
    have Hb2 := hide (below_new (e := 28) (cs := #[.int .i64 0, .slice B2 m2 d2, .int .i64 0]) (below_on Hb1.out (Nat.le_refl _) hb2) (Nat.le_refl _))
    have Hl2 := hide (And.intro (Nat.le_trans h1 h2) (Nat.le_trans h3 h4))
    obtain ⟨b10, b11, b12⟩ := HJ2.out.cells
    clear ho hst2 hsj2 hb2 h1 h2 h3 h4
    go_wp2_with fail
    refine (s_JobRun AX nX cX X i d m A1 n1 c1 L _ HX2.out Hsx.out Hn0.out HJ2.out.st Hsm.out Hn1.out hnc1).mono ?_
    intro e w3 ho
    rw [HJ.out] at ho
    obtain ⟨A3, n3, c3, B3, m3, d3, rfl, h1, h2, h3, h4, hst3, hsj3, hb3⟩ := own3_rn ho
    have HO3 := hide (JVar.new (i := 0) (d := 0) (c := d3) hsj3)
    have HZ3 := hide (hst3.on (on_new w3 28 #[.int .i64 0, .slice B3 m3 d3, .int .i64 0]))
    have HY3 := hide ((HY2.out.on hb3).on (on_new w3 28 #[.int .i64 0, .slice B3 m3 d3, .int .i64 0]))
    have HX3 := hide ((HX2.out.on hb3).on (on_new w3 28 #[.int .i64 0, .slice B3 m3 d3, .int .i64 0]))
    have HP3 := hide ((HO2.out.on hb3).on (on_new w3 28 #[.int .i64 0, .slice B3 m3 d3, .int .i64 0]))
    have HJ3 := hide ((HJ2.out.on hb3).on (on_new w3 28 #[.int .i64 0, .slice B3 m3 d3, .int .i64 0]))
    have Hb3 := hide (below_new (e := 28) (cs := #[.int .i64 0, .slice B3 m3 d3, .int .i64 0]) (below_on Hb2.out (Nat.le_refl _) hb3) (Nat.le_refl _))
    have Hl3 := hide (And.intro (Nat.le_trans h1 h2) (Nat.le_trans h3 h4))
    obtain ⟨p30, p31, p32⟩ := HP3.out.cells
    obtain ⟨q30, q31, q32⟩ := HO3.out.cells
    clear ho hst3 hsj3 hb3 h1 h2 h3 h4
    go_wp2_with fail
    refine (l_sameJ 0 0 B2 m2 d2 B3 m3 d3 [] _ HP3.out.st HO3.out.st Hl2.out.2 Hl3.out.2).mono ?_
    rintro e w4 ⟨rfl, hb4⟩
    have HP4 := hide (HP3.out.on hb4)
    have HQ4 := hide (HO3.out.on hb4)
    have HJ4 := hide (HJ3.out.on hb4)
    have HX4 := hide (HX3.out.on hb4)
    have HY4 := hide (HY3.out.on hb4)
    have HZ4 := hide (HZ3.out.on hb4)
    have Hb4 := hide (below_on Hb3.out (Nat.le_refl _) hb4)
    clear hb4
    go_wp2_with fail
    refine (l_sameBs A2 n2 c2 A3 n3 c3 [] _ HY4.out HZ4.out Hl2.out.1).mono ?_
    rintro e w5 ⟨rfl, hb5⟩
    have HP5 := hide (HP4.out.on hb5)
    have HQ5 := hide (HQ4.out.on hb5)
    have HJ5 := hide (HJ4.out.on hb5)
    have HX5 := hide (HX4.out.on hb5)
    have HY5 := hide (HY4.out.on hb5)
    have HZ5 := hide (HZ4.out.on hb5)
    have Hb5 := hide (below_on Hb4.out (Nat.le_refl _) hb5)
    obtain ⟨j50, j51, j52⟩ := HJ5.out.cells
    obtain ⟨p50, p51, p52⟩ := HP5.out.cells
    obtain ⟨q50, q51, q52⟩ := HQ5.out.cells
    clear hb5 p30 p31 p32 q30 q31 q32 b10 b11 b12 a10 a11 a12
    go_wp2_with fail
    refine (l_sameJ 0 0 B2 m2 d2 B3 m3 d3 [] _ HP5.out.st HQ5.out.st Hl2.out.2 Hl3.out.2).mono ?_
    rintro e w6 ⟨rfl, hb6⟩
    have HY6 := hide (HY5.out.on hb6)
    have HZ6 := hide (HZ5.out.on hb6)
    have Hb6 := hide (below_on Hb5.out (Nat.le_refl _) hb6)
    clear hb6 p50 p51 p52 q50 q51 q52 j50 j51 j52
    go_wp2_with fail
    refine (l_sameBs A2 n2 c2 A3 n3 c3 [] _ HY6.out HZ6.out Hl2.out.1).mono ?_
    rintro e w7 ⟨rfl, hb7⟩
    have Hb7 := hide (below_on Hb6.out (Nat.le_refl _) hb7)
    clear hb7
    go_wp2_with fail
    go_ret
    exact ⟨rfl, Hb7.out⟩
  | some r =>
    obtain ⟨O, x1, x2, x3⟩ := r
    have HJ := hide hj
    have HF := hide (jRun_some hj)
    clear hj
    go_wp2_with fail
    refine (i_JobRun AX nX cX X i d m A1 n1 c1 L _ HX1.out Hsx.out Hn0.out HJ1.out.st Hsm.out Hn1.out hnc1).mono ?_
    intro e w2 ho
    rw [HJ.out] at ho
    obtain ⟨A2, n2, c2, B2, m2, d2, rfl, h1, h2, h3, h4, hst2, hsj2, hb2⟩ := own3_rs ho
    have hmd2 := h3
    have HO2 := hide (JVar.new (i := x1) (d := x3) (c := d2) hsj2)
    have HY2 := hide (hst2.on (on_new w2 28 #[.int .i64 x1, .slice B2 m2 d2, .int .i64 x3]))
    have HX2 := hide ((HX1.out.on hb2).on (on_new w2 28 #[.int .i64 x1, .slice B2 m2 d2, .int .i64 x3]))
    have HJ2 := hide ((HJ1.out.on hb2).on (on_new w2 28 #[.int .i64 x1, .slice B2 m2 d2, .int .i64 x3]))
    have Hb2 := hide (below_new (e := 28) (cs := #[.int .i64 x1, .slice B2 m2 d2, .int .i64 x3]) (below_on Hb1.out (Nat.le_refl _) hb2) (Nat.le_refl _))
    have Hl2 := hide (And.intro (Nat.le_trans h1 h2) (Nat.le_trans h3 h4))
    obtain ⟨b10, b11, b12⟩ := HJ2.out.cells
    clear ho hst2 hsj2 hb2 h1 h2 h3 h4
    go_wp2_with fail
    refine (s_JobRun AX nX cX X i d m A1 n1 c1 L _ HX2.out Hsx.out Hn0.out HJ2.out.st Hsm.out Hn1.out hnc1).mono ?_
    intro e w3 ho
    rw [HJ.out] at ho
    obtain ⟨A3, n3, c3, B3, m3, d3, rfl, h1, h2, h3, h4, hst3, hsj3, hb3⟩ := own3_rs ho
    have HO3 := hide (JVar.new (i := x1) (d := x3) (c := d3) hsj3)
    have HZ3 := hide (hst3.on (on_new w3 28 #[.int .i64 x1, .slice B3 m3 d3, .int .i64 x3]))
    have HY3 := hide ((HY2.out.on hb3).on (on_new w3 28 #[.int .i64 x1, .slice B3 m3 d3, .int .i64 x3]))
    have HX3 := hide ((HX2.out.on hb3).on (on_new w3 28 #[.int .i64 x1, .slice B3 m3 d3, .int .i64 x3]))
    have HP3 := hide ((HO2.out.on hb3).on (on_new w3 28 #[.int .i64 x1, .slice B3 m3 d3, .int .i64 x3]))
    have HJ3 := hide ((HJ2.out.on hb3).on (on_new w3 28 #[.int .i64 x1, .slice B3 m3 d3, .int .i64 x3]))
    have Hb3 := hide (below_new (e := 28) (cs := #[.int .i64 x1, .slice B3 m3 d3, .int .i64 x3]) (below_on Hb2.out (Nat.le_refl _) hb3) (Nat.le_refl _))
    have Hl3 := hide (And.intro (Nat.le_trans h1 h2) (Nat.le_trans h3 h4))
    obtain ⟨p30, p31, p32⟩ := HP3.out.cells
    obtain ⟨q30, q31, q32⟩ := HO3.out.cells
    clear ho hst3 hsj3 hb3 h1 h2 h3 h4
    go_wp2_with fail
    refine (l_sameJ x1 x3 B2 m2 d2 B3 m3 d3 x2 _ HP3.out.st HO3.out.st Hl2.out.2 Hl3.out.2).mono ?_
    rintro e w4 ⟨rfl, hb4⟩
    have HP4 := hide (HP3.out.on hb4)
    have HQ4 := hide (HO3.out.on hb4)
    have HJ4 := hide (HJ3.out.on hb4)
    have HX4 := hide (HX3.out.on hb4)
    have HY4 := hide (HY3.out.on hb4)
    have HZ4 := hide (HZ3.out.on hb4)
    have Hb4 := hide (below_on Hb3.out (Nat.le_refl _) hb4)
    clear hb4
    go_wp2_with fail
    refine (l_sameBs A2 n2 c2 A3 n3 c3 O _ HY4.out HZ4.out Hl2.out.1).mono ?_
    rintro e w5 ⟨rfl, hb5⟩
    have HP5 := hide (HP4.out.on hb5)
    have HQ5 := hide (HQ4.out.on hb5)
    have HJ5 := hide (HJ4.out.on hb5)
    have HX5 := hide (HX4.out.on hb5)
    have HY5 := hide (HY4.out.on hb5)
    have HZ5 := hide (HZ4.out.on hb5)
    have Hb5 := hide (below_on Hb4.out (Nat.le_refl _) hb5)
    obtain ⟨j50, j51, j52⟩ := HJ5.out.cells
    obtain ⟨p50, p51, p52⟩ := HP5.out.cells
    obtain ⟨q50, q51, q52⟩ := HQ5.out.cells
    clear hb5 p30 p31 p32 q30 q31 q32 b10 b11 b12 a10 a11 a12
    obtain ⟨N, hF⟩ := HF.out
    have hm3 : 0 ≤ m := hF.jn.m
    have hk0 : 0 ≤ (n0 : Int) % (m + 1) := Int.emod_nonneg _ (by omega)
    have hk1 : (n0 : Int) % (m + 1) ≤ m := by have := Int.emod_lt_of_pos (n0 : Int) (show 0 < m + 1 by omega); omega
    obtain ⟨Y, ⟨y1, y2, y3⟩, t1, t2⟩ := hF.on hk0 hk1
    obtain ⟨M, hG⟩ := jRun_some t1
    have HSY : Hid (BSmall Y) := bxs_small' hG.ran.val
    have hy := hG.jn.same.2.1
    simp only at hy
    subst hy
    have HT1 := hide t1
    have HT2 := hide t2
    have Hk0 := hide hk0
    have Hk1 := hide hk1
    clear hF hG t1 t2 hk0 hk1
    go_wp2_with fail
    have hk0 := Hk0.out
    have hk1 := Hk1.out
    clear Hk0 Hk1
    generalize (n0 : Int) % (m + 1) = k at *
    refine (i_JobRun AX nX cX X i d k A1 n1 c1 y2 _ HX5.out Hsx.out Hn0.out HJ5.out.st Hsm.out Hn1.out hnc1).mono ?_
    intro e w6 ho
    rw [HT1.out] at ho
    obtain ⟨A6, n6, c6, B6, m6, d6, rfl, h1, h2, h3, h4, hst6, hsj6, hb6⟩ := own3_rs ho
    have hmd6 := h3
    have HO6 := hide (JVar.new (i := y1) (d := y3) (c := d6) hsj6)
    have HZ6 := hide (hst6.on (on_new w6 28 #[.int .i64 y1, .slice B6 m6 d6, .int .i64 y3]))
    have HY6 := hide ((HY5.out.on hb6).on (on_new w6 28 #[.int .i64 y1, .slice B6 m6 d6, .int .i64 y3]))
    have HP6 := hide ((HP5.out.on hb6).on (on_new w6 28 #[.int .i64 y1, .slice B6 m6 d6, .int .i64 y3]))
    have Hb6 := hide (below_new (e := 28) (cs := #[.int .i64 y1, .slice B6 m6 d6, .int .i64 y3]) (below_on Hb5.out (Nat.le_refl _) hb6) (Nat.le_refl _))
    have Hl6 := hide (And.intro (Nat.le_trans h1 h2) (Nat.le_trans h3 h4))
    obtain ⟨o60, o61, o62⟩ := HO6.out.cells
    clear ho hst6 hsj6 hb6 h1 h2 h3 h4 j50 j51 j52 p50 p51 p52 q50 q51 q52
    go_wp2_with fail
    refine (i_JobRun A6 n6 c6 Y y1 y3 (m - k) B6 m6 d6 y2 _ HZ6.out HSY.out Hl6.out.1 HO6.out.st Hsm.out Hl6.out.2 hmd6).mono ?_
    intro e w7 ho
    rw [HT2.out] at ho
    obtain ⟨A7, n7, c7, B7, m7, d7, rfl, h1, h2, h3, h4, hst7, hsj7, hb7⟩ := own3_rs ho
    have HO7 := hide (JVar.new (i := x1) (d := x3) (c := d7) hsj7)
    have HZ7 := hide (hst7.on (on_new w7 28 #[.int .i64 x1, .slice B7 m7 d7, .int .i64 x3]))
    have HY7 := hide ((HY6.out.on hb7).on (on_new w7 28 #[.int .i64 x1, .slice B7 m7 d7, .int .i64 x3]))
    have HP7 := hide ((HP6.out.on hb7).on (on_new w7 28 #[.int .i64 x1, .slice B7 m7 d7, .int .i64 x3]))
    have Hb7 := hide (below_new (e := 28) (cs := #[.int .i64 x1, .slice B7 m7 d7, .int .i64 x3]) (below_on Hb6.out (Nat.le_refl _) hb7) (Nat.le_refl _))
    have Hl7 := hide (And.intro (Nat.le_trans h1 h2) (Nat.le_trans h3 h4))
    clear ho hst7 hsj7 hb7 h1 h2 h3 h4 o60 o61 o62
    go_wp2_with fail
    refine (l_sameBs A7 n7 c7 A2 n2 c2 O _ HZ7.out HY7.out Hl7.out.1).mono ?_
    rintro e w8 ⟨rfl, hb8⟩
    have HO8 := hide (HO7.out.on hb8)
    have HP8 := hide (HP7.out.on hb8)
    have Hb8 := hide (below_on Hb7.out (Nat.le_refl _) hb8)
    obtain ⟨o80, o81, o82⟩ := HO8.out.cells
    obtain ⟨p80, p81, p82⟩ := HP8.out.cells
    clear hb8
    go_wp2_with fail
    refine (l_sameJ x1 x3 B7 m7 d7 B2 m2 d2 x2 _ HO8.out.st HP8.out.st Hl7.out.2 Hl2.out.2).mono ?_
    rintro e w9 ⟨rfl, hb9⟩
    have Hb9 := hide (below_on Hb8.out (Nat.le_refl _) hb9)
    clear hb9
    go_wp2_with fail
    go_ret
    exact ⟨rfl, Hb9.out⟩
end Go.Proofs.Ytimpmlmkhjeajaa
