/- Walks of FnJobRunNone. -/
import Derived.Test.YtimpmlmkhjeajaaZe
import Derived.Test.YtimpmlmkhjeajaaJn
import Derived.Test.YtimpmlmkhjeajaaDrawJ2
import Derived.Test.YtimpmlmkhjeajaaZl
import Derived.Test.YtimpmlmkhjeajaaZb
import Derived.Test.YtimpmlmkhjeajaaZh
set_option linter.unusedVariables false
set_option linter.unusedSimpArgs false
namespace Go.Proofs.Ytimpmlmkhjeajaa
open Go.RowKit Go.BigFrame

set_option maxHeartbeats 1000000 in
set_option maxRecDepth 100000 in
theorem FnJobRunNone_walk (w : World) (A : Option Addr) (n c : Nat) (hc : Code w w.heap.size A n) (hnc : n ≤ c) (hm : n ≤ maxLen) :
    Calls Try.prog 13 #[.slice A n c] w fun e w' => e = .returned (.bool true) ∧ Below w.heap.size w w' := by
  by_cases h : 1048576 < n
  · unfold maxLen at hm
    go_enter Try.func13, Try.ntmps13
    go_wp2
    go_ret
    exact ⟨rfl, Below.refl _ _⟩
  go_enter Try.func13, Try.ntmps13
  go_wp2_with fail
  refine (d_JobRun A n c w hc hnc (by omega)).mono ?_
  rintro e w1 ⟨v, X, i, d, A1, n1, c1, L, m, rfl, ⟨AX, nX, cX, rfl, hbx, hncX, hcX, hbd, hbb⟩, hdr, hm1, hm2⟩
  have HX1 := hide (hbx.on (on_new w1 28 #[.int .i64 i, .slice A1 n1 c1, .int .i64 d]))
  have Hsx := hide hbd.small
  have Hn0 : Hid (nX ≤ maxLen) := Nat.le_trans hncX hcX
  have HdJ := hide hdr.jd
  have Hsm := hide hdr.small.1
  have hnc1 := hdr.nc
  have hn13 : n1 ≤ 13 := hdr.small.2
  have Hn1 : Hid (n1 ≤ maxLen) := by show n1 ≤ maxLen; unfold maxLen; omega
  have HJ1 := hide (JVar.new (i := i) (d := d) (c := c1) hdr.st)
  obtain ⟨a10, a11, a12⟩ := HJ1.out.cells
  have Hb1 := hide (below_new (e := 28) (cs := #[.int .i64 i, .slice A1 n1 c1, .int .i64 d]) hbb (Nat.le_refl _))
  have hl := hide hdr.st.1
  clear hdr hc hbx hbd hbb
  cases hj : jRunM X (i, L, d) m with
  | none =>
    have HJ := hide hj
    clear hj
    go_wp2_with fail
    refine (i_JobRun AX nX cX X i d m A1 n1 c1 L _ HX1.out Hsx.out Hn0.out HJ1.out.st Hsm.out Hn1.out hnc1).mono ?_
    intro e w2 ho
    rw [HJ.out] at ho
    obtain ⟨A2, n2, c2, B2, m2, d2, rfl, h1, h2, h3, h4, hst2, hsj2, hb2⟩ := own3_rn ho
    have hmd2 := h3
    have HO2 := hide (JVar.new (i := 0) (d := 0) (c := d2) hsj2)
    have HY2 := hide (hst2.on (on_new w2 28 #[.int .i64 0, .slice B2 m2 d2, .int .i64 0]))
    have HX2 := hide ((HX1.out.on hb2).on (on_new w2 28 #[.int .i64 0, .slice B2 m2 d2, .int .i64 0]))
    have HJ2 := hide ((HJ1.out.on hb2).on (on_new w2 28 #[.int .i64 0, .slice B2 m2 d2, .int .i64 0]))
    have Hb2 := hide (below_new (e := 28) (cs := #[.int .i64 0, .slice B2 m2 d2, .int .i64 0]) (below_on Hb1.out (Nat.le_refl _) hb2) (Nat.le_refl _))
    have Hl2 := hide (And.intro (Nat.le_trans h1 h2) (Nat.le_trans h3 h4))
    obtain ⟨b10, b11, b12⟩ := HJ2.out.cells
    clear ho hst2 hsj2 hb2 h1 h2 h3 h4
    go_wp2_with fail
    refine (s_JobRun AX nX cX X i d m A1 n1 c1 L _ HX2.out Hsx.out Hn0.out HJ2.out.st Hsm.out Hn1.out hnc1).mono ?_
    intro e w3 ho
    rw [HJ.out] at ho
    obtain ⟨A3, n3, c3, B3, m3, d3, rfl, h1, h2, h3, h4, hst3, hsj3, hb3⟩ := own3_rn ho
    have HO3 := hide (JVar.new (i := 0) (d := 0) (c := d3) hsj3)
    have HZ3 := hide (hst3.on (on_new w3 28 #[.int .i64 0, .slice B3 m3 d3, .int .i64 0]))
    have HY3 := hide ((HY2.out.on hb3).on (on_new w3 28 #[.int .i64 0, .slice B3 m3 d3, .int .i64 0]))
    have HX3 := hide ((HX2.out.on hb3).on (on_new w3 28 #[.int .i64 0, .slice B3 m3 d3, .int .i64 0]))
    have HP3 := hide ((HO2.out.on hb3).on (on_new w3 28 #[.int .i64 0, .slice B3 m3 d3, .int .i64 0]))
    have HJ3 := hide ((HJ2.out.on hb3).on (on_new w3 28 #[.int .i64 0, .slice B3 m3 d3, .int .i64 0]))
    have Hb3 := hide (below_new (e := 28) (cs := #[.int .i64 0, .slice B3 m3 d3, .int .i64 0]) (below_on Hb2.out (Nat.le_refl _) hb3) (Nat.le_refl _))
    have Hl3 := hide (And.intro (Nat.le_trans h1 h2) (Nat.le_trans h3 h4))
    obtain ⟨p30, p31, p32⟩ := HP3.out.cells
    obtain ⟨q30, q31, q32⟩ := HO3.out.cells
    clear ho hst3 hsj3 hb3 h1 h2 h3 h4
    go_wp2_with fail
    refine (l_sameJ 0 0 B2 m2 d2 B3 m3 d3 [] _ HP3.out.st HO3.out.st Hl2.out.2 Hl3.out.2).mono ?_
    rintro e w4 ⟨rfl, hb4⟩
    have HP4 := hide (HP3.out.on hb4)
    have HQ4 := hide (HO3.out.on hb4)
    have HJ4 := hide (HJ3.out.on hb4)
    have HX4 := hide (HX3.out.on hb4)
    have HY4 := hide (HY3.out.on hb4)
    have HZ4 := hide (HZ3.out.on hb4)
    have Hb4 := hide (below_on Hb3.out (Nat.le_refl _) hb4)
    clear hb4
    go_wp2_with fail
    refine (l_sameBs A2 n2 c2 A3 n3 c3 [] _ HY4.out HZ4.out Hl2.out.1).mono ?_
    rintro e w5 ⟨rfl, hb5⟩
    have HP5 := hide (HP4.out.on hb5)
    have HQ5 := hide (HQ4.out.on hb5)
    have HJ5 := hide (HJ4.out.on hb5)
    have HX5 := hide (HX4.out.on hb5)
    have HY5 := hide (HY4.out.on hb5)
    have HZ5 := hide (HZ4.out.on hb5)
    have Hb5 := hide (below_on Hb4.out (Nat.le_refl _) hb5)
    obtain ⟨j50, j51, j52⟩ := HJ5.out.cells
    obtain ⟨p50, p51, p52⟩ := HP5.out.cells
    obtain ⟨q50, q51, q52⟩ := HQ5.out.cells
    clear hb5 p30 p31 p32 q30 q31 q32 b10 b11 b12 a10 a11 a12
    go_wp2_with fail
    refine (l_sameJ 0 0 B2 m2 d2 B3 m3 d3 [] _ HP5.out.st HQ5.out.st Hl2.out.2 Hl3.out.2).mono ?_
    rintro e w6 ⟨rfl, hb6⟩
    have HY6 := hide (HY5.out.on hb6)
    have HZ6 := hide (HZ5.out.on hb6)
    have Hb6 := hide (below_on Hb5.out (Nat.le_refl _) hb6)
    clear hb6 p50 p51 p52 q50 q51 q52 j50 j51 j52
    go_wp2_with fail
    refine (l_sameBs A2 n2 c2 A3 n3 c3 [] _ HY6.out HZ6.out Hl2.out.1).mono ?_
    rintro e w7 ⟨rfl, hb7⟩
    have Hb7 := hide (below_on Hb6.out (Nat.le_refl _) hb7)
    clear hb7
    go_wp2_with fail
    go_ret
    exact ⟨rfl, Hb7.out⟩
  | some r =>
    obtain ⟨O, x1, x2, x3⟩ := r
    have HJ := hide hj
    have HF := hide (jRun_some hj)
    clear hj
    go_wp2_with fail
    refine (i_JobRun AX nX cX X i d m A1 n1 c1 L _ HX1.out Hsx.out Hn0.out HJ1.out.st Hsm.out Hn1.out hnc1).mono ?_
    intro e w2 ho
    rw [HJ.out] at ho
    obtain ⟨A2, n2, c2, B2, m2, d2, rfl, h1, h2, h3, h4, hst2, hsj2, hb2⟩ := own3_rs ho
    have hmd2 := h3
    have HO2 := hide (JVar.new (i := x1) (d := x3) (c := d2) hsj2)
    have HY2 := hide (hst2.on (on_new w2 28 #[.int .i64 x1, .slice B2 m2 d2, .int .i64 x3]))
    have HX2 := hide ((HX1.out.on hb2).on (on_new w2 28 #[.int .i64 x1, .slice B2 m2 d2, .int .i64 x3]))
    have HJ2 := hide ((HJ1.out.on hb2).on (on_new w2 28 #[.int .i64 x1, .slice B2 m2 d2, .int .i64 x3]))
    have Hb2 := hide (below_new (e := 28) (cs := #[.int .i64 x1, .slice B2 m2 d2, .int .i64 x3]) (below_on Hb1.out (Nat.le_refl _) hb2) (Nat.le_refl _))
    have Hl2 := hide (And.intro (Nat.le_trans h1 h2) (Nat.le_trans h3 h4))
    obtain ⟨b10, b11, b12⟩ := HJ2.out.cells
    clear ho hst2 hsj2 hb2 h1 h2 h3 h4
    go_wp2_with fail
    refine (s_JobRun AX nX cX X i d m A1 n1 c1 L _ HX2.out Hsx.out Hn0.out HJ2.out.st Hsm.out Hn1.out hnc1).mono ?_
    intro e w3 ho
    rw [HJ.out] at ho
    obtain ⟨A3, n3, c3, B3, m3, d3, rfl, h1, h2, h3, h4, hst3, hsj3, hb3⟩ := own3_rs ho
    have HO3 := hide (JVar.new (i := x1) (d := x3) (c := d3) hsj3)
    have HZ3 := hide (hst3.on (on_new w3 28 #[.int .i64 x1, .slice B3 m3 d3, .int .i64 x3]))
    have HY3 := hide ((HY2.out.on hb3).on (on_new w3 28 #[.int .i64 x1, .slice B3 m3 d3, .int .i64 x3]))
    have HX3 := hide ((HX2.out.on hb3).on (on_new w3 28 #[.int .i64 x1, .slice B3 m3 d3, .int .i64 x3]))
    have HP3 := hide ((HO2.out.on hb3).on (on_new w3 28 #[.int .i64 x1, .slice B3 m3 d3, .int .i64 x3]))
    have HJ3 := hide ((HJ2.out.on hb3).on (on_new w3 28 #[.int .i64 x1, .slice B3 m3 d3, .int .i64 x3]))
    have Hb3 := hide (below_new (e := 28) (cs := #[.int .i64 x1, .slice B3 m3 d3, .int .i64 x3]) (below_on Hb2.out (Nat.le_refl _) hb3) (Nat.le_refl _))
    have Hl3 := hide (And.intro (Nat.le_trans h1 h2) (Nat.le_trans h3 h4))
    obtain ⟨p30, p31, p32⟩ := HP3.out.cells
    obtain ⟨q30, q31, q32⟩ := HO3.out.cells
    clear ho hst3 hsj3 hb3 h1 h2 h3 h4
    go_wp2_with fail
    refine (l_sameJ x1 x3 B2 m2 d2 B3 m3 d3 x2 _ HP3.out.st HO3.out.st Hl2.out.2 Hl3.out.2).mono ?_
    rintro e w4 ⟨rfl, hb4⟩
    have HP4 := hide (HP3.out.on hb4)
    have HQ4 := hide (HO3.out.on hb4)
    have HJ4 := hide (HJ3.out.on hb4)
    have HX4 := hide (HX3.out.on hb4)
    have HY4 := hide (HY3.out.on hb4)
    have HZ4 := hide (HZ3.out.on hb4)
    have Hb4 := hide (below_on Hb3.out (Nat.le_refl _) hb4)
    clear hb4
    go_wp2_with fail
    refine (l_sameBs A2 n2 c2 A3 n3 c3 O _ HY4.out HZ4.out Hl2.out.1).mono ?_
    rintro e w5 ⟨rfl, hb5⟩
    have HP5 := hide (HP4.out.on hb5)
    have HQ5 := hide (HQ4.out.on hb5)
    have HJ5 := hide (HJ4.out.on hb5)
    have HX5 := hide (HX4.out.on hb5)
    have HY5 := hide (HY4.out.on hb5)
    have HZ5 := hide (HZ4.out.on hb5)
    have Hb5 := hide (below_on Hb4.out (Nat.le_refl _) hb5)
    obtain ⟨j50, j51, j52⟩ := HJ5.out.cells
    obtain ⟨p50, p51, p52⟩ := HP5.out.cells
    obtain ⟨q50, q51, q52⟩ := HQ5.out.cells
    clear hb5 p30 p31 p32 q30 q31 q32 b10 b11 b12 a10 a11 a12
    obtain ⟨N, hF⟩ := HF.out
    have HT := hide hF.none_
    clear hF
    go_wp2_with fail
    refine (i_JobRun AX nX cX X i d 0 A1 n1 c1 L _ HX5.out Hsx.out Hn0.out HJ5.out.st Hsm.out Hn1.out hnc1).mono ?_
    intro e w6 ho
    rw [HT.out] at ho
    obtain ⟨A6, n6, c6, B6, m6, d6, rfl, h1, h2, h3, h4, hst6, hsj6, hb6⟩ := own3_rs ho
    have HO6 := hide (JVar.new (i := i) (d := d) (c := d6) hsj6)
    have HZ6 := hide (hst6.on (on_new w6 28 #[.int .i64 i, .slice B6 m6 d6, .int .i64 d]))
    have HC6 := hide ((HX5.out.on hb6).on (on_new w6 28 #[.int .i64 i, .slice B6 m6 d6, .int .i64 d]))
    have HD6 := hide ((HJ5.out.on hb6).on (on_new w6 28 #[.int .i64 i, .slice B6 m6 d6, .int .i64 d]))
    have Hb6 := hide (below_new (e := 28) (cs := #[.int .i64 i, .slice B6 m6 d6, .int .i64 d]) (below_on Hb5.out (Nat.le_refl _) hb6) (Nat.le_refl _))
    have Hl6 := hide (And.intro (Nat.le_trans h1 h2) (Nat.le_trans h3 h4))
    clear ho hst6 hsj6 hb6 h1 h2 h3 h4
    go_wp2_with fail
    refine (l_sameBs A6 n6 c6 AX nX cX X _ HZ6.out HC6.out Hl6.out.1).mono ?_
    rintro e w7 ⟨rfl, hb7⟩
    have HO7 := hide (HO6.out.on hb7)
    have HD7 := hide (HD6.out.on hb7)
    have Hb7 := hide (below_on Hb6.out (Nat.le_refl _) hb7)
    obtain ⟨o70, o71, o72⟩ := HO7.out.cells
    obtain ⟨s70, s71, s72⟩ := HD7.out.cells
    clear hb7 j50 j51 j52 p50 p51 p52 q50 q51 q52
    go_wp2_with fail
    refine (l_sameJ i d B6 m6 d6 A1 n1 c1 L _ HO7.out.st HD7.out.st Hl6.out.2 Hn1.out).mono ?_
    rintro e w8 ⟨rfl, hb8⟩
    have Hb8 := hide (below_on Hb7.out (Nat.le_refl _) hb8)
    clear hb8
    go_wp2_with fail
    go_ret
    exact ⟨rfl, Hb8.out⟩
end Go.Proofs.Ytimpmlmkhjeajaa
