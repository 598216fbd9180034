/- Walks of FnJobNext, FnJobNextSame, FnJobNextAll, FnJobNextOn. -/
import Derived.Test.YtimpmlmkhjeajaaZe
import Derived.Test.YtimpmlmkhjeajaaJn
import Derived.Test.YtimpmlmkhjeajaaDrawJ2
import Derived.Test.YtimpmlmkhjeajaaZl
import Derived.Test.YtimpmlmkhjeajaaZb
set_option linter.unusedVariables false
set_option linter.unusedSimpArgs false
namespace Go.Proofs.Ytimpmlmkhjeajaa
open Go.RowKit Go.BigFrame

set_option maxHeartbeats 1000000 in
set_option maxRecDepth 100000 in
theorem FnJobNextSame_walk (w : World) (A : Option Addr) (n c : Nat) (hc : Code w w.heap.size A n) (hnc : n ≤ c) (hm : n ≤ maxLen) :
    Calls Try.prog 5 #[.slice A n c] w fun e w' => e = .returned (.bool true) ∧ Below w.heap.size w w' := by
  by_cases h : 1048576 < n
  · unfold maxLen at hm
    go_enter Try.func5, Try.ntmps5
    go_wp2
    go_ret
    exact ⟨rfl, Below.refl _ _⟩
  go_enter Try.func5, Try.ntmps5
  go_wp2_with fail
  refine (d_JobNext A n c w hc hnc (by omega)).mono ?_
  rintro e w1 ⟨i, d, A1, n1, c1, L, m, rfl, hdr, hm1, hm2⟩
  have HdJ := hide hdr.jd
  have Hsm := hide hdr.small.1
  have hnc1 := hdr.nc
  have hn13 : n1 ≤ 13 := hdr.small.2
  have Hn1 : Hid (n1 ≤ maxLen) := by show n1 ≤ maxLen; unfold maxLen; omega
  have HJ1 := hide (JVar.new (i := i) (d := d) (c := c1) hdr.st)
  have Hb1 := hide (below_new (e := 28) (cs := #[.int .i64 i, .slice A1 n1 c1, .int .i64 d]) hdr.below (Nat.le_refl _))
  obtain ⟨a10, a11, a12⟩ := HJ1.out.cells
  have hl := hide hdr.st.1
  clear hdr hc
  cases hj : jNextM (i, L, d) m with
  | none =>
    have HJ := hide hj
    clear hj
    go_wp2_with fail
    refine (i_JobNext i d m A1 n1 c1 L _ HJ1.out.st Hsm.out Hn1.out hnc1).mono ?_
    intro e w2 ho
    rw [HJ.out] at ho
    obtain ⟨A2, n2, c2, B2, m2, d2, rfl, h1, h2, h3, h4, hst2, hsj2, hb2⟩ := own3_n ho
    have HO2 := hide (JVar.new (i := 0) (d := 0) (c := d2) hsj2)
    have HN2 := hide (hst2.on' (on_new w2 28 #[.int .i64 0, .slice B2 m2 d2, .int .i64 0]))
    have HJ2 := hide ((HJ1.out.on hb2).on (on_new w2 28 #[.int .i64 0, .slice B2 m2 d2, .int .i64 0]))
    have Hb2 := hide (below_new (e := 28) (cs := #[.int .i64 0, .slice B2 m2 d2, .int .i64 0]) (below_on Hb1.out (Nat.le_refl _) hb2) (Nat.le_refl _))
    have Hl2 := hide (And.intro (Nat.le_trans h1 h2) (Nat.le_trans h3 h4))
    obtain ⟨b10, b11, b12⟩ := HJ2.out.cells
    clear ho hst2 hsj2 hb2 h1 h2 h3 h4
    go_wp2_with fail
    refine (s_JobNext i d m A1 n1 c1 L _ HJ2.out.st Hsm.out Hn1.out hnc1).mono ?_
    intro e w3 ho
    rw [HJ.out] at ho
    obtain ⟨A3, n3, c3, B3, m3, d3, rfl, h1, h2, h3, h4, hst3, hsj3, hb3⟩ := own3_n ho
    have HO3 := hide (JVar.new (i := 0) (d := 0) (c := d3) hsj3)
    have HM3 := hide (hst3.on' (on_new w3 28 #[.int .i64 0, .slice B3 m3 d3, .int .i64 0]))
    have HN3 := hide ((HN2.out.on' hb3).on' (on_new w3 28 #[.int .i64 0, .slice B3 m3 d3, .int .i64 0]))
    have HP3 := hide ((HO2.out.on hb3).on (on_new w3 28 #[.int .i64 0, .slice B3 m3 d3, .int .i64 0]))
    have Hb3 := hide (below_new (e := 28) (cs := #[.int .i64 0, .slice B3 m3 d3, .int .i64 0]) (below_on Hb2.out (Nat.le_refl _) hb3) (Nat.le_refl _))
    have Hl3 := hide (And.intro (Nat.le_trans h1 h2) (Nat.le_trans h3 h4))
    clear ho hst3 hsj3 hb3 h1 h2 h3 h4
    go_wp2_with fail
    refine (l_same_t A2 n2 c2 A3 n3 c3 [] _ HN3.out HM3.out Hl2.out.1 Hl3.out.1).mono ?_
    rintro e w4 ⟨rfl, q4, e4⟩
    have hb4 : Below (w3.alloc (.cells #[.int .i64 0, .slice B3 m3 d3, .int .i64 0] 28)).heap.size (w3.alloc (.cells #[.int .i64 0, .slice B3 m3 d3, .int .i64 0] 28)) w4 := by rw [e4]; exact below_drewN' _ _ _
    have HP4 := hide (HP3.out.on hb4)
    have HQ4 := hide (HO3.out.on hb4)
    have HN4 := hide (HN3.out.on' hb4)
    have HM4 := hide (HM3.out.on' hb4)
    have Hb4 := hide (below_on Hb3.out (Nat.le_refl _) hb4)
    obtain ⟨p40, p41, p42⟩ := HP4.out.cells
    obtain ⟨q40, q41, q42⟩ := HQ4.out.cells
    clear e4 hb4
    go_wp2_with fail
    refine (l_sameJ 0 0 B2 m2 d2 B3 m3 d3 [] _ HP4.out.st HQ4.out.st Hl2.out.2 Hl3.out.2).mono ?_
    rintro e w5 ⟨rfl, hb5⟩
    have HN5 := hide (HN4.out.on' hb5)
    have HM5 := hide (HM4.out.on' hb5)
    have HP5 := hide (HP4.out.on hb5)
    have HQ5 := hide (HQ4.out.on hb5)
    have Hb5 := hide (below_on Hb4.out (Nat.le_refl _) hb5)
    clear hb5
    go_wp2_with fail
    refine (l_same_t A2 n2 c2 A3 n3 c3 [] _ HN5.out HM5.out Hl2.out.1 Hl3.out.1).mono ?_
    rintro e w6 ⟨rfl, q6, e6⟩
    have hb6 : Below w5.heap.size w5 w6 := by rw [e6]; exact below_drewN' _ _ _
    have HP6 := hide (HP5.out.on hb6)
    have HQ6 := hide (HQ5.out.on hb6)
    have Hb6 := hide (below_on Hb5.out (Nat.le_refl _) hb6)
    obtain ⟨p60, p61, p62⟩ := HP6.out.cells
    obtain ⟨q60, q61, q62⟩ := HQ6.out.cells
    clear e6 hb6
    go_wp2_with fail
    refine (l_sameJ 0 0 B2 m2 d2 B3 m3 d3 [] _ HP6.out.st HQ6.out.st Hl2.out.2 Hl3.out.2).mono ?_
    rintro e w7 ⟨rfl, hb7⟩
    have Hb7 := hide (below_on Hb6.out (Nat.le_refl _) hb7)
    clear hb7
    go_wp2_with fail
    go_ret
    exact ⟨rfl, Hb7.out⟩
  | some r =>
    obtain ⟨N, x1, x2, x3⟩ := r
    have HJ := hide hj
    have HF := hide (jNext_some hj)
    clear hj
    go_wp2_with fail
    refine (i_JobNext i d m A1 n1 c1 L _ HJ1.out.st Hsm.out Hn1.out hnc1).mono ?_
    intro e w2 ho
    rw [HJ.out] at ho
    obtain ⟨A2, n2, c2, B2, m2, d2, rfl, h1, h2, h3, h4, hst2, hsj2, hb2⟩ := own3_s ho
    have HO2 := hide (JVar.new (i := x1) (d := x3) (c := d2) hsj2)
    have HN2 := hide (hst2.on' (on_new w2 28 #[.int .i64 x1, .slice B2 m2 d2, .int .i64 x3]))
    have HJ2 := hide ((HJ1.out.on hb2).on (on_new w2 28 #[.int .i64 x1, .slice B2 m2 d2, .int .i64 x3]))
    have Hb2 := hide (below_new (e := 28) (cs := #[.int .i64 x1, .slice B2 m2 d2, .int .i64 x3]) (below_on Hb1.out (Nat.le_refl _) hb2) (Nat.le_refl _))
    have Hl2 := hide (And.intro (Nat.le_trans h1 h2) (Nat.le_trans h3 h4))
    have hmd2 := h3
    have hnc2 := h1
    obtain ⟨b10, b11, b12⟩ := HJ2.out.cells
    clear ho hst2 hsj2 hb2 h1 h2 h3 h4
    go_wp2_with fail
    refine (s_JobNext i d m A1 n1 c1 L _ HJ2.out.st Hsm.out Hn1.out hnc1).mono ?_
    intro e w3 ho
    rw [HJ.out] at ho
    obtain ⟨A3, n3, c3, B3, m3, d3, rfl, h1, h2, h3, h4, hst3, hsj3, hb3⟩ := own3_s ho
    have HO3 := hide (JVar.new (i := x1) (d := x3) (c := d3) hsj3)
    have HM3 := hide (hst3.on' (on_new w3 28 #[.int .i64 x1, .slice B3 m3 d3, .int .i64 x3]))
    have HN3 := hide ((HN2.out.on' hb3).on' (on_new w3 28 #[.int .i64 x1, .slice B3 m3 d3, .int .i64 x3]))
    have HP3 := hide ((HO2.out.on hb3).on (on_new w3 28 #[.int .i64 x1, .slice B3 m3 d3, .int .i64 x3]))
    have HJ3 := hide ((HJ2.out.on hb3).on (on_new w3 28 #[.int .i64 x1, .slice B3 m3 d3, .int .i64 x3]))
    have Hb3 := hide (below_new (e := 28) (cs := #[.int .i64 x1, .slice B3 m3 d3, .int .i64 x3]) (below_on Hb2.out (Nat.le_refl _) hb3) (Nat.le_refl _))
    have Hl3 := hide (And.intro (Nat.le_trans h1 h2) (Nat.le_trans h3 h4))
    clear ho hst3 hsj3 hb3 h1 h2 h3 h4
    go_wp2_with fail
    refine (l_same_t A2 n2 c2 A3 n3 c3 N _ HN3.out HM3.out Hl2.out.1 Hl3.out.1).mono ?_
    rintro e w4 ⟨rfl, q4, e4⟩
    have hb4 : Below (w3.alloc (.cells #[.int .i64 x1, .slice B3 m3 d3, .int .i64 x3] 28)).heap.size (w3.alloc (.cells #[.int .i64 x1, .slice B3 m3 d3, .int .i64 x3] 28)) w4 := by rw [e4]; exact below_drewN' _ _ _
    have HP4 := hide (HP3.out.on hb4)
    have HQ4 := hide (HO3.out.on hb4)
    have HJ4 := hide (HJ3.out.on hb4)
    have HN4 := hide (HN3.out.on' hb4)
    have Hb4 := hide (below_on Hb3.out (Nat.le_refl _) hb4)
    obtain ⟨p40, p41, p42⟩ := HP4.out.cells
    obtain ⟨q40, q41, q42⟩ := HQ4.out.cells
    clear e4 hb4
    go_wp2_with fail
    refine (l_sameJ x1 x3 B2 m2 d2 B3 m3 d3 x2 _ HP4.out.st HQ4.out.st Hl2.out.2 Hl3.out.2).mono ?_
    rintro e w5 ⟨rfl, hb5⟩
    have HN5 := hide (HN4.out.on' hb5)
    have HP5 := hide (HP4.out.on hb5)
    have HJ5 := hide (HJ4.out.on hb5)
    have Hb5 := hide (below_on Hb4.out (Nat.le_refl _) hb5)
    obtain ⟨j50, j51, j52⟩ := HJ5.out.cells
    obtain ⟨p50, p51, p52⟩ := HP5.out.cells
    have hln2 := hide HN5.out.1
    have hlx2 := hide HP5.out.st.1
    clear hb5 p40 p41 p42 q40 q41 q42 b10 b11 b12 a10 a11 a12
    have hF := HF.out
    have u3 := hF.valid
    have u4 := hF.same.2.1
    have u7 := hF.same.1
    have u6 := hl.out
    have u8 := hlx2.out
    simp only at u3 u4 u7
    subst u4 u7
    have u9 := jb_10 u3
    simp only at u9
    have HV := hide u3
    clear hF u3 u6 u8 u9
    go_wp2_with fail
    refine (i_JobValid x1 x3 B2 m2 d2 x2 _ HP5.out.st Hsm.out Hl2.out.2).mono ?_
    rintro e w6 ⟨rfl, hb6⟩
    rw [HV.out]
    have HP6 := hide (HP5.out.on hb6)
    have HJ6 := hide (HJ5.out.on hb6)
    have Hb6 := hide (below_on Hb5.out (Nat.le_refl _) hb6)
    obtain ⟨p60, p61, p62⟩ := HP6.out.cells
    obtain ⟨j60, j61, j62⟩ := HJ6.out.cells
    clear hb6 p50 p51 p52 j50 j51 j52
    go_wp2_with fail
    refine (l_same_t B2 m2 d2 A1 n1 c1 x2 _ HP6.out.st HJ6.out.st Hl2.out.2 Hn1.out).mono ?_
    rintro e w7 ⟨rfl, q7, e7⟩
    have hb7 : Below w6.heap.size w6 w7 := by rw [e7]; exact below_drewN' _ _ _
    have Hb7 := hide (below_on Hb6.out (Nat.le_refl _) hb7)
    clear e7 hb7
    go_wp2_with fail
    go_ret
    exact ⟨rfl, Hb7.out⟩
end Go.Proofs.Ytimpmlmkhjeajaa
