/- Walk of FnJobNewNext. -/
import Derived.Test.YtimpmlmkhjeajaaZe
import Derived.Test.YtimpmlmkhjeajaaJn
import Derived.Test.YtimpmlmkhjeajaaZg
import Derived.Test.YtimpmlmkhjeajaaZl
import Derived.Test.YtimpmlmkhjeajaaZb
import Derived.Test.YtimpmlmkhjeajaaZf
set_option linter.unusedVariables false
set_option linter.unusedSimpArgs false
namespace Go.Proofs.Ytimpmlmkhjeajaa
open Go.RowKit Go.BigFrame

set_option maxHeartbeats 1000000 in
set_option maxRecDepth 100000 in
theorem FnJobNewNext_walk (w : World) (A : Option Addr) (n c : Nat) (hc : Code w w.heap.size A n) (hnc : n ≤ c) (hm : n ≤ maxLen) :
    Calls Try.prog 14 #[.slice A n c] w fun e w' => e = .returned (.bool true) ∧ Below w.heap.size w w' := by
  by_cases h : 1048576 < n
  · unfold maxLen at hm
    go_enter Try.func14, Try.ntmps14
    go_wp2
    go_ret
    exact ⟨rfl, Below.refl _ _⟩
  go_enter Try.func14, Try.ntmps14
  go_wp2_with fail
  refine (d_JobNew A n c w hc hnc (by omega)).mono ?_
  rintro e w1 ⟨v, X, s, m, rfl, ⟨A1, n1, c1, rfl, hacc, hnc1, hdr, hpos, _, hb1⟩, hs5⟩
  have HA1 := hide hacc
  have Hb1 := hide hb1
  have Hsm := hide hdr.small
  have hl := hide hacc.1
  have hn8 : n1 ≤ 8 := by have := hdr.1; have := hl.out; omega
  have Hn1 : Hid (n1 ≤ maxLen) := by show n1 ≤ maxLen; unfold maxLen; omega
  have Hss : Hid (s.size ≤ maxLen) := by show s.size ≤ maxLen; unfold maxLen; omega
  clear hacc hb1 hdr hc hnc hpos
  cases hj : jNewM X s m with
  | none =>
    have HJ := hide hj
    clear hj
    go_wp2_with fail
    refine (i_JobNew A1 n1 c1 X s m _ HA1.out Hsm.out Hn1.out Hss.out).mono ?_
    intro e w2 ho
    rw [HJ.out] at ho
    obtain ⟨B2, m2, d2, rfl, h1, h2, hsj2, hb2⟩ := own2_n ho
    have hmd2 := h1
    have HO2 := hide (JVar.new (i := 0) (d := 0) (c := d2) hsj2)
    have HA2 := hide ((HA1.out.on hb2).on (on_new w2 28 #[.int .i64 0, .slice B2 m2 d2, .int .i64 0]))
    have Hb2 := hide (below_new (e := 28) (cs := #[.int .i64 0, .slice B2 m2 d2, .int .i64 0]) (below_on Hb1.out (Nat.le_refl _) hb2) (Nat.le_refl _))
    have Hl2 := hide (Nat.le_trans h1 h2)
    clear ho hsj2 hb2 h1 h2
    go_wp2_with fail
    refine (s_JobNew A1 n1 c1 X s m _ HA2.out Hsm.out Hn1.out).mono ?_
    intro e w3 ho
    rw [HJ.out] at ho
    obtain ⟨B3, m3, d3, rfl, h1, h2, hsj3, hb3⟩ := own2_n ho
    have HO3 := hide (JVar.new (i := 0) (d := 0) (c := d3) hsj3)
    have HP3 := hide ((HO2.out.on hb3).on (on_new w3 28 #[.int .i64 0, .slice B3 m3 d3, .int .i64 0]))
    have HA3 := hide ((HA2.out.on hb3).on (on_new w3 28 #[.int .i64 0, .slice B3 m3 d3, .int .i64 0]))
    have Hb3 := hide (below_new (e := 28) (cs := #[.int .i64 0, .slice B3 m3 d3, .int .i64 0]) (below_on Hb2.out (Nat.le_refl _) hb3) (Nat.le_refl _))
    have Hl3 := hide (Nat.le_trans h1 h2)
    obtain ⟨p30, p31, p32⟩ := HP3.out.cells
    obtain ⟨q30, q31, q32⟩ := HO3.out.cells
    clear ho hsj3 hb3 h1 h2
    go_wp2_with fail
    refine (l_sameJ 0 0 B2 m2 d2 B3 m3 d3 [] _ HP3.out.st HO3.out.st Hl2.out Hl3.out).mono ?_
    rintro e w4 ⟨rfl, hb4⟩
    have HP4 := hide (HP3.out.on hb4)
    have HQ4 := hide (HO3.out.on hb4)
    have HA4 := hide (HA3.out.on hb4)
    have Hb4 := hide (below_on Hb3.out (Nat.le_refl _) hb4)
    obtain ⟨p40, p41, p42⟩ := HP4.out.cells
    obtain ⟨q40, q41, q42⟩ := HQ4.out.cells
    clear hb4 p30 p31 p32 q30 q31 q32
    go_wp2_with fail
    refine (l_sameJ 0 0 B2 m2 d2 B3 m3 d3 [] _ HP4.out.st HQ4.out.st Hl2.out Hl3.out).mono ?_
    rintro e w5 ⟨rfl, hb5⟩
    have Hb5 := hide (below_on Hb4.out (Nat.le_refl _) hb5)
    clear hb5
    go_wp2_with fail
    go_ret
    exact ⟨rfl, Hb5.out⟩
  | some r =>
    obtain ⟨x1, x2, x3⟩ := r
    have HJ := hide hj
    have HF := hide (jNew_some hj)
    clear hj
    go_wp2_with fail
    refine (i_JobNew A1 n1 c1 X s m _ HA1.out Hsm.out Hn1.out Hss.out).mono ?_
    intro e w2 ho
    rw [HJ.out] at ho
    obtain ⟨B2, m2, d2, rfl, h1, h2, hsj2, hb2⟩ := own2_s ho
    have hmd2 := h1
    have HO2 := hide (JVar.new (i := x1) (d := x3) (c := d2) hsj2)
    have HA2 := hide ((HA1.out.on hb2).on (on_new w2 28 #[.int .i64 x1, .slice B2 m2 d2, .int .i64 x3]))
    have Hb2 := hide (below_new (e := 28) (cs := #[.int .i64 x1, .slice B2 m2 d2, .int .i64 x3]) (below_on Hb1.out (Nat.le_refl _) hb2) (Nat.le_refl _))
    have Hl2 := hide (Nat.le_trans h1 h2)
    clear ho hsj2 hb2 h1 h2
    go_wp2_with fail
    refine (s_JobNew A1 n1 c1 X s m _ HA2.out Hsm.out Hn1.out).mono ?_
    intro e w3 ho
    rw [HJ.out] at ho
    obtain ⟨B3, m3, d3, rfl, h1, h2, hsj3, hb3⟩ := own2_s ho
    have HO3 := hide (JVar.new (i := x1) (d := x3) (c := d3) hsj3)
    have HP3 := hide ((HO2.out.on hb3).on (on_new w3 28 #[.int .i64 x1, .slice B3 m3 d3, .int .i64 x3]))
    have HA3 := hide ((HA2.out.on hb3).on (on_new w3 28 #[.int .i64 x1, .slice B3 m3 d3, .int .i64 x3]))
    have Hb3 := hide (below_new (e := 28) (cs := #[.int .i64 x1, .slice B3 m3 d3, .int .i64 x3]) (below_on Hb2.out (Nat.le_refl _) hb3) (Nat.le_refl _))
    have Hl3 := hide (Nat.le_trans h1 h2)
    obtain ⟨p30, p31, p32⟩ := HP3.out.cells
    obtain ⟨q30, q31, q32⟩ := HO3.out.cells
    clear ho hsj3 hb3 h1 h2
    go_wp2_with fail
    refine (l_sameJ x1 x3 B2 m2 d2 B3 m3 d3 x2 _ HP3.out.st HO3.out.st Hl2.out Hl3.out).mono ?_
    rintro e w4 ⟨rfl, hb4⟩
    have HP4 := hide (HP3.out.on hb4)
    have HQ4 := hide (HO3.out.on hb4)
    have HA4 := hide (HA3.out.on hb4)
    have Hb4 := hide (below_on Hb3.out (Nat.le_refl _) hb4)
    obtain ⟨p40, p41, p42⟩ := HP4.out.cells
    obtain ⟨q40, q41, q42⟩ := HQ4.out.cells
    clear hb4 p30 p31 p32 q30 q31 q32
    obtain ⟨⟨y1, y2, y3⟩, hy⟩ := jNew_next HJ.out
    have HY := hide hy
    have HS2 : Hid (Small x2) := nsB_small (jbB_iff.1 HF.out.2.2.2.2).2.1
    clear hy
    go_wp2_with fail
    refine (i_JobNext x1 x3 10 B2 m2 d2 x2 _ HP4.out.st HS2.out Hl2.out hmd2).mono ?_
    intro e w5 ho
    rw [HY.out] at ho
    obtain ⟨A5, n5, c5, B5, m5, d5, rfl, h1, h2, h3, h4, hst5, hsj5, hb5⟩ := own3_s ho
    have HN5 := hide (hst5.on' (on_new w5 28 #[.int .i64 y1, .slice B5 m5 d5, .int .i64 y3]))
    have HA5 := hide ((HA4.out.on hb5).on (on_new w5 28 #[.int .i64 y1, .slice B5 m5 d5, .int .i64 y3]))
    have Hb5 := hide (below_new (e := 28) (cs := #[.int .i64 y1, .slice B5 m5 d5, .int .i64 y3]) (below_on Hb4.out (Nat.le_refl _) hb5) (Nat.le_refl _))
    have Hl5 := hide (Nat.le_trans h1 h2)
    clear ho hst5 hsj5 hb5 h1 h2 h3 h4
    go_wp2_with fail
    refine (i_fof A1 n1 c1 X s _ HA5.out Hsm.out Hn1.out Hss.out).mono ?_
    intro e w6 ho
    obtain ⟨A6, n6, c6, rfl, hnc6, hst6, hb6⟩ := own1_strs ho
    have Hst6 := hide hst6
    have HN6 := hide (HN5.out.on' hb6)
    have Hb6 := hide (below_on Hb5.out (Nat.le_refl _) hb6)
    have Hn6 : Hid (n6 ≤ maxLen) := by have h1 := Hl5.out; have h2 := HN5.out.1; have h3 := hst6.1; show n6 ≤ maxLen; omega
    clear ho hnc6 hst6 hb6
    go_wp2_with fail
    refine (l_same_t A5 n5 c5 A6 n6 c6 _ _ HN6.out Hst6.out Hl5.out Hn6.out).mono ?_
    rintro e w7 ⟨rfl, q7, e7⟩
    have hb7 : Below w6.heap.size w6 w7 := by rw [e7]; exact below_drewN' _ _ _
    have Hb7 := hide (below_on Hb6.out (Nat.le_refl _) hb7)
    clear e7 hb7
    go_wp2_with fail
    go_ret
    exact ⟨rfl, Hb7.out⟩
end Go.Proofs.Ytimpmlmkhjeajaa
