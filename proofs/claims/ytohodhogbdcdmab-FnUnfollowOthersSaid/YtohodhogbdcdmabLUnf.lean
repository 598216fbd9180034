/- Walks of FnUnfollow, FnUnfollowBack, FnUnfollowOthers, FnFollowOthers. -/
import Derived.Test.YtohodhogbdcdmabSFol
import Derived.Test.YtohodhogbdcdmabAux2
import Derived.Test.YtohodhogbdcdmabSameA
import Derived.Test.YtohodhogbdcdmabDrawA4
import Derived.Test.YtohodhogbdcdmabLFof
import Derived.Test.YtohodhogbdcdmabDrawA5
import Derived.Test.YtohodhogbdcdmabLater
set_option linter.unusedVariables false
set_option linter.unusedSimpArgs false
namespace Go.Proofs.Ytohodhogbdcdmab
open Go.RowKit Go.BigFrame

set_option maxHeartbeats 1000000 in
set_option maxRecDepth 100000 in
theorem FnUnfollowBack_walk (w : World) (A : Option Addr) (n c : Nat) (hc : Code w w.heap.size A n) (hnc : n ≤ c) (hm : n ≤ maxLen) :
    Calls Try.prog 5 #[.slice A n c] w fun e w' => e = .returned (.bool true) ∧ Below w.heap.size w w' := by
  by_cases h : 1048576 < n
  · unfold maxLen at hm
    go_enter Try.func5, Try.ntmps5
    go_wp2
    go_ret
    exact ⟨rfl, Below.refl _ _⟩
  go_enter Try.func5, Try.ntmps5
  go_wp2_with fail
  refine (d_Unfollow A n c w hc hnc (by omega)).mono ?_
  rintro e w1 ⟨v, X, who, s, rfl, ⟨A1, n1, c1, rfl, hacc, hnc1, hdr, hpos, _, hb1⟩, hw5, hs3⟩
  have Hacc1 := hide hacc
  have Hb1 := hide hb1
  have Hsm := hide hdr.small
  have Hdr := hide hdr
  have hl := hide hacc.1
  have hn8 : n1 ≤ 8 := by have := hdr.1; have := hl.out; omega
  have hn1 : n1 ≤ maxLen := by unfold maxLen; omega
  have hsm : s.size ≤ maxLen := by unfold maxLen; omega
  have hwm : who.size ≤ maxLen := by unfold maxLen; omega
  clear hacc hb1 hdr hc hnc hpos
  go_wp2_with fail
  refine (i_unfollow A1 n1 c1 X who s _ Hacc1.out Hsm.out hn1 hsm hwm).mono ?_
  intro e w2 ho
  obtain ⟨A2, n2, c2, rfl, hnc2, hst2, hb2⟩ := own2A_accs ho
  have Hacc2 := hide (Hacc1.out.on hb2)
  have Hb2 := hide (Hb1.out.trans (hb2.mono Hb1.out.size))
  have Hst2 := hide hst2
  clear ho hb2 hst2
  go_wp2_with fail
  refine (s_unfollow A1 n1 c1 X who s _ Hacc2.out Hsm.out hn1 hsm hwm).mono ?_
  intro e w3 ho
  obtain ⟨A3, n3, c3, rfl, hnc3, hst3, hb3⟩ := own2A_accs ho
  have Hacc3 := hide (Hacc2.out.on hb3)
  have Hst23 := hide (Hst2.out.on hb3)
  have Hst3 := hide hst3
  have Hb3 := hide (Hb2.out.trans (hb3.mono Hb2.out.size))
  clear ho hb3 hst3
  cases ho : unfollowM X who s
  · have h2 := Hst23.out
    have h3 := Hst3.out
    rw [ho] at h2 h3
    simp only [Option.getD_none] at h2 h3
    have z2 : n2 = 0 := h2.1.symm
    have HA2 := hide h2
    have HA3 := hide h3
    have hn2m : n2 ≤ maxLen := by rw [z2]; exact Nat.zero_le _
    clear h2 h3 ho z2
    go_wp2_with fail
    refine (l_sameAs A2 n2 c2 A3 n3 c3 [] _ HA2.out HA3.out hn2m).mono ?_
    rintro e w4 ⟨rfl, hb4⟩
    have HB2 := hide (HA2.out.on hb4)
    have HB3 := hide (HA3.out.on hb4)
    have Hb4 := hide (Hb3.out.trans (hb4.mono Hb3.out.size))
    clear hb4
    go_wp2_with fail
    refine (l_sameAs A2 n2 c2 A3 n3 c3 [] _ HB2.out HB3.out hn2m).mono ?_
    rintro e w5 ⟨rfl, hb5⟩
    go_wp2_with fail
    go_ret
    exact ⟨rfl, Hb4.out.trans (hb5.mono Hb4.out.size)⟩
  rename_i Y
  have HO := hide ho
  obtain ⟨F, hF⟩ := unfollowed ho
  have HF := hide hF
  have HA2 : Hid (Accs w3 w3.heap.size A2 n2 Y) := by have h := Hst23.out; rw [ho] at h; exact h
  have HA3 : Hid (Accs w3 w3.heap.size A3 n3 Y) := by have h := Hst3.out; rw [ho] at h; exact h
  have hn2 : n2 ≤ 6 := by have h1 := HA2.out.1; have h2 := asB_6 hF.vy; omega
  have hn2m : n2 ≤ maxLen := by unfold maxLen; omega
  have HsY : Hid (ASmall Y) := asB_small hF.vy
  have Hfx := hide (folM_t (s := s) hF.vx)
  clear ho hF Hst23 Hst3 Hst2 Hacc2
  go_wp2_with fail
  refine (l_sameAs A2 n2 c2 A3 n3 c3 Y _ HA2.out HA3.out hn2m).mono ?_
  rintro e w4 ⟨rfl, hb4⟩
  have HY4 := hide (HA2.out.on hb4)
  have HX4 := hide (Hacc3.out.on hb4)
  have Hb4 := hide (Hb3.out.trans (hb4.mono Hb3.out.size))
  clear hb4
  have HA := hide HF.out.back
  go_wp2_with fail
  refine (i_follow A2 n2 c2 Y who s _ HY4.out HsY.out hn2m hsm hwm).mono ?_
  rw [HA.out]
  intro e w5 ho
  obtain ⟨A5, n5, c5, rfl, hnc5, hst5, hb5⟩ := own2A_accs ho
  have HX5 := hide (HX4.out.on hb5)
  have HZ5 : Hid (Accs w5 w5.heap.size A5 n5 X) := hst5
  have Hb5 := hide (Hb4.out.trans (hb5.mono Hb4.out.size))
  have hn5m : n5 ≤ maxLen := by have h1 := HZ5.out.1; have h2 := HX5.out.1; omega
  clear ho hst5 hb5
  go_wp2_with fail
  refine (l_sameAs A5 n5 c5 A1 n1 c1 X _ HZ5.out HX5.out hn5m).mono ?_
  rintro e w6 ⟨rfl, hb6⟩
  go_wp2_with fail
  go_ret
  exact ⟨rfl, Hb5.out.trans (hb6.mono Hb5.out.size)⟩

set_option maxHeartbeats 1000000 in
set_option maxRecDepth 100000 in
theorem FnUnfollow_walk (w : World) (A : Option Addr) (n c : Nat) (hc : Code w w.heap.size A n) (hnc : n ≤ c) (hm : n ≤ maxLen) :
    Calls Try.prog 4 #[.slice A n c] w fun e w' => e = .returned (.bool true) ∧ Below w.heap.size w w' := by
  by_cases h : 1048576 < n
  · unfold maxLen at hm
    go_enter Try.func4, Try.ntmps4
    go_wp2
    go_ret
    exact ⟨rfl, Below.refl _ _⟩
  go_enter Try.func4, Try.ntmps4
  go_wp2_with fail
  refine (d_Unfollow A n c w hc hnc (by omega)).mono ?_
  rintro e w1 ⟨v, X, who, s, rfl, ⟨A1, n1, c1, rfl, hacc, hnc1, hdr, hpos, _, hb1⟩, hw5, hs3⟩
  have Hacc1 := hide hacc
  have Hb1 := hide hb1
  have Hsm := hide hdr.small
  have Hdr := hide hdr
  have hl := hide hacc.1
  have hn8 : n1 ≤ 8 := by have := hdr.1; have := hl.out; omega
  have hn1 : n1 ≤ maxLen := by unfold maxLen; omega
  have hsm : s.size ≤ maxLen := by unfold maxLen; omega
  have hwm : who.size ≤ maxLen := by unfold maxLen; omega
  clear hacc hb1 hdr hc hnc hpos
  go_wp2_with fail
  refine (i_unfollow A1 n1 c1 X who s _ Hacc1.out Hsm.out hn1 hsm hwm).mono ?_
  intro e w2 ho
  obtain ⟨A2, n2, c2, rfl, hnc2, hst2, hb2⟩ := own2A_accs ho
  have Hacc2 := hide (Hacc1.out.on hb2)
  have Hb2 := hide (Hb1.out.trans (hb2.mono Hb1.out.size))
  have Hst2 := hide hst2
  clear ho hb2 hst2
  go_wp2_with fail
  refine (s_unfollow A1 n1 c1 X who s _ Hacc2.out Hsm.out hn1 hsm hwm).mono ?_
  intro e w3 ho
  obtain ⟨A3, n3, c3, rfl, hnc3, hst3, hb3⟩ := own2A_accs ho
  have Hacc3 := hide (Hacc2.out.on hb3)
  have Hst23 := hide (Hst2.out.on hb3)
  have Hst3 := hide hst3
  have Hb3 := hide (Hb2.out.trans (hb3.mono Hb2.out.size))
  clear ho hb3 hst3
  cases ho : unfollowM X who s
  · have h2 := Hst23.out
    have h3 := Hst3.out
    rw [ho] at h2 h3
    simp only [Option.getD_none] at h2 h3
    have z2 : n2 = 0 := h2.1.symm
    have HA2 := hide h2
    have HA3 := hide h3
    have hn2m : n2 ≤ maxLen := by rw [z2]; exact Nat.zero_le _
    clear h2 h3 ho z2
    go_wp2_with fail
    refine (l_sameAs A2 n2 c2 A3 n3 c3 [] _ HA2.out HA3.out hn2m).mono ?_
    rintro e w4 ⟨rfl, hb4⟩
    have HB2 := hide (HA2.out.on hb4)
    have HB3 := hide (HA3.out.on hb4)
    have Hb4 := hide (Hb3.out.trans (hb4.mono Hb3.out.size))
    clear hb4
    go_wp2_with fail
    refine (l_sameAs A2 n2 c2 A3 n3 c3 [] _ HB2.out HB3.out hn2m).mono ?_
    rintro e w5 ⟨rfl, hb5⟩
    go_wp2_with fail
    go_ret
    exact ⟨rfl, Hb4.out.trans (hb5.mono Hb4.out.size)⟩
  rename_i Y
  have HO := hide ho
  obtain ⟨F, hF⟩ := unfollowed ho
  have HF := hide hF
  have HA2 : Hid (Accs w3 w3.heap.size A2 n2 Y) := by have h := Hst23.out; rw [ho] at h; exact h
  have HA3 : Hid (Accs w3 w3.heap.size A3 n3 Y) := by have h := Hst3.out; rw [ho] at h; exact h
  have hn2 : n2 ≤ 6 := by have h1 := HA2.out.1; have h2 := asB_6 hF.vy; omega
  have hn2m : n2 ≤ maxLen := by unfold maxLen; omega
  have HsY : Hid (ASmall Y) := asB_small hF.vy
  have Hfx := hide (folM_t (s := s) hF.vx)
  clear ho hF Hst23 Hst3 Hst2 Hacc2
  go_wp2_with fail
  refine (l_sameAs A2 n2 c2 A3 n3 c3 Y _ HA2.out HA3.out hn2m).mono ?_
  rintro e w4 ⟨rfl, hb4⟩
  have HY4 := hide (HA2.out.on hb4)
  have HX4 := hide (Hacc3.out.on hb4)
  have Hb4 := hide (Hb3.out.trans (hb4.mono Hb3.out.size))
  clear hb4
  obtain ⟨g1, g2, g3⟩ := HF.out.gone
  have H0 := hide g3
  have H1 := hide HF.out.vy
  have H2 := hide (memB_f g1)
  have H3 := hide (memB_t g2)
  clear g1 g2 g3
  go_wp2_with fail
  refine (i_unfollow A2 n2 c2 Y who s _ HY4.out HsY.out hn2m hsm hwm).mono ?_
  rw [H0.out]
  intro e w5 ho
  obtain ⟨A5, n5, c5, rfl, hnc5, hst5, hb5⟩ := own2A_accs ho
  have HY5 := hide (HY4.out.on hb5)
  have HX5 := hide (HX4.out.on hb5)
  have Hb5 := hide (Hb4.out.trans (hb5.mono Hb4.out.size))
  clear ho hst5 hb5
  go_wp2_with fail
  refine (i_As A2 n2 c2 Y _ HY5.out HsY.out hn2m).mono ?_
  rintro e w6 ⟨rfl, hb6⟩
  rw [H1.out]
  have HY6 := hide (HY5.out.on hb6)
  have HX6 := hide (HX5.out.on hb6)
  have Hb6 := hide (Hb5.out.trans (hb6.mono Hb5.out.size))
  clear hb6
  go_wp2_with fail
  refine (i_fof A2 n2 c2 Y s _ HY6.out HsY.out hn2m hsm).mono ?_
  intro e w7 ho
  obtain ⟨A7, n7, c7, rfl, hnc7, hst7, hb7⟩ := own1_strs ho
  have HX7 := hide (HX6.out.on hb7)
  have HS7 := hide hst7
  have hn7 : n7 ≤ maxLen := by have h1 := hst7.1; have h2 := folM_len Y s; unfold maxLen; omega
  have Hb7 := hide (Hb6.out.trans (hb7.mono Hb6.out.size))
  clear ho hst7 hb7
  go_wp2_with fail
  refine (l_has A7 n7 c7 _ who _ HS7.out hn7).mono ?_
  rintro e w8 ⟨rfl, rfl⟩
  rw [H2.out]
  go_wp2_with fail
  refine (i_fof A1 n1 c1 X s _ HX7.out Hsm.out hn1 hsm).mono ?_
  intro e w9 ho
  obtain ⟨A9, n9, c9, rfl, hnc9, hst9, hb9⟩ := own1_strs ho
  have HS9 := hide hst9
  have hn9 : n9 ≤ maxLen := by have h1 := hst9.1; have h2 := folM_len X s; unfold maxLen; omega
  have Hb9 := hide (Hb7.out.trans (hb9.mono Hb7.out.size))
  clear ho hst9 hb9
  go_wp2_with fail
  refine (l_has A9 n9 c9 _ who _ HS9.out hn9).mono ?_
  rintro e w10 ⟨rfl, rfl⟩
  rw [H3.out]
  go_wp2_with fail
  go_ret
  exact ⟨rfl, Hb9.out⟩

set_option maxHeartbeats 1000000 in
set_option maxRecDepth 100000 in
theorem FnFollowOthers_walk (w : World) (A : Option Addr) (n c : Nat) (hc : Code w w.heap.size A n) (hnc : n ≤ c) (hm : n ≤ maxLen) :
    Calls Try.prog 3 #[.slice A n c] w fun e w' => e = .returned (.bool true) ∧ Below w.heap.size w w' := by
  by_cases h : 1048576 < n
  · unfold maxLen at hm
    go_enter Try.func3, Try.ntmps3
    go_wp2
    go_ret
    exact ⟨rfl, Below.refl _ _⟩
  go_enter Try.func3, Try.ntmps3
  go_wp2_with fail
  refine (d_Follow A n c w hc hnc (by omega)).mono ?_
  rintro e w1 ⟨v, X, who, s, rfl, ⟨A1, n1, c1, rfl, hacc, hnc1, hdr, hpos, _, hb1⟩, hw5, hs3⟩
  have Hacc1 := hide hacc
  have Hb1 := hide hb1
  have Hsm := hide hdr.small
  have Hdr := hide hdr
  have hl := hide hacc.1
  have hn8 : n1 ≤ 8 := by have := hdr.1; have := hl.out; omega
  have hn1 : n1 ≤ maxLen := by unfold maxLen; omega
  have hsm : s.size ≤ maxLen := by unfold maxLen; omega
  have hwm : who.size ≤ maxLen := by unfold maxLen; omega
  clear hacc hb1 hdr hc hnc hpos
  go_wp2_with fail
  refine (i_follow A1 n1 c1 X who s _ Hacc1.out Hsm.out hn1 hsm hwm).mono ?_
  intro e w2 ho
  obtain ⟨A2, n2, c2, rfl, hnc2, hst2, hb2⟩ := own2A_accs ho
  have Hacc2 := hide (Hacc1.out.on hb2)
  have Hb2 := hide (Hb1.out.trans (hb2.mono Hb1.out.size))
  have Hst2 := hide hst2
  clear ho hb2 hst2
  go_wp2_with fail
  refine (s_follow A1 n1 c1 X who s _ Hacc2.out Hsm.out hn1 hsm hwm).mono ?_
  intro e w3 ho
  obtain ⟨A3, n3, c3, rfl, hnc3, hst3, hb3⟩ := own2A_accs ho
  have Hacc3 := hide (Hacc2.out.on hb3)
  have Hst23 := hide (Hst2.out.on hb3)
  have Hst3 := hide hst3
  have Hb3 := hide (Hb2.out.trans (hb3.mono Hb2.out.size))
  clear ho hb3 hst3
  cases ho : followM X who s
  · have h2 := Hst23.out
    have h3 := Hst3.out
    rw [ho] at h2 h3
    simp only [Option.getD_none] at h2 h3
    have z2 : n2 = 0 := h2.1.symm
    have HA2 := hide h2
    have HA3 := hide h3
    have hn2m : n2 ≤ maxLen := by rw [z2]; exact Nat.zero_le _
    clear h2 h3 ho z2
    go_wp2_with fail
    refine (l_sameAs A2 n2 c2 A3 n3 c3 [] _ HA2.out HA3.out hn2m).mono ?_
    rintro e w4 ⟨rfl, hb4⟩
    have HB2 := hide (HA2.out.on hb4)
    have HB3 := hide (HA3.out.on hb4)
    have Hb4 := hide (Hb3.out.trans (hb4.mono Hb3.out.size))
    clear hb4
    go_wp2_with fail
    refine (l_sameAs A2 n2 c2 A3 n3 c3 [] _ HB2.out HB3.out hn2m).mono ?_
    rintro e w5 ⟨rfl, hb5⟩
    go_wp2_with fail
    go_ret
    exact ⟨rfl, Hb4.out.trans (hb5.mono Hb4.out.size)⟩
  rename_i Y
  have HO := hide ho
  obtain ⟨F, hF⟩ := followed ho
  have HF := hide hF
  have HA2 : Hid (Accs w3 w3.heap.size A2 n2 Y) := by have h := Hst23.out; rw [ho] at h; exact h
  have HA3 : Hid (Accs w3 w3.heap.size A3 n3 Y) := by have h := Hst3.out; rw [ho] at h; exact h
  have hn2 : n2 ≤ 6 := by have h1 := HA2.out.1; have h2 := asB_6 hF.vy; omega
  have hn2m : n2 ≤ maxLen := by unfold maxLen; omega
  have HsY : Hid (ASmall Y) := asB_small hF.vy
  have Hfx := hide (folM_t (s := s) hF.vx)
  clear ho hF Hst23 Hst3 Hst2 Hacc2
  go_wp2_with fail
  refine (l_sameAs A2 n2 c2 A3 n3 c3 Y _ HA2.out HA3.out hn2m).mono ?_
  rintro e w4 ⟨rfl, hb4⟩
  have HY4 := hide (HA2.out.on hb4)
  have HX4 := hide (Hacc3.out.on hb4)
  have Hb4 := hide (Hb3.out.trans (hb4.mono Hb3.out.size))
  clear hb4
  have hl := hide HX4.out.1
  have HXl := HX4
  have HYl := HY4
  have hnn : n1 = n2 := by have h1 := HX4.out.1; have h2 := HY4.out.1; have h3 := HF.out.eq; rw [h3, setF_len] at h2; omega
  subst hnn
  go_wp2_with fail
  go_loopw [10] (fun i wr => ∃ k : Nat, k ≤ n1 ∧ i = .int .i64 k ∧ Hid (Below w4.heap.size w4 wr)) (fun i _ => n1 - (intOf i).toNat)
  case atStart => exact ⟨0, Nat.zero_le _, rfl, Below.refl _ _⟩
  case round =>
    obtain ⟨k, hk, rfl, hbr⟩ := hrel
    by_cases hlt : k < n1
    · obtain ⟨a, ha⟩ : ∃ a, X[k]? = some a := ⟨X[k]'(by have := hl.out; omega), List.getElem?_eq_getElem _⟩
      obtain ⟨g, off, A4, n4, c4, rfl, hg, hc0, hc1, hn4, hm4, hf⟩ := (HXl.out.below hbr.out).at' ha
      have hgs : g < wr.heap.size := by have := hbr.out.size; omega
      by_cases has : a.1 = s
      · subst has
        have hz0 : ∀ z : Later w4.heap.size wr, z.it.cell? ⟨g, off + k * 2, none⟩ = some (.string a.1) := fun z => (z.cell hg).trans hc0
        clear hf hc1 ha
        go_wp2_with fail
        refine wp_region_later (B := w4.heap.size) (by kernel_rfl) (by kernel_rfl) ?_
        repeat (go_big_quiet_step ((fail)))
        refine wpQuiet_nil ?_
        intro _ hw'
        obtain ⟨⟨w5, hb5⟩, hw''⟩ := hw'
        subst hw''
        have Hb5 := hide hb5
        clear hb5
        go_wp2_with fail
        go_roundw
        case rel => exact ⟨k + 1, by omega, by go_num, hbr.out.trans Hb5.out⟩
        case measure => simp [intOf]; omega
      · have hYk : Y[k]? = some a := by rw [HF.out.eq]; exact setF_other F ha has
        obtain ⟨g2, off2, A5, n5, c5, rfl, hg2, hd0, hd1, hn5, hm5, hf2⟩ := (HYl.out.below hbr.out).at' hYk
        have hgs2 : g2 < wr.heap.size := by have := hbr.out.size; omega
        have hne0 := beq_of_ne has
        have hne1 : (a.1.toList != s.toList) = true := by rw [bne, hne0]; rfl
        have hz0 : ∀ z : Later w4.heap.size wr, z.it.cell? ⟨g, off + k * 2, none⟩ = some (.string a.1) := fun z => (z.cell hg).trans hc0
        have hz1 : ∀ z : Later w4.heap.size wr, z.it.cell? ⟨g, off + k * 2 + 1, none⟩ = some (.slice A4 n4 c4) := fun z => (z.cell hg).trans hc1
        have hz2 : ∀ z : Later w4.heap.size wr, z.it.cell? ⟨g2, off2 + k * 2, none⟩ = some (.string a.1) := fun z => (z.cell hg2).trans hd0
        have hz3 : ∀ z : Later w4.heap.size wr, z.it.cell? ⟨g2, off2 + k * 2 + 1, none⟩ = some (.slice A5 n5 c5) := fun z => (z.cell hg2).trans hd1
        have HFa : Hid (Strs wr w4.heap.size A4 n4 a.2) := hf.strs
        have HFb : Hid (Strs wr w4.heap.size A5 n5 a.2) := hf2.strs
        have hsz := hbr.out.size
        clear hf hf2 hc1 hd0 hd1 ha hYk has
        go_wp2_with fail
        refine wp_region_later (B := w4.heap.size) (by kernel_rfl) (by kernel_rfl) ?_
        repeat (go_big_quiet_step ((go_at_call 16; exact Later.sameA _ a A5 n5 c5 A4 n4 c4 HFb.out HFa.out hsz hm5 hm4)))
        refine wpQuiet_nil ?_
        intro _ hw'
        obtain ⟨⟨w5, hb5⟩, hw''⟩ := hw'
        subst hw''
        have Hb5 := hide hb5
        clear hb5
        go_wp2_with fail
        go_roundw
        case rel => exact ⟨k + 1, by omega, by go_num, hbr.out.trans Hb5.out⟩
        case measure => simp [intOf]; omega
    · go_wp2_with fail
      (go_ret; exact ⟨rfl, Hb4.out.trans (hbr.out.mono Hb4.out.size)⟩)

set_option maxHeartbeats 1000000 in
set_option maxRecDepth 100000 in
theorem FnUnfollowOthers_walk (w : World) (A : Option Addr) (n c : Nat) (hc : Code w w.heap.size A n) (hnc : n ≤ c) (hm : n ≤ maxLen) :
    Calls Try.prog 6 #[.slice A n c] w fun e w' => e = .returned (.bool true) ∧ Below w.heap.size w w' := by
  by_cases h : 1048576 < n
  · unfold maxLen at hm
    go_enter Try.func6, Try.ntmps6
    go_wp2
    go_ret
    exact ⟨rfl, Below.refl _ _⟩
  go_enter Try.func6, Try.ntmps6
  go_wp2_with fail
  refine (d_Unfollow A n c w hc hnc (by omega)).mono ?_
  rintro e w1 ⟨v, X, who, s, rfl, ⟨A1, n1, c1, rfl, hacc, hnc1, hdr, hpos, _, hb1⟩, hw5, hs3⟩
  have Hacc1 := hide hacc
  have Hb1 := hide hb1
  have Hsm := hide hdr.small
  have Hdr := hide hdr
  have hl := hide hacc.1
  have hn8 : n1 ≤ 8 := by have := hdr.1; have := hl.out; omega
  have hn1 : n1 ≤ maxLen := by unfold maxLen; omega
  have hsm : s.size ≤ maxLen := by unfold maxLen; omega
  have hwm : who.size ≤ maxLen := by unfold maxLen; omega
  clear hacc hb1 hdr hc hnc hpos
  go_wp2_with fail
  refine (i_unfollow A1 n1 c1 X who s _ Hacc1.out Hsm.out hn1 hsm hwm).mono ?_
  intro e w2 ho
  obtain ⟨A2, n2, c2, rfl, hnc2, hst2, hb2⟩ := own2A_accs ho
  have Hacc2 := hide (Hacc1.out.on hb2)
  have Hb2 := hide (Hb1.out.trans (hb2.mono Hb1.out.size))
  have Hst2 := hide hst2
  clear ho hb2 hst2
  go_wp2_with fail
  refine (s_unfollow A1 n1 c1 X who s _ Hacc2.out Hsm.out hn1 hsm hwm).mono ?_
  intro e w3 ho
  obtain ⟨A3, n3, c3, rfl, hnc3, hst3, hb3⟩ := own2A_accs ho
  have Hacc3 := hide (Hacc2.out.on hb3)
  have Hst23 := hide (Hst2.out.on hb3)
  have Hst3 := hide hst3
  have Hb3 := hide (Hb2.out.trans (hb3.mono Hb2.out.size))
  clear ho hb3 hst3
  cases ho : unfollowM X who s
  · have h2 := Hst23.out
    have h3 := Hst3.out
    rw [ho] at h2 h3
    simp only [Option.getD_none] at h2 h3
    have z2 : n2 = 0 := h2.1.symm
    have HA2 := hide h2
    have HA3 := hide h3
    have hn2m : n2 ≤ maxLen := by rw [z2]; exact Nat.zero_le _
    clear h2 h3 ho z2
    go_wp2_with fail
    refine (l_sameAs A2 n2 c2 A3 n3 c3 [] _ HA2.out HA3.out hn2m).mono ?_
    rintro e w4 ⟨rfl, hb4⟩
    have HB2 := hide (HA2.out.on hb4)
    have HB3 := hide (HA3.out.on hb4)
    have Hb4 := hide (Hb3.out.trans (hb4.mono Hb3.out.size))
    clear hb4
    go_wp2_with fail
    refine (l_sameAs A2 n2 c2 A3 n3 c3 [] _ HB2.out HB3.out hn2m).mono ?_
    rintro e w5 ⟨rfl, hb5⟩
    go_wp2_with fail
    go_ret
    exact ⟨rfl, Hb4.out.trans (hb5.mono Hb4.out.size)⟩
  rename_i Y
  have HO := hide ho
  obtain ⟨F, hF⟩ := unfollowed ho
  have HF := hide hF
  have HA2 : Hid (Accs w3 w3.heap.size A2 n2 Y) := by have h := Hst23.out; rw [ho] at h; exact h
  have HA3 : Hid (Accs w3 w3.heap.size A3 n3 Y) := by have h := Hst3.out; rw [ho] at h; exact h
  have hn2 : n2 ≤ 6 := by have h1 := HA2.out.1; have h2 := asB_6 hF.vy; omega
  have hn2m : n2 ≤ maxLen := by unfold maxLen; omega
  have HsY : Hid (ASmall Y) := asB_small hF.vy
  have Hfx := hide (folM_t (s := s) hF.vx)
  clear ho hF Hst23 Hst3 Hst2 Hacc2
  go_wp2_with fail
  refine (l_sameAs A2 n2 c2 A3 n3 c3 Y _ HA2.out HA3.out hn2m).mono ?_
  rintro e w4 ⟨rfl, hb4⟩
  have HY4 := hide (HA2.out.on hb4)
  have HX4 := hide (Hacc3.out.on hb4)
  have Hb4 := hide (Hb3.out.trans (hb4.mono Hb3.out.size))
  clear hb4
  have hdrop := HF.out.drop
  rw [← Hfx.out] at hdrop
  have Hdrop := hide hdrop
  have hfy : folM Y s = F := (folM_t HF.out.vy).trans HF.out.fy
  have Hfy := hide hfy
  have hsx := (fol_valid HF.out.vx HF.out.sx).1
  rw [← Hfx.out] at hsx
  have HsX := hide (nsB_small hsx)
  have hFl := dropM_len hdrop
  have hnn : n1 = n2 := by have h1 := HX4.out.1; have h2 := HY4.out.1; have h3 := HF.out.eq; rw [h3, setF_len] at h2; omega
  subst hnn
  clear hdrop hfy hsx
  go_wp2_with fail
  refine (i_fof A1 n1 c1 X s _ HX4.out Hsm.out hn1 hsm).mono ?_
  intro e w5 ho
  obtain ⟨A5, n5, c5, rfl, hnc5, hst5, hb5⟩ := own1_strs ho
  have HY5 := hide (HY4.out.on hb5)
  have HX5 := hide (HX4.out.on hb5)
  have HS5 := hide hst5
  have hn5 : n5 ≤ maxLen := by have h1 := hst5.1; have h2 := folM_len X s; unfold maxLen; omega
  have Hb5 := hide (Hb4.out.trans (hb5.mono Hb4.out.size))
  clear ho hst5 hb5
  go_wp2_with fail
  refine (i_NamesDrop A5 n5 c5 _ who _ HS5.out HsX.out hnc5 hn5).mono ?_
  rw [Hdrop.out]
  rintro e w6 ⟨v6, rfl, ⟨A6, n6, c6, rfl, own6⟩, hb6⟩
  have HS6 : Hid (Strs w6 w6.heap.size A6 n6 F) := Strs.of_own own6
  have HYl := hide (HY5.out.on hb6)
  have HXl := hide (HX5.out.on hb6)
  have HY6 := HYl
  have Hb6 := hide (Hb5.out.trans (hb6.mono Hb5.out.size))
  have hn6 : n6 ≤ maxLen := by have h1 := HS6.out.1; unfold maxLen; omega
  have hl := hide HXl.out.1
  clear own6 hb6
  go_wp2_with fail
  go_loopw [12] (fun i wr => ∃ k : Nat, k ≤ n1 ∧ i = .int .i64 k ∧ Hid (Below w6.heap.size w6 wr)) (fun i _ => n1 - (intOf i).toNat)
  case atStart => exact ⟨0, Nat.zero_le _, rfl, Below.refl _ _⟩
  case round =>
    obtain ⟨k, hk, rfl, hbr⟩ := hrel
    by_cases hlt : k < n1
    · obtain ⟨a, ha⟩ : ∃ a, X[k]? = some a := ⟨X[k]'(by have := hl.out; omega), List.getElem?_eq_getElem _⟩
      obtain ⟨g, off, A4, n4, c4, rfl, hg, hc0, hc1, hn4, hm4, hf⟩ := (HXl.out.below hbr.out).at' ha
      have hgs : g < wr.heap.size := by have := hbr.out.size; omega
      by_cases has : a.1 = s
      · subst has
        have hz0 : ∀ z : Later w6.heap.size wr, z.it.cell? ⟨g, off + k * 2, none⟩ = some (.string a.1) := fun z => (z.cell hg).trans hc0
        clear hf hc1 ha
        go_wp2_with fail
        refine wp_region_later (B := w6.heap.size) (by kernel_rfl) (by kernel_rfl) ?_
        repeat (go_big_quiet_step ((fail)))
        refine wpQuiet_nil ?_
        intro _ hw'
        obtain ⟨⟨w5, hb5⟩, hw''⟩ := hw'
        subst hw''
        have Hb5 := hide hb5
        clear hb5
        go_wp2_with fail
        go_roundw
        case rel => exact ⟨k + 1, by omega, by go_num, hbr.out.trans Hb5.out⟩
        case measure => simp [intOf]; omega
      · have hYk : Y[k]? = some a := by rw [HF.out.eq]; exact setF_other F ha has
        obtain ⟨g2, off2, A5, n5, c5, rfl, hg2, hd0, hd1, hn5, hm5, hf2⟩ := (HYl.out.below hbr.out).at' hYk
        have hgs2 : g2 < wr.heap.size := by have := hbr.out.size; omega
        have hne0 := beq_of_ne has
        have hne1 : (a.1.toList != s.toList) = true := by rw [bne, hne0]; rfl
        have hz0 : ∀ z : Later w6.heap.size wr, z.it.cell? ⟨g, off + k * 2, none⟩ = some (.string a.1) := fun z => (z.cell hg).trans hc0
        have hz1 : ∀ z : Later w6.heap.size wr, z.it.cell? ⟨g, off + k * 2 + 1, none⟩ = some (.slice A4 n4 c4) := fun z => (z.cell hg).trans hc1
        have hz2 : ∀ z : Later w6.heap.size wr, z.it.cell? ⟨g2, off2 + k * 2, none⟩ = some (.string a.1) := fun z => (z.cell hg2).trans hd0
        have hz3 : ∀ z : Later w6.heap.size wr, z.it.cell? ⟨g2, off2 + k * 2 + 1, none⟩ = some (.slice A5 n5 c5) := fun z => (z.cell hg2).trans hd1
        have HFa : Hid (Strs wr w6.heap.size A4 n4 a.2) := hf.strs
        have HFb : Hid (Strs wr w6.heap.size A5 n5 a.2) := hf2.strs
        have hsz := hbr.out.size
        clear hf hf2 hc1 hd0 hd1 ha hYk has
        go_wp2_with fail
        refine wp_region_later (B := w6.heap.size) (by kernel_rfl) (by kernel_rfl) ?_
        repeat (go_big_quiet_step ((go_at_call 16; exact Later.sameA _ a A5 n5 c5 A4 n4 c4 HFb.out HFa.out hsz hm5 hm4)))
        refine wpQuiet_nil ?_
        intro _ hw'
        obtain ⟨⟨w5, hb5⟩, hw''⟩ := hw'
        subst hw''
        have Hb5 := hide hb5
        clear hb5
        go_wp2_with fail
        go_roundw
        case rel => exact ⟨k + 1, by omega, by go_num, hbr.out.trans Hb5.out⟩
        case measure => simp [intOf]; omega
    · go_wp2_with fail
      refine (i_fof A2 n1 c2 Y s _ (HY6.out.on hbr.out) HsY.out hn2m hsm).mono ?_
      intro e w7 ho
      obtain ⟨A7, n7, c7, rfl, hnc7, hst7, hb7⟩ := own1_strs ho
      rw [Hfy.out] at hst7
      have HS67 := hide ((HS6.out.on hbr.out).on hb7)
      have HS7 := hide hst7
      have hn7 : n7 ≤ maxLen := by have h1 := hst7.1; unfold maxLen; omega
      have Hb7 := hide ((Hb6.out.trans (hbr.out.mono Hb6.out.size)).trans (hb7.mono (Nat.le_trans Hb6.out.size hbr.out.size)))
      clear ho hst7 hb7
      go_wp2_with fail
      refine (l_same_t A6 n6 c6 A7 n7 c7 F _ HS67.out HS7.out hn6 hn7).mono ?_
      rintro e w8 ⟨rfl, q8, rfl⟩
      go_wp2_with fail
      go_ret
      exact ⟨rfl, below_drewN Hb7.out q8⟩
end Go.Proofs.Ytohodhogbdcdmab
