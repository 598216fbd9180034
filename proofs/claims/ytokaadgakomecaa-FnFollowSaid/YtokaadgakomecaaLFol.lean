/- Walks of FnFollow, FnFollowTwice, FnFollowEnd, FnFollowPut, FnFollowSelf. -/
import Derived.Test.YtokaadgakomecaaSFol
import Derived.Test.YtokaadgakomecaaSameA
import Derived.Test.YtokaadgakomecaaDrawA4
import Derived.Test.YtokaadgakomecaaLFof
import Derived.Test.YtokaadgakomecaaFby
set_option linter.unusedVariables false
set_option linter.unusedSimpArgs false
namespace Go.Proofs.Ytokaadgakomecaa
open Go.RowKit

theorem own2A_accs {w w' : World} {o : Option (List Acc)} {e : Ending} (h : Own2A w o e w') : ∃ A n c, e = .returned (.tuple #[.slice A n c, .bool o.isSome]) ∧ n ≤ c ∧ Accs w' w'.heap.size A n (o.getD []) ∧ Below w.heap.size w w' := by
  obtain ⟨v, rfl, hO, hb⟩ := h
  obtain ⟨A, n, c, rfl, h1, _, h2, _⟩ := hO.accs
  exact ⟨A, n, c, rfl, h1, h2, hb⟩
theorem asB_small {X : List Acc} (h : asB X = true) : ASmall X := fun a ha => by
  have h1 := asB_acc h ha
  exact ⟨nvB_small h1.1, nsB_small h1.2.1⟩

set_option maxHeartbeats 1000000 in
set_option maxRecDepth 100000 in
theorem FnFollowTwice_walk (w : World) (A : Option Addr) (n c : Nat) (hc : Code w w.heap.size A n) (hnc : n ≤ c) (hm : n ≤ maxLen) :
    Calls Try.prog 5 #[.slice A n c] w fun e w' => e = .returned (.bool true) ∧ Below w.heap.size w w' := by
  by_cases h : 1048576 < n
  · unfold maxLen at hm
    go_enter Try.func5, Try.ntmps5
    go_wp2
    go_ret
    exact ⟨rfl, Below.refl _ _⟩
  go_enter Try.func5, Try.ntmps5
  go_wp2_with fail
  refine (d_Follow A n c w hc hnc (by omega)).mono ?_
  rintro e w1 ⟨v, X, who, s, rfl, ⟨A1, n1, c1, rfl, hacc, hnc1, hdr, hpos, _, hb1⟩, hw5, hs3⟩
  have Hacc1 := hide hacc
  have Hb1 := hide hb1
  have Hsm := hide hdr.small
  have Hdr := hide hdr
  have hl := hide hacc.1
  have hn8 : n1 ≤ 8 := by have := hdr.1; have := hl.out; omega
  have hn1 : n1 ≤ maxLen := by unfold maxLen; omega
  have hsm : s.size ≤ maxLen := by unfold maxLen; omega
  have hwm : who.size ≤ maxLen := by unfold maxLen; omega
  clear hacc hb1 hdr hc hnc hpos
  go_wp2_with fail
  refine (i_follow A1 n1 c1 X who s _ Hacc1.out Hsm.out hn1 hsm hwm).mono ?_
  intro e w2 ho
  obtain ⟨A2, n2, c2, rfl, hnc2, hst2, hb2⟩ := own2A_accs ho
  have Hacc2 := hide (Hacc1.out.on hb2)
  have Hb2 := hide (Hb1.out.trans (hb2.mono Hb1.out.size))
  have Hst2 := hide hst2
  clear ho hb2 hst2
  go_wp2_with fail
  refine (s_follow A1 n1 c1 X who s _ Hacc2.out Hsm.out hn1 hsm hwm).mono ?_
  intro e w3 ho
  obtain ⟨A3, n3, c3, rfl, hnc3, hst3, hb3⟩ := own2A_accs ho
  have Hacc3 := hide (Hacc2.out.on hb3)
  have Hst23 := hide (Hst2.out.on hb3)
  have Hst3 := hide hst3
  have Hb3 := hide (Hb2.out.trans (hb3.mono Hb2.out.size))
  clear ho hb3 hst3
  cases ho : followM X who s
  · have h2 := Hst23.out
    have h3 := Hst3.out
    rw [ho] at h2 h3
    simp only [Option.getD_none] at h2 h3
    have z2 : n2 = 0 := h2.1.symm
    have HA2 := hide h2
    have HA3 := hide h3
    have hn2m : n2 ≤ maxLen := by rw [z2]; exact Nat.zero_le _
    clear h2 h3 ho z2
    go_wp2_with fail
    refine (l_sameAs A2 n2 c2 A3 n3 c3 [] _ HA2.out HA3.out hn2m).mono ?_
    rintro e w4 ⟨rfl, hb4⟩
    have HB2 := hide (HA2.out.on hb4)
    have HB3 := hide (HA3.out.on hb4)
    have Hb4 := hide (Hb3.out.trans (hb4.mono Hb3.out.size))
    clear hb4
    go_wp2_with fail
    refine (l_sameAs A2 n2 c2 A3 n3 c3 [] _ HB2.out HB3.out hn2m).mono ?_
    rintro e w5 ⟨rfl, hb5⟩
    go_wp2_with fail
    go_ret
    exact ⟨rfl, Hb4.out.trans (hb5.mono Hb4.out.size)⟩
  rename_i Y
  have HO := hide ho
  obtain ⟨F, hF⟩ := followed ho
  have HF := hide hF
  have HA2 : Hid (Accs w3 w3.heap.size A2 n2 Y) := by have h := Hst23.out; rw [ho] at h; exact h
  have HA3 : Hid (Accs w3 w3.heap.size A3 n3 Y) := by have h := Hst3.out; rw [ho] at h; exact h
  have hn2 : n2 ≤ 6 := by have h1 := HA2.out.1; have h2 := asB_6 hF.vy; omega
  have hn2m : n2 ≤ maxLen := by unfold maxLen; omega
  have HsY : Hid (ASmall Y) := asB_small hF.vy
  have Hfx := hide (folM_t (s := s) hF.vx)
  clear ho hF Hst23 Hst3 Hst2 Hacc2
  go_wp2_with fail
  refine (l_sameAs A2 n2 c2 A3 n3 c3 Y _ HA2.out HA3.out hn2m).mono ?_
  rintro e w4 ⟨rfl, hb4⟩
  have HY4 := hide (HA2.out.on hb4)
  have HX4 := hide (Hacc3.out.on hb4)
  have Hb4 := hide (Hb3.out.trans (hb4.mono Hb3.out.size))
  clear hb4
  have HA := hide HF.out.again
  go_wp2_with fail
  refine (i_follow A2 n2 c2 Y who s _ HY4.out HsY.out hn2m hsm hwm).mono ?_
  rw [HA.out]
  intro e w5 ho
  obtain ⟨A5, n5, c5, rfl, hnc5, hst5, hb5⟩ := own2A_accs ho
  have HY5 := hide (HY4.out.on hb5)
  have HZ5 : Hid (Accs w5 w5.heap.size A5 n5 Y) := hst5
  have Hb5 := hide (Hb4.out.trans (hb5.mono Hb4.out.size))
  have hn5m : n5 ≤ maxLen := by have h1 := HZ5.out.1; have h2 := HY5.out.1; omega
  clear ho hst5 hb5
  go_wp2_with fail
  refine (l_sameAs A5 n5 c5 A2 n2 c2 Y _ HZ5.out HY5.out hn5m).mono ?_
  rintro e w6 ⟨rfl, hb6⟩
  go_wp2_with fail
  go_ret
  exact ⟨rfl, Hb5.out.trans (hb6.mono Hb5.out.size)⟩

set_option maxHeartbeats 1000000 in
set_option maxRecDepth 100000 in
theorem FnFollowSelf_walk (w : World) (A : Option Addr) (n c : Nat) (hc : Code w w.heap.size A n) (hnc : n ≤ c) (hm : n ≤ maxLen) :
    Calls Try.prog 13 #[.slice A n c] w fun e w' => e = .returned (.bool true) ∧ Below w.heap.size w w' := by
  by_cases h : 1048576 < n
  · unfold maxLen at hm
    go_enter Try.func13, Try.ntmps13
    go_wp2
    go_ret
    exact ⟨rfl, Below.refl _ _⟩
  go_enter Try.func13, Try.ntmps13
  go_wp2_with fail
  refine (d_Follow A n c w hc hnc (by omega)).mono ?_
  rintro e w1 ⟨v, X, who, s, rfl, ⟨A1, n1, c1, rfl, hacc, hnc1, hdr, hpos, _, hb1⟩, hw5, hs3⟩
  have Hacc1 := hide hacc
  have Hb1 := hide hb1
  have Hsm := hide hdr.small
  have Hdr := hide hdr
  have hl := hide hacc.1
  have hn8 : n1 ≤ 8 := by have := hdr.1; have := hl.out; omega
  have hn1 : n1 ≤ maxLen := by unfold maxLen; omega
  have hsm : s.size ≤ maxLen := by unfold maxLen; omega
  have hwm : who.size ≤ maxLen := by unfold maxLen; omega
  clear hacc hb1 hdr hc hnc hpos
  go_wp2_with fail
  refine (i_follow A1 n1 c1 X who s _ Hacc1.out Hsm.out hn1 hsm hwm).mono ?_
  intro e w2 ho
  obtain ⟨A2, n2, c2, rfl, hnc2, hst2, hb2⟩ := own2A_accs ho
  have Hacc2 := hide (Hacc1.out.on hb2)
  have Hb2 := hide (Hb1.out.trans (hb2.mono Hb1.out.size))
  have Hst2 := hide hst2
  clear ho hb2 hst2
  go_wp2_with fail
  refine (s_follow A1 n1 c1 X who s _ Hacc2.out Hsm.out hn1 hsm hwm).mono ?_
  intro e w3 ho
  obtain ⟨A3, n3, c3, rfl, hnc3, hst3, hb3⟩ := own2A_accs ho
  have Hacc3 := hide (Hacc2.out.on hb3)
  have Hst23 := hide (Hst2.out.on hb3)
  have Hst3 := hide hst3
  have Hb3 := hide (Hb2.out.trans (hb3.mono Hb2.out.size))
  clear ho hb3 hst3
  cases ho : followM X who s
  · have h2 := Hst23.out
    have h3 := Hst3.out
    rw [ho] at h2 h3
    simp only [Option.getD_none] at h2 h3
    have z2 : n2 = 0 := h2.1.symm
    have HA2 := hide h2
    have HA3 := hide h3
    have hn2m : n2 ≤ maxLen := by rw [z2]; exact Nat.zero_le _
    clear h2 h3 ho z2
    go_wp2_with fail
    refine (l_sameAs A2 n2 c2 A3 n3 c3 [] _ HA2.out HA3.out hn2m).mono ?_
    rintro e w4 ⟨rfl, hb4⟩
    have HB2 := hide (HA2.out.on hb4)
    have HB3 := hide (HA3.out.on hb4)
    have Hb4 := hide (Hb3.out.trans (hb4.mono Hb3.out.size))
    clear hb4
    go_wp2_with fail
    refine (l_sameAs A2 n2 c2 A3 n3 c3 [] _ HB2.out HB3.out hn2m).mono ?_
    rintro e w5 ⟨rfl, hb5⟩
    go_wp2_with fail
    go_ret
    exact ⟨rfl, Hb4.out.trans (hb5.mono Hb4.out.size)⟩
  rename_i Y
  have HO := hide ho
  obtain ⟨F, hF⟩ := followed ho
  have HF := hide hF
  have HA2 : Hid (Accs w3 w3.heap.size A2 n2 Y) := by have h := Hst23.out; rw [ho] at h; exact h
  have HA3 : Hid (Accs w3 w3.heap.size A3 n3 Y) := by have h := Hst3.out; rw [ho] at h; exact h
  have hn2 : n2 ≤ 6 := by have h1 := HA2.out.1; have h2 := asB_6 hF.vy; omega
  have hn2m : n2 ≤ maxLen := by unfold maxLen; omega
  have HsY : Hid (ASmall Y) := asB_small hF.vy
  have Hfx := hide (folM_t (s := s) hF.vx)
  clear ho hF Hst23 Hst3 Hst2 Hacc2
  go_wp2_with fail
  refine (l_sameAs A2 n2 c2 A3 n3 c3 Y _ HA2.out HA3.out hn2m).mono ?_
  rintro e w4 ⟨rfl, hb4⟩
  have HY4 := hide (HA2.out.on hb4)
  have HX4 := hide (Hacc3.out.on hb4)
  have Hb4 := hide (Hb3.out.trans (hb4.mono Hb3.out.size))
  clear hb4
  have H1 := hide (follow_3 X s)
  have H2 : Hid (followM X who { data := #[122, 122, 122, 122] } = none) := follow_2 (memB_f (fun hm => by
    obtain ⟨k, F, hk⟩ := nms_mem hm
    have h := (Hdr.out.2 _ (List.mem_of_getElem? hk)).1
    exact absurd (show (4:Nat) ≤ 3 from h) (by omega)))
  go_wp2_with fail
  refine (i_follow A1 n1 c1 X s s _ HX4.out Hsm.out hn1 hsm hsm).mono ?_
  rw [H1.out]
  intro e w5 ho
  obtain ⟨A5, n5, c5, rfl, hnc5, hst5, hb5⟩ := own2A_accs ho
  have HX5 := hide (HX4.out.on hb5)
  have Hb5 := hide (Hb4.out.trans (hb5.mono Hb4.out.size))
  clear ho hst5 hb5
  go_wp2_with fail
  refine (i_follow A1 n1 c1 X who _ _ HX5.out Hsm.out hn1 (by decide) hwm).mono ?_
  rw [H2.out]
  intro e w6 ho
  obtain ⟨A6, n6, c6, rfl, hnc6, hst6, hb6⟩ := own2A_accs ho
  have Hb6 := hide (Hb5.out.trans (hb6.mono Hb5.out.size))
  clear ho hst6 hb6
  go_wp2_with fail
  go_ret
  exact ⟨rfl, Hb6.out⟩

set_option maxHeartbeats 1000000 in
set_option maxRecDepth 100000 in
theorem FnFollow_walk (w : World) (A : Option Addr) (n c : Nat) (hc : Code w w.heap.size A n) (hnc : n ≤ c) (hm : n ≤ maxLen) :
    Calls Try.prog 3 #[.slice A n c] w fun e w' => e = .returned (.bool true) ∧ Below w.heap.size w w' := by
  by_cases h : 1048576 < n
  · unfold maxLen at hm
    go_enter Try.func3, Try.ntmps3
    go_wp2
    go_ret
    exact ⟨rfl, Below.refl _ _⟩
  go_enter Try.func3, Try.ntmps3
  go_wp2_with fail
  refine (d_Follow A n c w hc hnc (by omega)).mono ?_
  rintro e w1 ⟨v, X, who, s, rfl, ⟨A1, n1, c1, rfl, hacc, hnc1, hdr, hpos, _, hb1⟩, hw5, hs3⟩
  have Hacc1 := hide hacc
  have Hb1 := hide hb1
  have Hsm := hide hdr.small
  have Hdr := hide hdr
  have hl := hide hacc.1
  have hn8 : n1 ≤ 8 := by have := hdr.1; have := hl.out; omega
  have hn1 : n1 ≤ maxLen := by unfold maxLen; omega
  have hsm : s.size ≤ maxLen := by unfold maxLen; omega
  have hwm : who.size ≤ maxLen := by unfold maxLen; omega
  clear hacc hb1 hdr hc hnc hpos
  go_wp2_with fail
  refine (i_follow A1 n1 c1 X who s _ Hacc1.out Hsm.out hn1 hsm hwm).mono ?_
  intro e w2 ho
  obtain ⟨A2, n2, c2, rfl, hnc2, hst2, hb2⟩ := own2A_accs ho
  have Hacc2 := hide (Hacc1.out.on hb2)
  have Hb2 := hide (Hb1.out.trans (hb2.mono Hb1.out.size))
  have Hst2 := hide hst2
  clear ho hb2 hst2
  go_wp2_with fail
  refine (s_follow A1 n1 c1 X who s _ Hacc2.out Hsm.out hn1 hsm hwm).mono ?_
  intro e w3 ho
  obtain ⟨A3, n3, c3, rfl, hnc3, hst3, hb3⟩ := own2A_accs ho
  have Hacc3 := hide (Hacc2.out.on hb3)
  have Hst23 := hide (Hst2.out.on hb3)
  have Hst3 := hide hst3
  have Hb3 := hide (Hb2.out.trans (hb3.mono Hb2.out.size))
  clear ho hb3 hst3
  cases ho : followM X who s
  · have h2 := Hst23.out
    have h3 := Hst3.out
    rw [ho] at h2 h3
    simp only [Option.getD_none] at h2 h3
    have z2 : n2 = 0 := h2.1.symm
    have HA2 := hide h2
    have HA3 := hide h3
    have hn2m : n2 ≤ maxLen := by rw [z2]; exact Nat.zero_le _
    clear h2 h3 ho z2
    go_wp2_with fail
    refine (l_sameAs A2 n2 c2 A3 n3 c3 [] _ HA2.out HA3.out hn2m).mono ?_
    rintro e w4 ⟨rfl, hb4⟩
    have HB2 := hide (HA2.out.on hb4)
    have HB3 := hide (HA3.out.on hb4)
    have Hb4 := hide (Hb3.out.trans (hb4.mono Hb3.out.size))
    clear hb4
    go_wp2_with fail
    refine (l_sameAs A2 n2 c2 A3 n3 c3 [] _ HB2.out HB3.out hn2m).mono ?_
    rintro e w5 ⟨rfl, hb5⟩
    go_wp2_with fail
    go_ret
    exact ⟨rfl, Hb4.out.trans (hb5.mono Hb4.out.size)⟩
  rename_i Y
  have HO := hide ho
  obtain ⟨F, hF⟩ := followed ho
  have HF := hide hF
  have HA2 : Hid (Accs w3 w3.heap.size A2 n2 Y) := by have h := Hst23.out; rw [ho] at h; exact h
  have HA3 : Hid (Accs w3 w3.heap.size A3 n3 Y) := by have h := Hst3.out; rw [ho] at h; exact h
  have hn2 : n2 ≤ 6 := by have h1 := HA2.out.1; have h2 := asB_6 hF.vy; omega
  have hn2m : n2 ≤ maxLen := by unfold maxLen; omega
  have HsY : Hid (ASmall Y) := asB_small hF.vy
  have Hfx := hide (folM_t (s := s) hF.vx)
  clear ho hF Hst23 Hst3 Hst2 Hacc2
  go_wp2_with fail
  refine (l_sameAs A2 n2 c2 A3 n3 c3 Y _ HA2.out HA3.out hn2m).mono ?_
  rintro e w4 ⟨rfl, hb4⟩
  have HY4 := hide (HA2.out.on hb4)
  have HX4 := hide (Hacc3.out.on hb4)
  have Hb4 := hide (Hb3.out.trans (hb4.mono Hb3.out.size))
  clear hb4
  have H1 := hide HF.out.vy
  have H2 := hide (memB_t HF.out.has)
  have H3 := hide (memB_t HF.out.by')
  go_wp2_with fail
  refine (i_As A2 n2 c2 Y _ HY4.out HsY.out hn2m).mono ?_
  rintro e w5 ⟨rfl, hb5⟩
  rw [H1.out]
  have HY5 := hide (HY4.out.on hb5)
  have Hb5 := hide (Hb4.out.trans (hb5.mono Hb4.out.size))
  clear hb5
  go_wp2_with fail
  refine (i_fof A2 n2 c2 Y s _ HY5.out HsY.out hn2m hsm).mono ?_
  intro e w6 ho
  obtain ⟨A6, n6, c6, rfl, hnc6, hst6, hb6⟩ := own1_strs ho
  have HY6 := hide (HY5.out.on hb6)
  have HS6 := hide hst6
  have hn6 : n6 ≤ maxLen := by have h1 := hst6.1; have h2 := folM_len Y s; unfold maxLen; omega
  have Hb6 := hide (Hb5.out.trans (hb6.mono Hb5.out.size))
  clear ho hst6 hb6
  go_wp2_with fail
  refine (l_has A6 n6 c6 _ who _ HS6.out hn6).mono ?_
  rintro e w7 ⟨rfl, rfl⟩
  rw [H2.out]
  go_wp2_with fail
  refine (i_fby A2 n2 c2 Y who _ HY6.out HsY.out hn2m).mono ?_
  intro e w8 ho
  obtain ⟨A8, n8, c8, rfl, hnc8, hst8, hb8⟩ := own1_strs ho
  have HS8 := hide hst8
  have hn8m : n8 ≤ maxLen := by have h1 := hst8.1; have h2 := byM_len Y who; have h3 := HY6.out.1; omega
  have Hb8 := hide (Hb6.out.trans (hb8.mono Hb6.out.size))
  clear ho hst8 hb8
  go_wp2_with fail
  refine (l_has A8 n8 c8 _ s _ HS8.out hn8m).mono ?_
  rintro e w9 ⟨rfl, rfl⟩
  rw [H3.out]
  go_wp2_with fail
  go_ret
  exact ⟨rfl, Hb8.out⟩

set_option maxHeartbeats 1000000 in
set_option maxRecDepth 100000 in
theorem FnFollowEnd_walk (w : World) (A : Option Addr) (n c : Nat) (hc : Code w w.heap.size A n) (hnc : n ≤ c) (hm : n ≤ maxLen) :
    Calls Try.prog 6 #[.slice A n c] w fun e w' => e = .returned (.bool true) ∧ Below w.heap.size w w' := by
  by_cases h : 1048576 < n
  · unfold maxLen at hm
    go_enter Try.func6, Try.ntmps6
    go_wp2
    go_ret
    exact ⟨rfl, Below.refl _ _⟩
  go_enter Try.func6, Try.ntmps6
  go_wp2_with fail
  refine (d_Follow A n c w hc hnc (by omega)).mono ?_
  rintro e w1 ⟨v, X, who, s, rfl, ⟨A1, n1, c1, rfl, hacc, hnc1, hdr, hpos, _, hb1⟩, hw5, hs3⟩
  have Hacc1 := hide hacc
  have Hb1 := hide hb1
  have Hsm := hide hdr.small
  have Hdr := hide hdr
  have hl := hide hacc.1
  have hn8 : n1 ≤ 8 := by have := hdr.1; have := hl.out; omega
  have hn1 : n1 ≤ maxLen := by unfold maxLen; omega
  have hsm : s.size ≤ maxLen := by unfold maxLen; omega
  have hwm : who.size ≤ maxLen := by unfold maxLen; omega
  clear hacc hb1 hdr hc hnc hpos
  go_wp2_with fail
  refine (i_follow A1 n1 c1 X who s _ Hacc1.out Hsm.out hn1 hsm hwm).mono ?_
  intro e w2 ho
  obtain ⟨A2, n2, c2, rfl, hnc2, hst2, hb2⟩ := own2A_accs ho
  have Hacc2 := hide (Hacc1.out.on hb2)
  have Hb2 := hide (Hb1.out.trans (hb2.mono Hb1.out.size))
  have Hst2 := hide hst2
  clear ho hb2 hst2
  go_wp2_with fail
  refine (s_follow A1 n1 c1 X who s _ Hacc2.out Hsm.out hn1 hsm hwm).mono ?_
  intro e w3 ho
  obtain ⟨A3, n3, c3, rfl, hnc3, hst3, hb3⟩ := own2A_accs ho
  have Hacc3 := hide (Hacc2.out.on hb3)
  have Hst23 := hide (Hst2.out.on hb3)
  have Hst3 := hide hst3
  have Hb3 := hide (Hb2.out.trans (hb3.mono Hb2.out.size))
  clear ho hb3 hst3
  cases ho : followM X who s
  · have h2 := Hst23.out
    have h3 := Hst3.out
    rw [ho] at h2 h3
    simp only [Option.getD_none] at h2 h3
    have z2 : n2 = 0 := h2.1.symm
    have HA2 := hide h2
    have HA3 := hide h3
    have hn2m : n2 ≤ maxLen := by rw [z2]; exact Nat.zero_le _
    clear h2 h3 ho z2
    go_wp2_with fail
    refine (l_sameAs A2 n2 c2 A3 n3 c3 [] _ HA2.out HA3.out hn2m).mono ?_
    rintro e w4 ⟨rfl, hb4⟩
    have HB2 := hide (HA2.out.on hb4)
    have HB3 := hide (HA3.out.on hb4)
    have Hb4 := hide (Hb3.out.trans (hb4.mono Hb3.out.size))
    clear hb4
    go_wp2_with fail
    refine (l_sameAs A2 n2 c2 A3 n3 c3 [] _ HB2.out HB3.out hn2m).mono ?_
    rintro e w5 ⟨rfl, hb5⟩
    go_wp2_with fail
    go_ret
    exact ⟨rfl, Hb4.out.trans (hb5.mono Hb4.out.size)⟩
  rename_i Y
  have HO := hide ho
  obtain ⟨F, hF⟩ := followed ho
  have HF := hide hF
  have HA2 : Hid (Accs w3 w3.heap.size A2 n2 Y) := by have h := Hst23.out; rw [ho] at h; exact h
  have HA3 : Hid (Accs w3 w3.heap.size A3 n3 Y) := by have h := Hst3.out; rw [ho] at h; exact h
  have hn2 : n2 ≤ 6 := by have h1 := HA2.out.1; have h2 := asB_6 hF.vy; omega
  have hn2m : n2 ≤ maxLen := by unfold maxLen; omega
  have HsY : Hid (ASmall Y) := asB_small hF.vy
  have Hfx := hide (folM_t (s := s) hF.vx)
  clear ho hF Hst23 Hst3 Hst2 Hacc2
  go_wp2_with fail
  refine (l_sameAs A2 n2 c2 A3 n3 c3 Y _ HA2.out HA3.out hn2m).mono ?_
  rintro e w4 ⟨rfl, hb4⟩
  have HY4 := hide (HA2.out.on hb4)
  have HX4 := hide (Hacc3.out.on hb4)
  have Hb4 := hide (Hb3.out.trans (hb4.mono Hb3.out.size))
  clear hb4
  obtain ⟨Z, hZ, hZX⟩ := HF.out.end'
  have HZ := hide hZ
  have HZX := hide hZX
  clear hZ hZX
  go_wp2_with fail
  refine (i_unfollow A2 n2 c2 Y who s _ HY4.out HsY.out hn2m hsm hwm).mono ?_
  rw [HZ.out]
  intro e w5 ho
  obtain ⟨A5, n5, c5, rfl, hnc5, hst5, hb5⟩ := own2A_accs ho
  have HX5 := hide (HX4.out.on hb5)
  have HZ5 : Hid (Accs w5 w5.heap.size A5 n5 Z) := hst5
  have Hb5 := hide (Hb4.out.trans (hb5.mono Hb4.out.size))
  clear ho hst5 hb5
  go_wp2_with fail
  refine (i_fof A1 n1 c1 X s _ HX5.out Hsm.out hn1 hsm).mono ?_
  intro e w6 ho
  obtain ⟨A6, n6, c6, rfl, hnc6, hst6, hb6⟩ := own1_strs ho
  have HX6 := hide (HX5.out.on hb6)
  have HZ6 := hide (HZ5.out.on hb6)
  have HS6 := hide hst6
  have hn6 : n6 ≤ maxLen := by have h1 := hst6.1; have h2 := folM_len X s; unfold maxLen; omega
  have Hb6 := hide (Hb5.out.trans (hb6.mono Hb5.out.size))
  clear ho hst6 hb6
  go_wp2_with fail
  refine (l_has A6 n6 c6 _ who _ HS6.out hn6).mono ?_
  rintro e w7 ⟨rfl, rfl⟩
  cases hm : memB (folM X s) who
  · have hZe : Z = X := HZX.out (fun h => by rw [memB_t h] at hm; cases hm)
    have HZ7 : Hid (Accs w6 w6.heap.size A5 n5 X) := by have h := HZ6.out; rw [hZe] at h; exact h
    have hn5m : n5 ≤ maxLen := by have h1 := HZ7.out.1; have h2 := HX6.out.1; omega
    clear hZe hm
    go_wp2_with fail
    refine (l_sameAs A5 n5 c5 A1 n1 c1 X _ HZ7.out HX6.out hn5m).mono ?_
    rintro e w8 ⟨rfl, hb8⟩
    go_wp2_with fail
    go_ret
    exact ⟨rfl, Hb6.out.trans (hb8.mono Hb6.out.size)⟩
  · clear hm
    go_wp2_with fail
    go_ret
    exact ⟨rfl, Hb6.out⟩

set_option maxHeartbeats 1000000 in
set_option maxRecDepth 100000 in
theorem FnFollowPut_walk (w : World) (A : Option Addr) (n c : Nat) (hc : Code w w.heap.size A n) (hnc : n ≤ c) (hm : n ≤ maxLen) :
    Calls Try.prog 7 #[.slice A n c] w fun e w' => e = .returned (.bool true) ∧ Below w.heap.size w w' := by
  by_cases h : 1048576 < n
  · unfold maxLen at hm
    go_enter Try.func7, Try.ntmps7
    go_wp2
    go_ret
    exact ⟨rfl, Below.refl _ _⟩
  go_enter Try.func7, Try.ntmps7
  go_wp2_with fail
  refine (d_Follow A n c w hc hnc (by omega)).mono ?_
  rintro e w1 ⟨v, X, who, s, rfl, ⟨A1, n1, c1, rfl, hacc, hnc1, hdr, hpos, _, hb1⟩, hw5, hs3⟩
  have Hacc1 := hide hacc
  have Hb1 := hide hb1
  have Hsm := hide hdr.small
  have Hdr := hide hdr
  have hl := hide hacc.1
  have hn8 : n1 ≤ 8 := by have := hdr.1; have := hl.out; omega
  have hn1 : n1 ≤ maxLen := by unfold maxLen; omega
  have hsm : s.size ≤ maxLen := by unfold maxLen; omega
  have hwm : who.size ≤ maxLen := by unfold maxLen; omega
  clear hacc hb1 hdr hc hnc hpos
  go_wp2_with fail
  refine (i_follow A1 n1 c1 X who s _ Hacc1.out Hsm.out hn1 hsm hwm).mono ?_
  intro e w2 ho
  obtain ⟨A2, n2, c2, rfl, hnc2, hst2, hb2⟩ := own2A_accs ho
  have Hacc2 := hide (Hacc1.out.on hb2)
  have Hb2 := hide (Hb1.out.trans (hb2.mono Hb1.out.size))
  have Hst2 := hide hst2
  clear ho hb2 hst2
  go_wp2_with fail
  refine (s_follow A1 n1 c1 X who s _ Hacc2.out Hsm.out hn1 hsm hwm).mono ?_
  intro e w3 ho
  obtain ⟨A3, n3, c3, rfl, hnc3, hst3, hb3⟩ := own2A_accs ho
  have Hacc3 := hide (Hacc2.out.on hb3)
  have Hst23 := hide (Hst2.out.on hb3)
  have Hst3 := hide hst3
  have Hb3 := hide (Hb2.out.trans (hb3.mono Hb2.out.size))
  clear ho hb3 hst3
  cases ho : followM X who s
  · have h2 := Hst23.out
    have h3 := Hst3.out
    rw [ho] at h2 h3
    simp only [Option.getD_none] at h2 h3
    have z2 : n2 = 0 := h2.1.symm
    have HA2 := hide h2
    have HA3 := hide h3
    have hn2m : n2 ≤ maxLen := by rw [z2]; exact Nat.zero_le _
    clear h2 h3 ho z2
    go_wp2_with fail
    refine (l_sameAs A2 n2 c2 A3 n3 c3 [] _ HA2.out HA3.out hn2m).mono ?_
    rintro e w4 ⟨rfl, hb4⟩
    have HB2 := hide (HA2.out.on hb4)
    have HB3 := hide (HA3.out.on hb4)
    have Hb4 := hide (Hb3.out.trans (hb4.mono Hb3.out.size))
    clear hb4
    go_wp2_with fail
    refine (l_sameAs A2 n2 c2 A3 n3 c3 [] _ HB2.out HB3.out hn2m).mono ?_
    rintro e w5 ⟨rfl, hb5⟩
    go_wp2_with fail
    go_ret
    exact ⟨rfl, Hb4.out.trans (hb5.mono Hb4.out.size)⟩
  rename_i Y
  have HO := hide ho
  obtain ⟨F, hF⟩ := followed ho
  have HF := hide hF
  have HA2 : Hid (Accs w3 w3.heap.size A2 n2 Y) := by have h := Hst23.out; rw [ho] at h; exact h
  have HA3 : Hid (Accs w3 w3.heap.size A3 n3 Y) := by have h := Hst3.out; rw [ho] at h; exact h
  have hn2 : n2 ≤ 6 := by have h1 := HA2.out.1; have h2 := asB_6 hF.vy; omega
  have hn2m : n2 ≤ maxLen := by unfold maxLen; omega
  have HsY : Hid (ASmall Y) := asB_small hF.vy
  have Hfx := hide (folM_t (s := s) hF.vx)
  clear ho hF Hst23 Hst3 Hst2 Hacc2
  go_wp2_with fail
  refine (l_sameAs A2 n2 c2 A3 n3 c3 Y _ HA2.out HA3.out hn2m).mono ?_
  rintro e w4 ⟨rfl, hb4⟩
  have HY4 := hide (HA2.out.on hb4)
  have HX4 := hide (Hacc3.out.on hb4)
  have Hb4 := hide (Hb3.out.trans (hb4.mono Hb3.out.size))
  clear hb4
  have hput := HF.out.put
  rw [← Hfx.out] at hput
  have Hput := hide hput
  have hfy : folM Y s = F := (folM_t HF.out.vy).trans HF.out.fy
  have Hfy := hide hfy
  have hne := beq_of_ne HF.out.ne
  have hne2 : (who.toList != s.toList) = true := by rw [bne, hne]; rfl
  have HsX := hide (nsB_small (putM_some hput).2.1)
  have hFl := putM_len hput
  clear hput hfy
  go_wp2_with fail
  refine (i_fof A1 n1 c1 X s _ HX4.out Hsm.out hn1 hsm).mono ?_
  intro e w5 ho
  obtain ⟨A5, n5, c5, rfl, hnc5, hst5, hb5⟩ := own1_strs ho
  have HY5 := hide (HY4.out.on hb5)
  have HS5 := hide hst5
  have hn5 : n5 ≤ maxLen := by have h1 := hst5.1; have h2 := folM_len X s; unfold maxLen; omega
  have Hb5 := hide (Hb4.out.trans (hb5.mono Hb4.out.size))
  clear ho hst5 hb5
  go_wp2_with fail
  refine (i_NamesPut A5 n5 c5 _ who _ HS5.out HsX.out hnc5 hn5 hwm).mono ?_
  rw [Hput.out]
  rintro e w6 ⟨v6, rfl, ⟨A6, n6, c6, rfl, own6⟩, hb6⟩
  have HS6 := hide (Strs.of_own own6)
  have HY6 := hide (HY5.out.on hb6)
  have Hb6 := hide (Hb5.out.trans (hb6.mono Hb5.out.size))
  have hn6 : n6 ≤ maxLen := by have h1 := HS6.out.1; simp only [Option.getD_some] at h1; unfold maxLen; omega
  clear own6 hb6
  go_wp2_with fail
  refine (i_fof A2 n2 c2 Y s _ HY6.out HsY.out hn2m hsm).mono ?_
  intro e w7 ho
  obtain ⟨A7, n7, c7, rfl, hnc7, hst7, hb7⟩ := own1_strs ho
  rw [Hfy.out] at hst7
  have HS67 := hide (HS6.out.on hb7)
  have HS7 := hide hst7
  have hn7 : n7 ≤ maxLen := by have h1 := hst7.1; unfold maxLen; omega
  have Hb7 := hide (Hb6.out.trans (hb7.mono Hb6.out.size))
  clear ho hst7 hb7
  go_wp2_with fail
  refine (l_same_t A6 n6 c6 A7 n7 c7 F _ HS67.out HS7.out hn6 hn7).mono ?_
  rintro e w8 ⟨rfl, q8, rfl⟩
  go_wp2_with fail
  go_ret
  exact ⟨rfl, below_drewN Hb7.out q8⟩
end Go.Proofs.Ytokaadgakomecaa
