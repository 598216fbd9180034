/- Walks of FnPostsAdd, FnPostsAddNext, FnPostsAddOf, FnPostsRoom. -/
import Derived.Test.YtfncmkmhdddmiabPadd
import Derived.Test.YtfncmkmhdddmiabSameP
import Derived.Test.YtfncmkmhdddmiabDrawP3
set_option linter.unusedVariables false
set_option linter.unusedSimpArgs false
namespace Go.Proofs.Ytfncmkmhdddmiab
open Go.RowKit

set_option maxHeartbeats 1000000 in
set_option maxRecDepth 100000 in
theorem FnPostsRoom_walk (w : World) (A : Option Addr) (n c : Nat) (hc : Code w w.heap.size A n) (hnc : n ≤ c) (hm : n ≤ maxLen) :
    Calls Try.prog 10 #[.slice A n c] w fun e w' => e = .returned (.bool true) ∧ Below w.heap.size w w' := by
  by_cases h : 1048576 < n
  · unfold maxLen at hm
    go_enter Try.func10, Try.ntmps10
    go_wp2
    go_ret
    exact ⟨rfl, Below.refl _ _⟩
  go_enter Try.func10, Try.ntmps10
  go_wp2_with fail
  refine (d_PostsAdd A n c w hc hnc (by omega)).mono ?_
  rintro e w1 ⟨v, X, s, rfl, ⟨A1, n1, c1, rfl, hacc, hnc1, hc1, hdr, hb1⟩, hs5⟩
  have Hacc1 := hide hacc
  have Hb1 := hide hb1
  have Hsm := hide hdr.small
  have Hdr := hide hdr
  have hl := hide hacc.1
  have hn13 : n1 ≤ 13 := by have := hdr.1; have := hl.out; omega
  have hn1 : n1 ≤ maxLen := by unfold maxLen; omega
  have hsm : s.size ≤ maxLen := by unfold maxLen; omega
  clear hacc hb1 hdr hc hnc hc1
  go_wp2_with fail
  refine (i_padd A1 n1 c1 X s _ Hacc1.out Hsm.out hn1 hsm).mono ?_
  intro e w2 ho
  obtain ⟨A2, n2, c2, z2, rfl, hz2, hnc2, hc2, hst2, hb2⟩ := own2_psts ho
  have Hacc2 := hide (Hacc1.out.on hb2)
  have Hb2 := hide (Hb1.out.trans (hb2.mono Hb1.out.size))
  have Hst2 := hide hst2
  have hn2m := Nat.le_trans hnc2 hc2
  clear ho hb2 hst2 hc2
  go_wp2_with fail
  refine (s_padd A1 n1 c1 X s _ Hacc2.out Hsm.out hn1 hsm (by omega)).mono ?_
  intro e w3 ho
  obtain ⟨A3, n3, c3, z3, rfl, hz3, hnc3, hc3, hst3, hb3⟩ := own2_psts ho
  have Hacc3 := hide (Hacc2.out.on hb3)
  have Hst23 := hide (Hst2.out.on hb3)
  have Hst3 := hide hst3
  have Hb3 := hide (Hb2.out.trans (hb3.mono Hb2.out.size))
  clear ho hb3 hst3 hc3
  cases ho : pAddM X s
  · have z20 := hz2.out
    have z30 := hz3.out
    rw [ho] at z20 z30
    obtain rfl : z2 = 0 := z20
    obtain rfl : z3 = 0 := z30
    clear hz2 hz3
    have h2 := Hst23.out
    have h3 := Hst3.out
    rw [ho] at h2 h3
    simp only [Option.getD_none] at h2 h3
    have HA2 := hide h2
    have HA3 := hide h3
    clear h2 h3 ho
    go_wp2_with fail
    refine (l_sameP A2 n2 c2 A3 n3 c3 [] _ HA2.out HA3.out hn2m).mono ?_
    rintro e w4 ⟨rfl, q4, rfl⟩
    go_wp2_with fail
    refine (l_sameP A2 n2 c2 A3 n3 c3 [] _ (HA2.out.drewN q4) (HA3.out.drewN q4) hn2m).mono ?_
    rintro e w5 ⟨rfl, q5, rfl⟩
    go_wp2_with fail
    go_ret
    exact ⟨rfl, below_drewN Hb3.out _⟩
  rename_i Y
  have z20 := hz2.out
  have z30 := hz3.out
  rw [ho] at z20 z30
  obtain rfl : z2 = nextI X := z20
  obtain rfl : z3 = nextI X := z30
  clear hz2 hz3
  have HF := hide (added ho)
  have HA2 : Hid (Psts w3 w3.heap.size A2 n2 Y) := by have h := Hst23.out; rw [ho] at h; exact h
  have HA3 : Hid (Psts w3 w3.heap.size A3 n3 Y) := by have h := Hst3.out; rw [ho] at h; exact h
  have hn21 : n2 = n1 + 1 := by have h1 := HA2.out.1; have h2 := HF.out.len; have h3 := hl.out; omega
  subst hn21
  have HsY : Hid (PSmall Y) := fun a ha => by
    have := psB_pst HF.out.vy ha
    have := nvB_size this.2.2
    unfold maxLen; omega
  clear ho Hst23 Hst3 Hst2 Hacc2
  go_wp2_with fail
  refine (l_sameP A2 (n1 + 1) c2 A3 n3 c3 Y _ HA2.out HA3.out hn2m).mono ?_
  rintro e w4 ⟨rfl, q4, rfl⟩
  have HY4 : Hid (Psts (w3.drewN q4) (w3.drewN q4).heap.size A2 (n1 + 1) Y) := HA2.out.drewN q4
  have HX4 : Hid (Psts (w3.drewN q4) (w3.drewN q4).heap.size A1 n1 X) := Hacc3.out.drewN q4
  have Hb4 : Hid (Below w.heap.size w (w3.drewN q4)) := below_drewN Hb3.out q4
  have hroom := HF.out.room
  have hr1 := hroom.1
  have hr2 := hroom.2.1
  clear HA2 HA3 Hacc3 Hb3 hroom
  generalize w3.drewN q4 = w4 at *
  have h12 : n1 + 1 ≤ 12 := by have h1 := psB_12 HF.out.vy; have h2 := HY4.out.1; omega
  go_wp2_with fail
  go_ret
  exact ⟨rfl, Hb4.out⟩

set_option maxHeartbeats 1000000 in
set_option maxRecDepth 100000 in
theorem FnPostsAddNext_walk (w : World) (A : Option Addr) (n c : Nat) (hc : Code w w.heap.size A n) (hnc : n ≤ c) (hm : n ≤ maxLen) :
    Calls Try.prog 4 #[.slice A n c] w fun e w' => e = .returned (.bool true) ∧ Below w.heap.size w w' := by
  by_cases h : 1048576 < n
  · unfold maxLen at hm
    go_enter Try.func4, Try.ntmps4
    go_wp2
    go_ret
    exact ⟨rfl, Below.refl _ _⟩
  go_enter Try.func4, Try.ntmps4
  go_wp2_with fail
  refine (d_PostsAdd A n c w hc hnc (by omega)).mono ?_
  rintro e w1 ⟨v, X, s, rfl, ⟨A1, n1, c1, rfl, hacc, hnc1, hc1, hdr, hb1⟩, hs5⟩
  have Hacc1 := hide hacc
  have Hb1 := hide hb1
  have Hsm := hide hdr.small
  have Hdr := hide hdr
  have hl := hide hacc.1
  have hn13 : n1 ≤ 13 := by have := hdr.1; have := hl.out; omega
  have hn1 : n1 ≤ maxLen := by unfold maxLen; omega
  have hsm : s.size ≤ maxLen := by unfold maxLen; omega
  clear hacc hb1 hdr hc hnc hc1
  go_wp2_with fail
  refine (i_padd A1 n1 c1 X s _ Hacc1.out Hsm.out hn1 hsm).mono ?_
  intro e w2 ho
  obtain ⟨A2, n2, c2, z2, rfl, hz2, hnc2, hc2, hst2, hb2⟩ := own2_psts ho
  have Hacc2 := hide (Hacc1.out.on hb2)
  have Hb2 := hide (Hb1.out.trans (hb2.mono Hb1.out.size))
  have Hst2 := hide hst2
  have hn2m := Nat.le_trans hnc2 hc2
  clear ho hb2 hst2 hc2
  go_wp2_with fail
  refine (s_padd A1 n1 c1 X s _ Hacc2.out Hsm.out hn1 hsm (by omega)).mono ?_
  intro e w3 ho
  obtain ⟨A3, n3, c3, z3, rfl, hz3, hnc3, hc3, hst3, hb3⟩ := own2_psts ho
  have Hacc3 := hide (Hacc2.out.on hb3)
  have Hst23 := hide (Hst2.out.on hb3)
  have Hst3 := hide hst3
  have Hb3 := hide (Hb2.out.trans (hb3.mono Hb2.out.size))
  clear ho hb3 hst3 hc3
  cases ho : pAddM X s
  · have z20 := hz2.out
    have z30 := hz3.out
    rw [ho] at z20 z30
    obtain rfl : z2 = 0 := z20
    obtain rfl : z3 = 0 := z30
    clear hz2 hz3
    have h2 := Hst23.out
    have h3 := Hst3.out
    rw [ho] at h2 h3
    simp only [Option.getD_none] at h2 h3
    have HA2 := hide h2
    have HA3 := hide h3
    clear h2 h3 ho
    go_wp2_with fail
    refine (l_sameP A2 n2 c2 A3 n3 c3 [] _ HA2.out HA3.out hn2m).mono ?_
    rintro e w4 ⟨rfl, q4, rfl⟩
    go_wp2_with fail
    refine (l_sameP A2 n2 c2 A3 n3 c3 [] _ (HA2.out.drewN q4) (HA3.out.drewN q4) hn2m).mono ?_
    rintro e w5 ⟨rfl, q5, rfl⟩
    go_wp2_with fail
    go_ret
    exact ⟨rfl, below_drewN Hb3.out _⟩
  rename_i Y
  have z20 := hz2.out
  have z30 := hz3.out
  rw [ho] at z20 z30
  obtain rfl : z2 = nextI X := z20
  obtain rfl : z3 = nextI X := z30
  clear hz2 hz3
  have HF := hide (added ho)
  have HA2 : Hid (Psts w3 w3.heap.size A2 n2 Y) := by have h := Hst23.out; rw [ho] at h; exact h
  have HA3 : Hid (Psts w3 w3.heap.size A3 n3 Y) := by have h := Hst3.out; rw [ho] at h; exact h
  have hn21 : n2 = n1 + 1 := by have h1 := HA2.out.1; have h2 := HF.out.len; have h3 := hl.out; omega
  subst hn21
  have HsY : Hid (PSmall Y) := fun a ha => by
    have := psB_pst HF.out.vy ha
    have := nvB_size this.2.2
    unfold maxLen; omega
  clear ho Hst23 Hst3 Hst2 Hacc2
  go_wp2_with fail
  refine (l_sameP A2 (n1 + 1) c2 A3 n3 c3 Y _ HA2.out HA3.out hn2m).mono ?_
  rintro e w4 ⟨rfl, q4, rfl⟩
  have HY4 : Hid (Psts (w3.drewN q4) (w3.drewN q4).heap.size A2 (n1 + 1) Y) := HA2.out.drewN q4
  have HX4 : Hid (Psts (w3.drewN q4) (w3.drewN q4).heap.size A1 n1 X) := Hacc3.out.drewN q4
  have Hb4 : Hid (Below w.heap.size w (w3.drewN q4)) := below_drewN Hb3.out q4
  have hroom := HF.out.room
  have hr1 := hroom.1
  have hr2 := hroom.2.1
  clear HA2 HA3 Hacc3 Hb3 hroom
  generalize w3.drewN q4 = w4 at *
  by_cases h0 : n1 = 0
  · have hX : X = [] := List.eq_nil_of_length_eq_zero (by have := hl.out; omega)
    have HI : nextI X = 1 := by rw [hX]; exact nextI_nil
    clear hX
    have hz : ((n1 : Int) == 0) = true := by rw [beq_iff_eq]; omega
    clear h0
    go_wp2_with fail
    go_ret
    exact ⟨by simp [HI], Hb4.out⟩
  · obtain ⟨a, ha, hai⟩ := last_at (X := X) (by have := hl.out; omega)
    have hxn : X.length - 1 = n1 - 1 := by have := hl.out; omega
    rw [hxn] at ha
    obtain ⟨j, hj⟩ : ∃ j, j = n1 - 1 := ⟨_, rfl⟩
    have hji : (n1 : Int) - 1 = (j : Int) := by omega
    have hjn : j < n1 := by omega
    rw [← hj] at ha
    obtain ⟨g, off, rfl, hg, hc0, hc1⟩ := HX4.out.at' ha
    have hz : ((n1 : Int) == 0) = false := by rw [beq_eq_false_iff_ne]; omega
    have HAI := hide hai
    have hb2 : a.1 + 1 ≤ 999 := by omega
    have hb3 : 0 ≤ a.1 := by omega
    clear ha hc1 hj h0 hxn hai
    go_wp2_with fail
    go_ret
    exact ⟨by simp [HAI.out], Hb4.out⟩

set_option maxHeartbeats 1000000 in
set_option maxRecDepth 100000 in
theorem FnPostsAdd_walk (w : World) (A : Option Addr) (n c : Nat) (hc : Code w w.heap.size A n) (hnc : n ≤ c) (hm : n ≤ maxLen) :
    Calls Try.prog 3 #[.slice A n c] w fun e w' => e = .returned (.bool true) ∧ Below w.heap.size w w' := by
  by_cases h : 1048576 < n
  · unfold maxLen at hm
    go_enter Try.func3, Try.ntmps3
    go_wp2
    go_ret
    exact ⟨rfl, Below.refl _ _⟩
  go_enter Try.func3, Try.ntmps3
  go_wp2_with fail
  refine (d_PostsAdd A n c w hc hnc (by omega)).mono ?_
  rintro e w1 ⟨v, X, s, rfl, ⟨A1, n1, c1, rfl, hacc, hnc1, hc1, hdr, hb1⟩, hs5⟩
  have Hacc1 := hide hacc
  have Hb1 := hide hb1
  have Hsm := hide hdr.small
  have Hdr := hide hdr
  have hl := hide hacc.1
  have hn13 : n1 ≤ 13 := by have := hdr.1; have := hl.out; omega
  have hn1 : n1 ≤ maxLen := by unfold maxLen; omega
  have hsm : s.size ≤ maxLen := by unfold maxLen; omega
  clear hacc hb1 hdr hc hnc hc1
  go_wp2_with fail
  refine (i_padd A1 n1 c1 X s _ Hacc1.out Hsm.out hn1 hsm).mono ?_
  intro e w2 ho
  obtain ⟨A2, n2, c2, z2, rfl, hz2, hnc2, hc2, hst2, hb2⟩ := own2_psts ho
  have Hacc2 := hide (Hacc1.out.on hb2)
  have Hb2 := hide (Hb1.out.trans (hb2.mono Hb1.out.size))
  have Hst2 := hide hst2
  have hn2m := Nat.le_trans hnc2 hc2
  clear ho hb2 hst2 hc2
  go_wp2_with fail
  refine (s_padd A1 n1 c1 X s _ Hacc2.out Hsm.out hn1 hsm (by omega)).mono ?_
  intro e w3 ho
  obtain ⟨A3, n3, c3, z3, rfl, hz3, hnc3, hc3, hst3, hb3⟩ := own2_psts ho
  have Hacc3 := hide (Hacc2.out.on hb3)
  have Hst23 := hide (Hst2.out.on hb3)
  have Hst3 := hide hst3
  have Hb3 := hide (Hb2.out.trans (hb3.mono Hb2.out.size))
  clear ho hb3 hst3 hc3
  cases ho : pAddM X s
  · have z20 := hz2.out
    have z30 := hz3.out
    rw [ho] at z20 z30
    obtain rfl : z2 = 0 := z20
    obtain rfl : z3 = 0 := z30
    clear hz2 hz3
    have h2 := Hst23.out
    have h3 := Hst3.out
    rw [ho] at h2 h3
    simp only [Option.getD_none] at h2 h3
    have HA2 := hide h2
    have HA3 := hide h3
    clear h2 h3 ho
    go_wp2_with fail
    refine (l_sameP A2 n2 c2 A3 n3 c3 [] _ HA2.out HA3.out hn2m).mono ?_
    rintro e w4 ⟨rfl, q4, rfl⟩
    go_wp2_with fail
    refine (l_sameP A2 n2 c2 A3 n3 c3 [] _ (HA2.out.drewN q4) (HA3.out.drewN q4) hn2m).mono ?_
    rintro e w5 ⟨rfl, q5, rfl⟩
    go_wp2_with fail
    go_ret
    exact ⟨rfl, below_drewN Hb3.out _⟩
  rename_i Y
  have z20 := hz2.out
  have z30 := hz3.out
  rw [ho] at z20 z30
  obtain rfl : z2 = nextI X := z20
  obtain rfl : z3 = nextI X := z30
  clear hz2 hz3
  have HF := hide (added ho)
  have HA2 : Hid (Psts w3 w3.heap.size A2 n2 Y) := by have h := Hst23.out; rw [ho] at h; exact h
  have HA3 : Hid (Psts w3 w3.heap.size A3 n3 Y) := by have h := Hst3.out; rw [ho] at h; exact h
  have hn21 : n2 = n1 + 1 := by have h1 := HA2.out.1; have h2 := HF.out.len; have h3 := hl.out; omega
  subst hn21
  have HsY : Hid (PSmall Y) := fun a ha => by
    have := psB_pst HF.out.vy ha
    have := nvB_size this.2.2
    unfold maxLen; omega
  clear ho Hst23 Hst3 Hst2 Hacc2
  go_wp2_with fail
  refine (l_sameP A2 (n1 + 1) c2 A3 n3 c3 Y _ HA2.out HA3.out hn2m).mono ?_
  rintro e w4 ⟨rfl, q4, rfl⟩
  have HY4 : Hid (Psts (w3.drewN q4) (w3.drewN q4).heap.size A2 (n1 + 1) Y) := HA2.out.drewN q4
  have HX4 : Hid (Psts (w3.drewN q4) (w3.drewN q4).heap.size A1 n1 X) := Hacc3.out.drewN q4
  have Hb4 : Hid (Below w.heap.size w (w3.drewN q4)) := below_drewN Hb3.out q4
  have hroom := HF.out.room
  have hr1 := hroom.1
  have hr2 := hroom.2.1
  clear HA2 HA3 Hacc3 Hb3 hroom
  generalize w3.drewN q4 = w4 at *
  obtain ⟨i1, hi1, hy0, hy1, hy2⟩ := info_parts' post_info
  have hU := Try.underlying23
  have HV := hide HF.out.vy
  have hat := HF.out.at'
  rw [hl.out] at hat
  have htk := HF.out.take
  rw [hl.out] at htk
  have Hau := hide HF.out.author
  obtain ⟨g, off, rfl, hg, hc0, hc1⟩ := HY4.out.at' hat
  obtain ⟨E, hE, hE1, _⟩ := slice_to hU hi1 hy1 (some ⟨g, off, none⟩) (n1 + 1) c2 n1 n1 rfl (by omega) hnc2
  have HE : Hid (Psts w4 w4.heap.size E n1 X) := by
    have h := hE1 _ _ _ HY4.out.rd
    rw [pcells_take, htk] at h
    exact Psts.of_rd h
  clear hE1 hat htk
  go_wp2_with fail
  refine (i_Ps _ (n1 + 1) c2 Y _ HY4.out HsY.out hn2m).mono ?_
  rintro e w5 ⟨rfl, hb5⟩
  rw [HV.out]
  have HY5 := hide (HY4.out.on hb5)
  have HX5 := hide (HX4.out.on hb5)
  have HE5 := hide (HE.out.on hb5)
  have Hb5 := hide (Hb4.out.trans (hb5.mono Hb4.out.size))
  have hd0 : w5.cell? ⟨g, off + n1 * 2, none⟩ = some (.int .i64 (nextI X)) := (hb5.cell (p := ⟨g, off + n1 * 2, none⟩) hg).trans hc0
  have hd1 : w5.cell? ⟨g, off + n1 * 2 + 1, none⟩ = some (.string s) := (hb5.cell (p := ⟨g, off + n1 * 2 + 1, none⟩) hg).trans hc1
  clear hb5 hc0 hc1
  go_wp2_with fail
  refine (l_sameP E n1 _ A1 n1 c1 X _ HE5.out HX5.out hn1).mono ?_
  rintro e w6 ⟨rfl, q6, rfl⟩
  have he0 : (w5.drewN q6).cell? ⟨g, off + n1 * 2, none⟩ = some (.int .i64 (nextI X)) := hd0
  have he1 : (w5.drewN q6).cell? ⟨g, off + n1 * 2 + 1, none⟩ = some (.string s) := hd1
  have HY6 : Hid (Psts (w5.drewN q6) (w5.drewN q6).heap.size (some ⟨g, off, none⟩) (n1 + 1) Y) := HY5.out.drewN q6
  have HX6 : Hid (Psts (w5.drewN q6) (w5.drewN q6).heap.size A1 n1 X) := HX5.out.drewN q6
  have Hb6 : Hid (Below w.heap.size w (w5.drewN q6)) := below_drewN Hb5.out q6
  clear hd0 hd1 HY5 HX5 HE5 Hb5
  generalize w5.drewN q6 = w6 at *
  by_cases h0 : n1 = 0
  · have hz : ((n1 : Int) == 0) = true := by rw [beq_iff_eq]; omega
    have H0 := hide h0
    clear h0
    go_wp2_with fail
    refine (i_pau _ (n1 + 1) c2 Y (nextI X) _ HY6.out HsY.out hn2m).mono ?_
    rintro e w7 ⟨rfl, hb7⟩
    rw [Hau.out]
    go_wp2_with fail
    go_ret
    exact ⟨rfl, Hb6.out.trans (hb7.mono Hb6.out.size)⟩
  · obtain ⟨a, ha, hai⟩ := last_at (X := X) (by have := hl.out; omega)
    have hxn : X.length - 1 = n1 - 1 := by have := hl.out; omega
    rw [hxn] at ha
    obtain ⟨j, hj⟩ : ∃ j, j = n1 - 1 := ⟨_, rfl⟩
    have hji : (n1 : Int) - 1 = (j : Int) := by omega
    have hjn : j < n1 := by omega
    rw [← hj] at ha
    obtain ⟨g1, off1, rfl, hg1, hf0, hf1⟩ := HX6.out.at' ha
    have hz : ((n1 : Int) == 0) = false := by rw [beq_eq_false_iff_ne]; omega
    have hlt : a.1 < nextI X := by omega
    clear ha hf1 hj h0 hxn hai
    go_wp2_with fail
    refine (i_pau _ (n1 + 1) c2 Y (nextI X) _ HY6.out HsY.out hn2m).mono ?_
    rintro e w7 ⟨rfl, hb7⟩
    rw [Hau.out]
    go_wp2_with fail
    go_ret
    exact ⟨rfl, Hb6.out.trans (hb7.mono Hb6.out.size)⟩

set_option maxHeartbeats 1000000 in
set_option maxRecDepth 100000 in
theorem FnPostsAddOf_walk (w : World) (A : Option Addr) (n c : Nat) (hc : Code w w.heap.size A n) (hnc : n ≤ c) (hm : n ≤ maxLen) :
    Calls Try.prog 5 #[.slice A n c] w fun e w' => e = .returned (.bool true) ∧ Below w.heap.size w w' := by
  by_cases h : 1048576 < n
  · unfold maxLen at hm
    go_enter Try.func5, Try.ntmps5
    go_wp2
    go_ret
    exact ⟨rfl, Below.refl _ _⟩
  go_enter Try.func5, Try.ntmps5
  go_wp2_with fail
  refine (d_PostsAdd A n c w hc hnc (by omega)).mono ?_
  rintro e w1 ⟨v, X, s, rfl, ⟨A1, n1, c1, rfl, hacc, hnc1, hc1, hdr, hb1⟩, hs5⟩
  have Hacc1 := hide hacc
  have Hb1 := hide hb1
  have Hsm := hide hdr.small
  have Hdr := hide hdr
  have hl := hide hacc.1
  have hn13 : n1 ≤ 13 := by have := hdr.1; have := hl.out; omega
  have hn1 : n1 ≤ maxLen := by unfold maxLen; omega
  have hsm : s.size ≤ maxLen := by unfold maxLen; omega
  clear hacc hb1 hdr hc hnc hc1
  go_wp2_with fail
  refine (i_padd A1 n1 c1 X s _ Hacc1.out Hsm.out hn1 hsm).mono ?_
  intro e w2 ho
  obtain ⟨A2, n2, c2, z2, rfl, hz2, hnc2, hc2, hst2, hb2⟩ := own2_psts ho
  have Hacc2 := hide (Hacc1.out.on hb2)
  have Hb2 := hide (Hb1.out.trans (hb2.mono Hb1.out.size))
  have Hst2 := hide hst2
  have hn2m := Nat.le_trans hnc2 hc2
  clear ho hb2 hst2 hc2
  go_wp2_with fail
  refine (s_padd A1 n1 c1 X s _ Hacc2.out Hsm.out hn1 hsm (by omega)).mono ?_
  intro e w3 ho
  obtain ⟨A3, n3, c3, z3, rfl, hz3, hnc3, hc3, hst3, hb3⟩ := own2_psts ho
  have Hacc3 := hide (Hacc2.out.on hb3)
  have Hst23 := hide (Hst2.out.on hb3)
  have Hst3 := hide hst3
  have Hb3 := hide (Hb2.out.trans (hb3.mono Hb2.out.size))
  clear ho hb3 hst3 hc3
  cases ho : pAddM X s
  · have z20 := hz2.out
    have z30 := hz3.out
    rw [ho] at z20 z30
    obtain rfl : z2 = 0 := z20
    obtain rfl : z3 = 0 := z30
    clear hz2 hz3
    have h2 := Hst23.out
    have h3 := Hst3.out
    rw [ho] at h2 h3
    simp only [Option.getD_none] at h2 h3
    have HA2 := hide h2
    have HA3 := hide h3
    clear h2 h3 ho
    go_wp2_with fail
    refine (l_sameP A2 n2 c2 A3 n3 c3 [] _ HA2.out HA3.out hn2m).mono ?_
    rintro e w4 ⟨rfl, q4, rfl⟩
    go_wp2_with fail
    refine (l_sameP A2 n2 c2 A3 n3 c3 [] _ (HA2.out.drewN q4) (HA3.out.drewN q4) hn2m).mono ?_
    rintro e w5 ⟨rfl, q5, rfl⟩
    go_wp2_with fail
    go_ret
    exact ⟨rfl, below_drewN Hb3.out _⟩
  rename_i Y
  have z20 := hz2.out
  have z30 := hz3.out
  rw [ho] at z20 z30
  obtain rfl : z2 = nextI X := z20
  obtain rfl : z3 = nextI X := z30
  clear hz2 hz3
  have HF := hide (added ho)
  have HA2 : Hid (Psts w3 w3.heap.size A2 n2 Y) := by have h := Hst23.out; rw [ho] at h; exact h
  have HA3 : Hid (Psts w3 w3.heap.size A3 n3 Y) := by have h := Hst3.out; rw [ho] at h; exact h
  have hn21 : n2 = n1 + 1 := by have h1 := HA2.out.1; have h2 := HF.out.len; have h3 := hl.out; omega
  subst hn21
  have HsY : Hid (PSmall Y) := fun a ha => by
    have := psB_pst HF.out.vy ha
    have := nvB_size this.2.2
    unfold maxLen; omega
  clear ho Hst23 Hst3 Hst2 Hacc2
  go_wp2_with fail
  refine (l_sameP A2 (n1 + 1) c2 A3 n3 c3 Y _ HA2.out HA3.out hn2m).mono ?_
  rintro e w4 ⟨rfl, q4, rfl⟩
  have HY4 : Hid (Psts (w3.drewN q4) (w3.drewN q4).heap.size A2 (n1 + 1) Y) := HA2.out.drewN q4
  have HX4 : Hid (Psts (w3.drewN q4) (w3.drewN q4).heap.size A1 n1 X) := Hacc3.out.drewN q4
  have Hb4 : Hid (Below w.heap.size w (w3.drewN q4)) := below_drewN Hb3.out q4
  have hroom := HF.out.room
  have hr1 := hroom.1
  have hr2 := hroom.2.1
  clear HA2 HA3 Hacc3 Hb3 hroom
  generalize w3.drewN q4 = w4 at *
  obtain ⟨i1, hi1, hy0, hy1, hy2⟩ := info_parts' int_info
  have hU := Try.underlying35
  have Hof := hide HF.out.of
  go_wp2_with fail
  refine (i_pof A2 (n1 + 1) c2 Y s _ HY4.out HsY.out hn2m).mono ?_
  intro e w5 ho
  rw [Hof.out] at ho
  obtain ⟨A5, n5, c5, rfl, hnc5, hc5, hst5, hb5⟩ := own1_ints ho
  have HX5 := hide (HX4.out.on hb5)
  have HS5 := hide hst5
  have Hb5 := hide (Hb4.out.trans (hb5.mono Hb4.out.size))
  have hs5' := Hb5.out.size
  clear ho hst5 hb5
  have hba := (Below.refl w5.heap.size w5).alloc (Nat.le_refl _) (.cells #[.int .i64 (nextI X)] 3)
  have own0 : (w5.alloc (.cells #[.int .i64 (nextI X)] 3)).ownsRow w5.heap.size 3 1 (.slice (some ⟨w5.heap.size, 0, none⟩) 1 1) 1 ([nextI X].map (Value.int .i64)) := World.ownsRow_lit w5 #[.int .i64 (nextI X)] 1 (Nat.le_refl _) (by decide) rfl
  have Hba := hide hba
  have Own0 := hide own0
  clear hba own0
  go_wp2_with fail
  refine (i_pof A1 n1 c1 X s _ (HX5.out.on Hba.out) Hsm.out hn1).mono ?_
  intro e w6 ho
  obtain ⟨A6, n6, c6, rfl, hnc6, hc6, hst6, hb6⟩ := own1_ints ho
  have HS6 := hide hst6
  have Own6 := hide (Own0.out.kept (grown_of_below hb6 (row := none)) (.inr (by simp [Value.ownBlock])))
  have HS56 := hide ((HS5.out.on Hba.out).on hb6)
  have hbs : w5.heap.size ≤ (w5.alloc (.cells #[.int .i64 (nextI X)] 3)).heap.size := by simp
  have Hb56 := hide (Hba.out.trans (hb6.mono hbs))
  have hs6 := Hb56.out.size
  have hn6 : n6 ≤ 13 := by have h1 := HS6.out.1; have h2 := pOfM_len X s; have h3 := hl.out; omega
  have b1 : 1 + n6 ≤ maxLen := by unfold maxLen; omega
  have b2 : (1 + n6) * 8 ≤ 140737488355328 := by omega
  clear ho hst6 hb6
  go_wp2_with (
    (at_builtin
     refine wpList_append_rd _ rfl (.tmp 68) (.tmp 71) _ rfl w5.heap.size 3 i1 _ 1 8 hU hi1 hy0 hy1 hy2 rfl (by omega) (.slice (some ⟨w5.heap.size, 0, none⟩) 1 1) 1 ([nextI X].map (Value.int .i64)) rfl Own6.out w6.heap.size A6 n6 c6 ((pOfM X s).map (Value.int .i64)) rfl HS6.out.rd (one_ints _) b1 b2 (by omega) ?_
     intro v7 w7 own7 gr7 at7
     have Hb7 : Hid (Below w5.heap.size w5 w7) := Below.own Hb56.out gr7 Own6.out (Nat.le_refl _) (by omega)
     have hb67 : Below w5.heap.size w6 w7 := (Below.refl _ _).grown gr7 (by omega) (fun q hq => (Own6.out.lt q hq).1)
     obtain ⟨A7, c7, e7⟩ := own_slice own7
     subst e7
     have e8 : [nextI X].map (Value.int .i64) ++ (pOfM X s).map (Value.int .i64) = (nextI X :: pOfM X s).map (Value.int .i64) := rfl
     rw [e8] at own7
     have HS7 := hide (Ints.of_own own7)
     clear gr7 at7 own7 e8))
  have hn5m : n5 ≤ maxLen := Nat.le_trans hnc5 hc5
  refine (l_sameI A5 n5 c5 A7 (1 + n6) c7 _ _ ((HS5.out.below Hb7.out).more Hb7.out.size) HS7.out hn5m).mono ?_
  rintro e w8 ⟨rfl, q8, rfl⟩
  go_wp2_with fail
  go_ret
  exact ⟨rfl, below_drewN (Hb5.out.trans (Hb7.out.mono hs5')) q8⟩
end Go.Proofs.Ytfncmkmhdddmiab
