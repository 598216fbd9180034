/- Walks of FnBoxesPut, FnBoxesPutTwice, FnBoxesPutSwap, FnBoxesPutNew. -/
import Derived.Test.YtfncmkmhdddmiaaIbx
import Derived.Test.YtfncmkmhdddmiaaBsp
import Derived.Test.YtfncmkmhdddmiaaSameB
import Derived.Test.YtfncmkmhdddmiaaDrawB2
set_option linter.unusedVariables false
set_option linter.unusedSimpArgs false
namespace Go.Proofs.Ytfncmkmhdddmiaa
open Go.RowKit Go.BigFrame

theorem bxs_small {Y : List Bx} (h : bxsB Y = true) : BSmall Y := fun a ha => by have := nvB_size (bxsB_bx h ha).1; unfold maxLen; omega
theorem bsPutM_small {X : List Bx} {s : ByteArray} {i : Int} : BSmall ((bsPutM X s i).getD []) := by
  cases h : bsPutM X s i with
  | none => exact fun a ha => by cases ha
  | some Y => exact bxs_small (bsPutM_some h).vy

set_option maxHeartbeats 1000000 in
set_option maxRecDepth 100000 in
theorem FnBoxesPutTwice_walk (w : World) (A : Option Addr) (n c : Nat) (hc : Code w w.heap.size A n) (hnc : n ≤ c) (hm : n ≤ maxLen) :
    Calls Try.prog 9 #[.slice A n c] w fun e w' => e = .returned (.bool true) ∧ Below w.heap.size w w' := by
  by_cases h : 1048576 < n
  · unfold maxLen at hm
    go_enter Try.func9, Try.ntmps9
    go_wp2
    go_ret
    exact ⟨rfl, Below.refl _ _⟩
  go_enter Try.func9, Try.ntmps9
  go_wp2_with fail
  refine (d_BoxesPut A n c w hc hnc (by omega)).mono ?_
  rintro e w1 ⟨v, X, s, i, rfl, ⟨A1, n1, c1, rfl, hacc, hnc1, hc1, hdr, hb1⟩, hs5⟩
  have Hacc1 := hide hacc
  have Hb1 := hide hb1
  have Hsm := hide hdr.small
  have hl := hide hacc.1
  have hn16 : n1 ≤ 6 := by have := hdr.1; have := hl.out; omega
  have hn1 : n1 ≤ maxLen := by unfold maxLen; omega
  have hsm : s.size ≤ maxLen := by unfold maxLen; omega
  clear hacc hb1 hdr hc hnc hc1
  go_wp2_with fail
  refine (i_BoxesPut A1 n1 c1 X s i _ Hacc1.out Hsm.out hn1 hsm).mono ?_
  intro e w2 ho
  obtain ⟨A2, n2, c2, rfl, hnc2, hc2, hst2, hb2⟩ := own2_bxs ho
  have Hacc2 := hide (Hacc1.out.on hb2)
  have Hb2 := hide (Hb1.out.trans (hb2.mono Hb1.out.size))
  have Hst2 := hide hst2
  have hn2m := Nat.le_trans hnc2 hc2
  clear ho hb2 hst2 hc2
  go_wp2_with fail
  refine (s_BoxesPut A1 n1 c1 X s i _ Hacc2.out Hsm.out hn1 hsm).mono ?_
  intro e w3 ho
  obtain ⟨A3, n3, c3, rfl, hnc3, hc3, hst3, hb3⟩ := own2_bxs ho
  have Hacc3 := hide (Hacc2.out.on hb3)
  have Hst23 := hide (Hst2.out.on hb3)
  have Hst3 := hide hst3
  have Hb3 := hide (Hb2.out.trans (hb3.mono Hb2.out.size))
  clear ho hb3 hst3 hc3
  cases ho : bsPutM X s i
  · have h2 := Hst23.out
    have h3 := Hst3.out
    rw [ho] at h2 h3
    simp only [Option.getD_none] at h2 h3
    have HA2 := hide h2
    have HA3 := hide h3
    clear h2 h3 ho
    go_wp2_with fail
    refine (l_sameBs A2 n2 c2 A3 n3 c3 [] _ HA2.out HA3.out hn2m).mono ?_
    rintro e w4 ⟨rfl, hb4⟩
    have HA24 := hide (HA2.out.on hb4)
    have HA34 := hide (HA3.out.on hb4)
    have Hb4 := hide (Hb3.out.trans (hb4.mono Hb3.out.size))
    clear hb4
    go_wp2_with fail
    refine (l_sameBs A2 n2 c2 A3 n3 c3 [] _ HA24.out HA34.out hn2m).mono ?_
    rintro e w5 ⟨rfl, hb5⟩
    go_wp2_with fail
    go_ret
    exact ⟨rfl, Hb4.out.trans (hb5.mono Hb4.out.size)⟩
  rename_i Y
  have HF := hide (bsPutM_some ho)
  have HA2 : Hid (Bxs w3 w3.heap.size A2 n2 Y) := by have h := Hst23.out; rw [ho] at h; exact h
  have HA3 : Hid (Bxs w3 w3.heap.size A3 n3 Y) := by have h := Hst3.out; rw [ho] at h; exact h
  have hlY := hide HA2.out.1
  have HsY := hide (bxs_small HF.out.vy)
  have hn12 : n1 ≤ n2 ∧ n2 ≤ n1 + 1 := by have h1 := HF.out.len; have h2 := hlY.out; have h3 := hl.out; omega
  have hn12a := hn12.1
  have hn12b := hn12.2
  clear ho Hst23 Hst3 Hst2 Hacc2 hn12
  go_wp2_with fail
  refine (l_sameBs A2 n2 c2 A3 n3 c3 Y _ HA2.out HA3.out hn2m).mono ?_
  rintro e w4 ⟨rfl, hb4⟩
  have HY4 := hide (HA2.out.on hb4)
  have HX4 := hide (Hacc3.out.on hb4)
  have Hb4 := hide (Hb3.out.trans (hb4.mono Hb3.out.size))
  clear HA2 HA3 Hacc3 Hb3 hb4
  have HT := hide HF.out.again
  go_wp2_with fail
  refine (i_BoxesPut A2 n2 c2 Y s i _ HY4.out HsY.out hn2m hsm).mono ?_
  intro e w5 ho
  rw [HT.out] at ho
  obtain ⟨A5, n5, c5, rfl, hnc5, hc5, hst5, hb5⟩ := own2_bxs ho
  simp only [Option.getD_some, Option.isSome_some] at hst5 ⊢
  have HS5 := hide hst5
  have HY5 := hide (HY4.out.on hb5)
  have Hb5 := hide (Hb4.out.trans (hb5.mono Hb4.out.size))
  clear ho hst5 hb5
  go_wp2_with fail
  refine (l_sameBs A5 n5 c5 A2 n2 c2 Y _ HS5.out HY5.out (Nat.le_trans hnc5 hc5)).mono ?_
  rintro e w6 ⟨rfl, hb6⟩
  go_wp2_with fail
  go_ret
  exact ⟨rfl, Hb5.out.trans (hb6.mono Hb5.out.size)⟩

set_option maxHeartbeats 1000000 in
set_option maxRecDepth 100000 in
theorem FnBoxesPut_walk (w : World) (A : Option Addr) (n c : Nat) (hc : Code w w.heap.size A n) (hnc : n ≤ c) (hm : n ≤ maxLen) :
    Calls Try.prog 7 #[.slice A n c] w fun e w' => e = .returned (.bool true) ∧ Below w.heap.size w w' := by
  by_cases h : 1048576 < n
  · unfold maxLen at hm
    go_enter Try.func7, Try.ntmps7
    go_wp2
    go_ret
    exact ⟨rfl, Below.refl _ _⟩
  go_enter Try.func7, Try.ntmps7
  go_wp2_with fail
  refine (d_BoxesPut A n c w hc hnc (by omega)).mono ?_
  rintro e w1 ⟨v, X, s, i, rfl, ⟨A1, n1, c1, rfl, hacc, hnc1, hc1, hdr, hb1⟩, hs5⟩
  have Hacc1 := hide hacc
  have Hb1 := hide hb1
  have Hsm := hide hdr.small
  have hl := hide hacc.1
  have hn16 : n1 ≤ 6 := by have := hdr.1; have := hl.out; omega
  have hn1 : n1 ≤ maxLen := by unfold maxLen; omega
  have hsm : s.size ≤ maxLen := by unfold maxLen; omega
  clear hacc hb1 hdr hc hnc hc1
  go_wp2_with fail
  refine (i_BoxesPut A1 n1 c1 X s i _ Hacc1.out Hsm.out hn1 hsm).mono ?_
  intro e w2 ho
  obtain ⟨A2, n2, c2, rfl, hnc2, hc2, hst2, hb2⟩ := own2_bxs ho
  have Hacc2 := hide (Hacc1.out.on hb2)
  have Hb2 := hide (Hb1.out.trans (hb2.mono Hb1.out.size))
  have Hst2 := hide hst2
  have hn2m := Nat.le_trans hnc2 hc2
  clear ho hb2 hst2 hc2
  go_wp2_with fail
  refine (s_BoxesPut A1 n1 c1 X s i _ Hacc2.out Hsm.out hn1 hsm).mono ?_
  intro e w3 ho
  obtain ⟨A3, n3, c3, rfl, hnc3, hc3, hst3, hb3⟩ := own2_bxs ho
  have Hacc3 := hide (Hacc2.out.on hb3)
  have Hst23 := hide (Hst2.out.on hb3)
  have Hst3 := hide hst3
  have Hb3 := hide (Hb2.out.trans (hb3.mono Hb2.out.size))
  clear ho hb3 hst3 hc3
  cases ho : bsPutM X s i
  · have h2 := Hst23.out
    have h3 := Hst3.out
    rw [ho] at h2 h3
    simp only [Option.getD_none] at h2 h3
    have HA2 := hide h2
    have HA3 := hide h3
    clear h2 h3 ho
    go_wp2_with fail
    refine (l_sameBs A2 n2 c2 A3 n3 c3 [] _ HA2.out HA3.out hn2m).mono ?_
    rintro e w4 ⟨rfl, hb4⟩
    have HA24 := hide (HA2.out.on hb4)
    have HA34 := hide (HA3.out.on hb4)
    have Hb4 := hide (Hb3.out.trans (hb4.mono Hb3.out.size))
    clear hb4
    go_wp2_with fail
    refine (l_sameBs A2 n2 c2 A3 n3 c3 [] _ HA24.out HA34.out hn2m).mono ?_
    rintro e w5 ⟨rfl, hb5⟩
    go_wp2_with fail
    go_ret
    exact ⟨rfl, Hb4.out.trans (hb5.mono Hb4.out.size)⟩
  rename_i Y
  have HF := hide (bsPutM_some ho)
  have HA2 : Hid (Bxs w3 w3.heap.size A2 n2 Y) := by have h := Hst23.out; rw [ho] at h; exact h
  have HA3 : Hid (Bxs w3 w3.heap.size A3 n3 Y) := by have h := Hst3.out; rw [ho] at h; exact h
  have hlY := hide HA2.out.1
  have HsY := hide (bxs_small HF.out.vy)
  have hn12 : n1 ≤ n2 ∧ n2 ≤ n1 + 1 := by have h1 := HF.out.len; have h2 := hlY.out; have h3 := hl.out; omega
  have hn12a := hn12.1
  have hn12b := hn12.2
  clear ho Hst23 Hst3 Hst2 Hacc2 hn12
  go_wp2_with fail
  refine (l_sameBs A2 n2 c2 A3 n3 c3 Y _ HA2.out HA3.out hn2m).mono ?_
  rintro e w4 ⟨rfl, hb4⟩
  have HY4 := hide (HA2.out.on hb4)
  have HX4 := hide (Hacc3.out.on hb4)
  have Hb4 := hide (Hb3.out.trans (hb4.mono Hb3.out.size))
  clear HA2 HA3 Hacc3 Hb3 hb4
  have HG := hide HF.out.get
  have HV := hide HF.out.vy
  have HP : Hid (bPutM (bgetM X s) i = some (bput (bgetM X s) i)) := by
    refine bPutM_t ?_ HF.out.inr
    rw [bgetM_t HF.out.vx]; exact bget_valid HF.out.vx s
  go_wp2_with fail
  refine (i_BoxesGet A1 n1 c1 X s _ HX4.out Hsm.out hn1).mono ?_
  intro e w5 ho
  obtain ⟨A5, n5, c5, rfl, hnc5, hc5, hst5, hb5⟩ := own1_ints ho
  have HS5 := hide hst5
  have HY5 := hide (HY4.out.on hb5)
  have Hb5 := hide (Hb4.out.trans (hb5.mono Hb4.out.size))
  clear ho hst5 hb5
  go_wp2_with fail
  refine (i_BoxPut A5 n5 c5 (bgetM X s) i _ HS5.out (Nat.le_trans hnc5 hc5)).mono ?_
  intro e w6 ho
  rw [HP.out] at ho
  obtain ⟨A6, n6, c6, rfl, hnc6, hc6, hst6, hb6⟩ := own2_ints ho
  simp only [Option.getD_some, Option.isSome_some] at hst6 ⊢
  have HS6 := hide hst6
  have HY6 := hide (HY5.out.on hb6)
  have Hb6 := hide (Hb5.out.trans (hb6.mono Hb5.out.size))
  clear ho hst6 hb6
  go_wp2_with fail
  refine (i_Bs A2 n2 c2 Y _ HY6.out HsY.out hn2m).mono ?_
  rintro e w7 ⟨rfl, hb7⟩
  rw [HV.out]
  have HS7 := hide (HS6.out.on hb7)
  have HY7 := hide (HY6.out.on hb7)
  have Hb7 := hide (Hb6.out.trans (hb7.mono Hb6.out.size))
  clear hb7
  go_wp2_with fail
  refine (i_BoxesGet A2 n2 c2 Y s _ HY7.out HsY.out hn2m).mono ?_
  intro e w8 ho
  rw [HG.out] at ho
  obtain ⟨A8, n8, c8, rfl, hnc8, hc8, hst8, hb8⟩ := own1_ints ho
  have HS8 := hide hst8
  have HS78 := hide (HS7.out.on hb8)
  have Hb8 := hide (Hb7.out.trans (hb8.mono Hb7.out.size))
  clear ho hst8 hb8
  go_wp2_with fail
  refine (l_sameI A8 n8 c8 A6 n6 c6 _ _ HS8.out HS78.out (Nat.le_trans hnc8 hc8)).mono ?_
  rintro e w9 ⟨rfl, q9, rfl⟩
  go_wp2_with fail
  go_ret
  exact ⟨rfl, below_drewN Hb8.out q9⟩

set_option maxHeartbeats 1000000 in
set_option maxRecDepth 100000 in
theorem FnBoxesPutNew_walk (w : World) (A : Option Addr) (n c : Nat) (hc : Code w w.heap.size A n) (hnc : n ≤ c) (hm : n ≤ maxLen) :
    Calls Try.prog 14 #[.slice A n c] w fun e w' => e = .returned (.bool true) ∧ Below w.heap.size w w' := by
  by_cases h : 1048576 < n
  · unfold maxLen at hm
    go_enter Try.func14, Try.ntmps14
    go_wp2
    go_ret
    exact ⟨rfl, Below.refl _ _⟩
  go_enter Try.func14, Try.ntmps14
  go_wp2_with fail
  refine (d_BoxesPut A n c w hc hnc (by omega)).mono ?_
  rintro e w1 ⟨v, X, s, i, rfl, ⟨A1, n1, c1, rfl, hacc, hnc1, hc1, hdr, hb1⟩, hs5⟩
  have Hacc1 := hide hacc
  have Hb1 := hide hb1
  have Hsm := hide hdr.small
  have hl := hide hacc.1
  have hn16 : n1 ≤ 6 := by have := hdr.1; have := hl.out; omega
  have hn1 : n1 ≤ maxLen := by unfold maxLen; omega
  have hsm : s.size ≤ maxLen := by unfold maxLen; omega
  clear hacc hb1 hdr hc hnc hc1
  go_wp2_with fail
  refine (i_BoxesPut A1 n1 c1 X s i _ Hacc1.out Hsm.out hn1 hsm).mono ?_
  intro e w2 ho
  obtain ⟨A2, n2, c2, rfl, hnc2, hc2, hst2, hb2⟩ := own2_bxs ho
  have Hacc2 := hide (Hacc1.out.on hb2)
  have Hb2 := hide (Hb1.out.trans (hb2.mono Hb1.out.size))
  have Hst2 := hide hst2
  have hn2m := Nat.le_trans hnc2 hc2
  clear ho hb2 hst2 hc2
  go_wp2_with fail
  refine (s_BoxesPut A1 n1 c1 X s i _ Hacc2.out Hsm.out hn1 hsm).mono ?_
  intro e w3 ho
  obtain ⟨A3, n3, c3, rfl, hnc3, hc3, hst3, hb3⟩ := own2_bxs ho
  have Hacc3 := hide (Hacc2.out.on hb3)
  have Hst23 := hide (Hst2.out.on hb3)
  have Hst3 := hide hst3
  have Hb3 := hide (Hb2.out.trans (hb3.mono Hb2.out.size))
  clear ho hb3 hst3 hc3
  cases ho : bsPutM X s i
  · have h2 := Hst23.out
    have h3 := Hst3.out
    rw [ho] at h2 h3
    simp only [Option.getD_none] at h2 h3
    have HA2 := hide h2
    have HA3 := hide h3
    clear h2 h3 ho
    go_wp2_with fail
    refine (l_sameBs A2 n2 c2 A3 n3 c3 [] _ HA2.out HA3.out hn2m).mono ?_
    rintro e w4 ⟨rfl, hb4⟩
    have HA24 := hide (HA2.out.on hb4)
    have HA34 := hide (HA3.out.on hb4)
    have Hb4 := hide (Hb3.out.trans (hb4.mono Hb3.out.size))
    clear hb4
    go_wp2_with fail
    refine (l_sameBs A2 n2 c2 A3 n3 c3 [] _ HA24.out HA34.out hn2m).mono ?_
    rintro e w5 ⟨rfl, hb5⟩
    go_wp2_with fail
    go_ret
    exact ⟨rfl, Hb4.out.trans (hb5.mono Hb4.out.size)⟩
  rename_i Y
  have HF := hide (bsPutM_some ho)
  have HA2 : Hid (Bxs w3 w3.heap.size A2 n2 Y) := by have h := Hst23.out; rw [ho] at h; exact h
  have HA3 : Hid (Bxs w3 w3.heap.size A3 n3 Y) := by have h := Hst3.out; rw [ho] at h; exact h
  have hlY := hide HA2.out.1
  have HsY := hide (bxs_small HF.out.vy)
  have hn12 : n1 ≤ n2 ∧ n2 ≤ n1 + 1 := by have h1 := HF.out.len; have h2 := hlY.out; have h3 := hl.out; omega
  have hn12a := hn12.1
  have hn12b := hn12.2
  clear ho Hst23 Hst3 Hst2 Hacc2 hn12
  go_wp2_with fail
  refine (l_sameBs A2 n2 c2 A3 n3 c3 Y _ HA2.out HA3.out hn2m).mono ?_
  rintro e w4 ⟨rfl, hb4⟩
  have HY4 := hide (HA2.out.on hb4)
  have HX4 := hide (Hacc3.out.on hb4)
  have Hb4 := hide (Hb3.out.trans (hb4.mono Hb3.out.size))
  clear HA2 HA3 Hacc3 Hb3 hb4
  have HG := hide HF.out.get
  go_wp2_with fail
  refine (i_BoxesGet A1 n1 c1 X s _ HX4.out Hsm.out hn1).mono ?_
  intro e w5 ho
  obtain ⟨A5, n5, c5, rfl, hnc5, hc5, hst5, hb5⟩ := own1_ints ho
  have HS5 := hide hst5
  have HY5 := hide (HY4.out.on hb5)
  have Hb5 := hide (Hb4.out.trans (hb5.mono Hb4.out.size))
  clear ho hst5 hb5
  by_cases h0 : n5 = 0
  · have HN : Hid (bgetM X s = []) := List.eq_nil_of_length_eq_zero (by have := HS5.out.1; omega)
    subst h0
    go_wp2_with fail
    refine (i_BoxesGet A2 n2 c2 Y s _ HY5.out HsY.out hn2m).mono ?_
    intro e w6 ho
    rw [HG.out, HN.out, bput_nil] at ho
    obtain ⟨A6, n6, c6, rfl, hnc6, hc6, hst6, hb6⟩ := own1_ints ho
    have HS6 := hide hst6
    have Hb6 := hide (Hb5.out.trans (hb6.mono Hb5.out.size))
    have hsw := Hb6.out.size
    clear ho hst6 hb6
    have Hbb : Hid (Below w6.heap.size w6 (w6.alloc (.cells #[.int .i64 i] 3))) := (Below.refl w6.heap.size w6).alloc (Nat.le_refl _) _
    have own0 : (w6.alloc (.cells #[.int .i64 i] 3)).ownsRow w6.heap.size 3 1 (.slice (some ⟨w6.heap.size, 0, none⟩) 1 1) 1 ([i].map (Value.int .i64)) := World.ownsRow_lit w6 #[.int .i64 i] 1 (Nat.le_refl _) (by decide) rfl
    have HN2 := hide (Ints.of_own own0)
    clear own0
    go_wp2_with fail
    refine (l_sameI A6 n6 c6 (some ⟨w6.heap.size, 0, none⟩) 1 1 [i] _ (HS6.out.on Hbb.out) HN2.out (Nat.le_trans hnc6 hc6)).mono ?_
    rintro e w7 ⟨rfl, q7, rfl⟩
    go_wp2_with fail
    go_ret
    exact ⟨rfl, below_drewN (Hb6.out.trans (Hbb.out.mono hsw)) q7⟩
  · have hpos : 0 < (n5 : Int) := by omega
    clear h0
    go_wp2_with fail
    go_ret
    exact ⟨rfl, Hb5.out⟩

set_option maxHeartbeats 1000000 in
set_option maxRecDepth 100000 in
theorem FnBoxesPutSwap_walk (w : World) (A : Option Addr) (n c : Nat) (hc : Code w w.heap.size A n) (hnc : n ≤ c) (hm : n ≤ maxLen) :
    Calls Try.prog 10 #[.slice A n c] w fun e w' => e = .returned (.bool true) ∧ Below w.heap.size w w' := by
  by_cases h : 1048576 < n
  · unfold maxLen at hm
    go_enter Try.func10, Try.ntmps10
    go_wp2
    go_ret
    exact ⟨rfl, Below.refl _ _⟩
  go_enter Try.func10, Try.ntmps10
  go_wp2_with fail
  refine (d_BoxesPut A n c w hc hnc (by omega)).mono ?_
  rintro e w1 ⟨v, X, s, i, rfl, ⟨A1, n1, c1, rfl, hacc, hnc1, hc1, hdr, hb1⟩, hs5⟩
  have Hacc1 := hide hacc
  have Hb1 := hide hb1
  have Hsm := hide hdr.small
  have hl := hide hacc.1
  have hn16 : n1 ≤ 6 := by have := hdr.1; have := hl.out; omega
  have hn1 : n1 ≤ maxLen := by unfold maxLen; omega
  have hsm : s.size ≤ maxLen := by unfold maxLen; omega
  clear hacc hb1 hdr hc hnc hc1
  go_wp2_with fail
  refine (i_BoxesPut A1 n1 c1 X s i _ Hacc1.out Hsm.out hn1 hsm).mono ?_
  intro e w2 ho
  obtain ⟨A2, n2, c2, rfl, hnc2, hc2, hst2, hb2⟩ := own2_bxs ho
  have Hacc2 := hide (Hacc1.out.on hb2)
  have Hb2 := hide (Hb1.out.trans (hb2.mono Hb1.out.size))
  have Hst2 := hide hst2
  have hn2m := Nat.le_trans hnc2 hc2
  clear ho hb2 hst2 hc2
  go_wp2_with fail
  refine (s_BoxesPut A1 n1 c1 X s i _ Hacc2.out Hsm.out hn1 hsm).mono ?_
  intro e w3 ho
  obtain ⟨A3, n3, c3, rfl, hnc3, hc3, hst3, hb3⟩ := own2_bxs ho
  have Hacc3 := hide (Hacc2.out.on hb3)
  have Hst23 := hide (Hst2.out.on hb3)
  have Hst3 := hide hst3
  have Hb3 := hide (Hb2.out.trans (hb3.mono Hb2.out.size))
  clear ho hb3 hst3 hc3
  cases ho : bsPutM X s i
  · have h2 := Hst23.out
    have h3 := Hst3.out
    rw [ho] at h2 h3
    simp only [Option.getD_none] at h2 h3
    have HA2 := hide h2
    have HA3 := hide h3
    clear h2 h3 ho
    go_wp2_with fail
    refine (l_sameBs A2 n2 c2 A3 n3 c3 [] _ HA2.out HA3.out hn2m).mono ?_
    rintro e w4 ⟨rfl, hb4⟩
    have HA24 := hide (HA2.out.on hb4)
    have HA34 := hide (HA3.out.on hb4)
    have Hb4 := hide (Hb3.out.trans (hb4.mono Hb3.out.size))
    clear hb4
    go_wp2_with fail
    refine (l_sameBs A2 n2 c2 A3 n3 c3 [] _ HA24.out HA34.out hn2m).mono ?_
    rintro e w5 ⟨rfl, hb5⟩
    go_wp2_with fail
    go_ret
    exact ⟨rfl, Hb4.out.trans (hb5.mono Hb4.out.size)⟩
  rename_i Y
  have HF := hide (bsPutM_some ho)
  have HA2 : Hid (Bxs w3 w3.heap.size A2 n2 Y) := by have h := Hst23.out; rw [ho] at h; exact h
  have HA3 : Hid (Bxs w3 w3.heap.size A3 n3 Y) := by have h := Hst3.out; rw [ho] at h; exact h
  have hlY := hide HA2.out.1
  have HsY := hide (bxs_small HF.out.vy)
  have hn12 : n1 ≤ n2 ∧ n2 ≤ n1 + 1 := by have h1 := HF.out.len; have h2 := hlY.out; have h3 := hl.out; omega
  have hn12a := hn12.1
  have hn12b := hn12.2
  clear ho Hst23 Hst3 Hst2 Hacc2 hn12
  go_wp2_with fail
  refine (l_sameBs A2 n2 c2 A3 n3 c3 Y _ HA2.out HA3.out hn2m).mono ?_
  rintro e w4 ⟨rfl, hb4⟩
  have HY4 := hide (HA2.out.on hb4)
  have HX4 := hide (Hacc3.out.on hb4)
  have Hb4 := hide (Hb3.out.trans (hb4.mono Hb3.out.size))
  clear HA2 HA3 Hacc3 Hb3 hb4
  have hcat : ByteArray.size ⟨#[99, 97, 116]⟩ ≤ maxLen := by decide
  go_wp2_with fail
  refine (i_BoxesPut A2 n2 c2 Y ⟨#[99, 97, 116]⟩ 34 _ HY4.out HsY.out hn2m hcat).mono ?_
  intro e w5 ho
  rcases h1 : bsPutM Y ⟨#[99, 97, 116]⟩ 34 with _ | Z
  all_goals
    rw [h1] at ho
    obtain ⟨A5, n5, c5, rfl, hnc5, hc5, hst5, hb5⟩ := own2_bxs ho
    simp only [Option.getD_some, Option.isSome_some, Option.getD_none, Option.isSome_none] at hst5 ⊢
    have H1 := hide h1
    have HS5 := hide hst5
    have HX5 := hide (HX4.out.on hb5)
    have Hb5 := hide (Hb4.out.trans (hb5.mono Hb4.out.size))
    have hn5m := Nat.le_trans hnc5 hc5
    clear ho hst5 hb5 h1
    go_wp2_with fail
    refine (i_BoxesPut A1 n1 c1 X ⟨#[99, 97, 116]⟩ 34 _ HX5.out Hsm.out hn1 hcat).mono ?_
    intro e w6 ho
    have HSM := hide (bsPutM_small (X := X) (s := ⟨#[99, 97, 116]⟩) (i := 34))
    rcases h2 : bsPutM X ⟨#[99, 97, 116]⟩ 34 with _ | V
    all_goals
      rw [h2] at ho
      have HSM' := HSM.out
      rw [h2] at HSM'
      obtain ⟨A6, n6, c6, rfl, hnc6, hc6, hst6, hb6⟩ := own2_bxs ho
      simp only [Option.getD_some, Option.isSome_some, Option.getD_none, Option.isSome_none] at hst6 HSM' ⊢
      have H2 := hide h2
      have HS6 := hide hst6
      have HSM2 := hide HSM'
      have HS56 := hide (HS5.out.on hb6)
      have Hb6 := hide (Hb5.out.trans (hb6.mono Hb5.out.size))
      have hn6m := Nat.le_trans hnc6 hc6
      clear ho hst6 hb6 h2 HSM' HSM
      go_wp2_with fail
      refine (i_BoxesPut A6 n6 c6 _ s i _ HS6.out HSM2.out hn6m hsm).mono ?_
      intro e w7 ho
      obtain ⟨A7, n7, c7, rfl, hnc7, hc7, hst7, hb7⟩ := own2_bxs ho
      have HS7 := hide hst7
      have HS57 := hide (HS56.out.on hb7)
      have Hb7 := hide (Hb6.out.trans (hb7.mono Hb6.out.size))
      clear ho hst7 hb7
  rotate_right 1
  · rcases h3 : bsPutM V s i with _ | W
    · clear h3
      go_wp2_with fail
      go_ret
      exact ⟨rfl, Hb7.out⟩
    · have h7 := HS7.out
      rw [h3] at h7
      simp only [Option.getD_some] at h7
      have hZW := HF.out.swap H1.out H2.out h3
      rw [← hZW] at h7
      have HW := hide h7
      clear HS7 h7 h3 hZW
      go_wp2_with fail
      refine (l_sameBs A5 n5 c5 A7 n7 c7 Z _ HS57.out HW.out hn5m).mono ?_
      rintro e w8 ⟨rfl, hb8⟩
      go_wp2_with fail
      go_ret
      exact ⟨rfl, Hb7.out.trans (hb8.mono Hb7.out.size)⟩
  all_goals
    go_wp2_with fail
    go_ret
    exact ⟨rfl, Hb7.out⟩
end Go.Proofs.Ytfncmkmhdddmiaa
