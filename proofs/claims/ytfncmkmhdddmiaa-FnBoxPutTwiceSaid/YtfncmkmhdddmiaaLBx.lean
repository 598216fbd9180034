/- Walks of FnBoxPut, FnBoxPutThere, FnBoxPutTwice, FnBoxPutSwap, FnBoxPutEmpty. -/
import Derived.Test.YtfncmkmhdddmiaaIbx
import Derived.Test.YtfncmkmhdddmiaaBp
import Derived.Test.YtfncmkmhdddmiaaSameB
import Derived.Test.YtfncmkmhdddmiaaDrawB2
set_option linter.unusedVariables false
set_option linter.unusedSimpArgs false
namespace Go.Proofs.Ytfncmkmhdddmiaa
open Go.RowKit Go.BigFrame

set_option maxHeartbeats 1000000 in
set_option maxRecDepth 100000 in
theorem l_hasI_no (A : Option Addr) (n c : Nat) (L : List Int) (i : Int) (w : World) (hL : Ints w w.heap.size A n L) (hi : i ∉ L) (hn : n ≤ maxLen) :
    Calls Try.prog 23 #[.slice A n c, .int .i64 i] w fun e w' => e = .returned (.bool false) ∧ w = w' := by
  unfold maxLen at hn
  have hl := hide hL.1
  have HL := hide hL
  have Hi := hide hi
  clear hL hi
  go_enter Try.func23, Try.ntmps23
  go_wp2_with fail
  go_loop [5] (fun v => ∃ k : Nat, k ≤ n ∧ v = .int .i64 k) (fun v => n - (intOf v).toNat)
  case atStart => exact ⟨0, Nat.zero_le _, rfl⟩
  case round =>
    obtain ⟨k, hk, rfl⟩ := hrel
    by_cases hlt : k < n
    · obtain ⟨t, ht⟩ : ∃ t, L[k]? = some t := ⟨L[k]'(by have := hl.out; omega), List.getElem?_eq_getElem _⟩
      obtain ⟨g, off, rfl, hb, hc⟩ := HL.out.at' ht
      have hne : t ≠ i := fun e => Hi.out (e ▸ List.mem_of_getElem? ht)
      clear ht
      go_wp2_with fail
      go_round
      case rel => exact ⟨k + 1, by omega, by go_num⟩
      case measure => simp [intOf]; omega
    · go_wp2_with fail
      go_ret
      exact ⟨rfl, rfl⟩

set_option maxHeartbeats 1000000 in
set_option maxRecDepth 100000 in
theorem FnBoxPutTwice_walk (w : World) (A : Option Addr) (n c : Nat) (hc : Code w w.heap.size A n) (hnc : n ≤ c) (hm : n ≤ maxLen) :
    Calls Try.prog 5 #[.slice A n c] w fun e w' => e = .returned (.bool true) ∧ Below w.heap.size w w' := by
  by_cases h : 1048576 < n
  · unfold maxLen at hm
    go_enter Try.func5, Try.ntmps5
    go_wp2
    go_ret
    exact ⟨rfl, Below.refl _ _⟩
  go_enter Try.func5, Try.ntmps5
  go_wp2_with fail
  refine (d_BoxPut A n c w hc hnc (by omega)).mono ?_
  rintro e w1 ⟨A1, n1, c1, L, i, rfl, hacc, hnc1, hn6, hb1⟩
  have Hacc1 := hide hacc
  have Hb1 := hide hb1
  have hl := hide hacc.1
  have hn1 : n1 ≤ maxLen := by unfold maxLen; omega
  clear hacc hb1 hc hnc
  go_wp2_with fail
  refine (i_BoxPut A1 n1 c1 L i _ Hacc1.out hn1).mono ?_
  intro e w2 ho
  obtain ⟨A2, n2, c2, rfl, hnc2, hc2, hst2, hb2⟩ := own2_ints ho
  have Hacc2 := hide (Hacc1.out.on hb2)
  have Hb2 := hide (Hb1.out.trans (hb2.mono Hb1.out.size))
  have Hst2 := hide hst2
  have hn2m := Nat.le_trans hnc2 hc2
  clear ho hb2 hst2 hc2
  go_wp2_with fail
  refine (s_BoxPut A1 n1 c1 L i _ Hacc2.out hn1).mono ?_
  intro e w3 ho
  obtain ⟨A3, n3, c3, rfl, hnc3, hc3, hst3, hb3⟩ := own2_ints ho
  have Hacc3 := hide (Hacc2.out.on hb3)
  have Hst23 := hide (Hst2.out.on hb3)
  have Hst3 := hide hst3
  have Hb3 := hide (Hb2.out.trans (hb3.mono Hb2.out.size))
  clear ho hb3 hst3 hc3
  cases ho : bPutM L i
  · have h2 := Hst23.out
    have h3 := Hst3.out
    rw [ho] at h2 h3
    simp only [Option.getD_none] at h2 h3
    have HA2 := hide h2
    have HA3 := hide h3
    clear h2 h3 ho
    go_wp2_with fail
    refine (l_sameI A2 n2 c2 A3 n3 c3 [] _ HA2.out HA3.out hn2m).mono ?_
    rintro e w4 ⟨rfl, q4, rfl⟩
    go_wp2_with fail
    refine (l_sameI A2 n2 c2 A3 n3 c3 [] _ (HA2.out.drewN q4) (HA3.out.drewN q4) hn2m).mono ?_
    rintro e w5 ⟨rfl, q5, rfl⟩
    go_wp2_with fail
    go_ret
    exact ⟨rfl, below_drewN Hb3.out _⟩
  rename_i M
  obtain ⟨hvL, hin, hM⟩ := bPutM_some ho
  have HvL := hide hvL
  have Hin := hide hin
  have HMe := hide hM
  have hvM : idsB M = true := by rw [hM]; exact bput_valid hvL hin
  have HvM := hide hvM
  have hM6 := idsB_6 hvM
  have hLM : L.length ≤ M.length := by rw [hM]; exact bput_ge hvL i
  have HA2 : Hid (Ints w3 w3.heap.size A2 n2 M) := by have h := Hst23.out; rw [ho] at h; exact h
  have HA3 : Hid (Ints w3 w3.heap.size A3 n3 M) := by have h := Hst3.out; rw [ho] at h; exact h
  have hlM := hide HA2.out.1
  have hn26 : n2 ≤ 6 := by have := hlM.out; omega
  have hn12 : n1 ≤ n2 := by have := hlM.out; have := hl.out; omega
  clear ho Hst23 Hst3 Hst2 Hacc2 hvL hin hM hvM hM6 hLM
  go_wp2_with fail
  refine (l_sameI A2 n2 c2 A3 n3 c3 M _ HA2.out HA3.out hn2m).mono ?_
  rintro e w4 ⟨rfl, q4, rfl⟩
  have HM4 : Hid (Ints (w3.drewN q4) (w3.drewN q4).heap.size A2 n2 M) := HA2.out.drewN q4
  have HL4 : Hid (Ints (w3.drewN q4) (w3.drewN q4).heap.size A1 n1 L) := Hacc3.out.drewN q4
  have Hb4 : Hid (Below w.heap.size w (w3.drewN q4)) := below_drewN Hb3.out q4
  clear HA2 HA3 Hacc3 Hb3
  generalize w3.drewN q4 = w4 at *
  have HT : Hid (bPutM M i = some M) := by
    rw [Hid, bPutM_t HvM.out Hin.out, HMe.out, bput_twice (idsB_desc HvL.out)]
  go_wp2_with fail
  refine (i_BoxPut A2 n2 c2 M i _ HM4.out hn2m).mono ?_
  intro e w5 ho
  rw [HT.out] at ho
  obtain ⟨A5, n5, c5, rfl, hnc5, hc5, hst5, hb5⟩ := own2_ints ho
  simp only [Option.getD_some, Option.isSome_some] at hst5 ⊢
  have HS5 := hide hst5
  have HM5 := hide (HM4.out.on hb5)
  have Hb5 := hide (Hb4.out.trans (hb5.mono Hb4.out.size))
  clear ho hst5 hb5
  go_wp2_with fail
  refine (l_sameI A5 n5 c5 A2 n2 c2 M _ HS5.out HM5.out (Nat.le_trans hnc5 hc5)).mono ?_
  rintro e w6 ⟨rfl, q6, rfl⟩
  go_wp2_with fail
  go_ret
  exact ⟨rfl, below_drewN Hb5.out q6⟩

theorem Later.hasI {B : Nat} {W : World} (z : Later B W) (A : Option Addr) (n c : Nat) (L : List Int) (i : Int) (hL : Ints W B A n L) (hB : B ≤ W.heap.size) (hi : i ∈ L) (hn : n ≤ maxLen) :
    Calls Try.prog 23 #[.slice A n c, .int .i64 i] z.it fun e w'' => e = .returned (.bool true) ∧ ∃ z' : Later B W, w'' = z'.it := by
  have hsz := z.below.size
  exact Later.same (l_hasI A n c L i z.it ((hL.below z.below).more (by omega)) hi hn)

set_option maxHeartbeats 1000000 in
set_option maxRecDepth 100000 in
theorem FnBoxPutThere_walk (w : World) (A : Option Addr) (n c : Nat) (hc : Code w w.heap.size A n) (hnc : n ≤ c) (hm : n ≤ maxLen) :
    Calls Try.prog 4 #[.slice A n c] w fun e w' => e = .returned (.bool true) ∧ Below w.heap.size w w' := by
  by_cases h : 1048576 < n
  · unfold maxLen at hm
    go_enter Try.func4, Try.ntmps4
    go_wp2
    go_ret
    exact ⟨rfl, Below.refl _ _⟩
  go_enter Try.func4, Try.ntmps4
  go_wp2_with fail
  refine (d_BoxPut A n c w hc hnc (by omega)).mono ?_
  rintro e w1 ⟨A1, n1, c1, L, i, rfl, hacc, hnc1, hn6, hb1⟩
  have Hacc1 := hide hacc
  have Hb1 := hide hb1
  have hl := hide hacc.1
  have hn1 : n1 ≤ maxLen := by unfold maxLen; omega
  clear hacc hb1 hc hnc
  go_wp2_with fail
  refine (i_BoxPut A1 n1 c1 L i _ Hacc1.out hn1).mono ?_
  intro e w2 ho
  obtain ⟨A2, n2, c2, rfl, hnc2, hc2, hst2, hb2⟩ := own2_ints ho
  have Hacc2 := hide (Hacc1.out.on hb2)
  have Hb2 := hide (Hb1.out.trans (hb2.mono Hb1.out.size))
  have Hst2 := hide hst2
  have hn2m := Nat.le_trans hnc2 hc2
  clear ho hb2 hst2 hc2
  go_wp2_with fail
  refine (s_BoxPut A1 n1 c1 L i _ Hacc2.out hn1).mono ?_
  intro e w3 ho
  obtain ⟨A3, n3, c3, rfl, hnc3, hc3, hst3, hb3⟩ := own2_ints ho
  have Hacc3 := hide (Hacc2.out.on hb3)
  have Hst23 := hide (Hst2.out.on hb3)
  have Hst3 := hide hst3
  have Hb3 := hide (Hb2.out.trans (hb3.mono Hb2.out.size))
  clear ho hb3 hst3 hc3
  cases ho : bPutM L i
  · have h2 := Hst23.out
    have h3 := Hst3.out
    rw [ho] at h2 h3
    simp only [Option.getD_none] at h2 h3
    have HA2 := hide h2
    have HA3 := hide h3
    clear h2 h3 ho
    go_wp2_with fail
    refine (l_sameI A2 n2 c2 A3 n3 c3 [] _ HA2.out HA3.out hn2m).mono ?_
    rintro e w4 ⟨rfl, q4, rfl⟩
    go_wp2_with fail
    refine (l_sameI A2 n2 c2 A3 n3 c3 [] _ (HA2.out.drewN q4) (HA3.out.drewN q4) hn2m).mono ?_
    rintro e w5 ⟨rfl, q5, rfl⟩
    go_wp2_with fail
    go_ret
    exact ⟨rfl, below_drewN Hb3.out _⟩
  rename_i M
  obtain ⟨hvL, hin, hM⟩ := bPutM_some ho
  have HvL := hide hvL
  have Hin := hide hin
  have HMe := hide hM
  have hvM : idsB M = true := by rw [hM]; exact bput_valid hvL hin
  have HvM := hide hvM
  have hM6 := idsB_6 hvM
  have hLM : L.length ≤ M.length := by rw [hM]; exact bput_ge hvL i
  have HA2 : Hid (Ints w3 w3.heap.size A2 n2 M) := by have h := Hst23.out; rw [ho] at h; exact h
  have HA3 : Hid (Ints w3 w3.heap.size A3 n3 M) := by have h := Hst3.out; rw [ho] at h; exact h
  have hlM := hide HA2.out.1
  have hn26 : n2 ≤ 6 := by have := hlM.out; omega
  have hn12 : n1 ≤ n2 := by have := hlM.out; have := hl.out; omega
  clear ho Hst23 Hst3 Hst2 Hacc2 hvL hin hM hvM hM6 hLM
  go_wp2_with fail
  refine (l_sameI A2 n2 c2 A3 n3 c3 M _ HA2.out HA3.out hn2m).mono ?_
  rintro e w4 ⟨rfl, q4, rfl⟩
  have HM4 : Hid (Ints (w3.drewN q4) (w3.drewN q4).heap.size A2 n2 M) := HA2.out.drewN q4
  have HL4 : Hid (Ints (w3.drewN q4) (w3.drewN q4).heap.size A1 n1 L) := Hacc3.out.drewN q4
  have Hb4 : Hid (Below w.heap.size w (w3.drewN q4)) := below_drewN Hb3.out q4
  clear HA2 HA3 Hacc3 Hb3
  generalize w3.drewN q4 = w4 at *
  by_cases hi : i ∈ M
  · go_wp2_with fail
    refine (l_hasI A2 n2 c2 M i _ HM4.out hi hn2m).mono ?_
    rintro e w5 ⟨rfl, rfl⟩
    go_wp2_with fail
    go_ret
    exact ⟨rfl, Hb4.out⟩
  · obtain ⟨h6, x, hx, hlt⟩ : M.length = 6 ∧ ∃ x, M[5]? = some x ∧ i < x := by
      have h := bput_there (idsB_desc HvL.out) i
      rw [← HMe.out] at h
      exact h.resolve_left hi
    have hn6' : n2 = 6 := by have := hlM.out; omega
    subst hn6'
    obtain ⟨g, off, rfl, hg, hc⟩ := HM4.out.at' hx
    have Hi := hide hi
    clear hx hi h6
    go_wp2_with fail
    refine (l_hasI_no _ 6 c2 M i _ HM4.out Hi.out hn2m).mono ?_
    rintro e w5 ⟨rfl, rfl⟩
    go_wp2_with fail
    go_ret
    exact ⟨rfl, Hb4.out⟩

set_option maxHeartbeats 1000000 in
set_option maxRecDepth 100000 in
theorem FnBoxPutSwap_walk (w : World) (A : Option Addr) (n c : Nat) (hc : Code w w.heap.size A n) (hnc : n ≤ c) (hm : n ≤ maxLen) :
    Calls Try.prog 6 #[.slice A n c] w fun e w' => e = .returned (.bool true) ∧ Below w.heap.size w w' := by
  by_cases h : 1048576 < n
  · unfold maxLen at hm
    go_enter Try.func6, Try.ntmps6
    go_wp2
    go_ret
    exact ⟨rfl, Below.refl _ _⟩
  go_enter Try.func6, Try.ntmps6
  go_wp2_with fail
  refine (d_BoxPut A n c w hc hnc (by omega)).mono ?_
  rintro e w1 ⟨A1, n1, c1, L, i, rfl, hacc, hnc1, hn6, hb1⟩
  have Hacc1 := hide hacc
  have Hb1 := hide hb1
  have hl := hide hacc.1
  have hn1 : n1 ≤ maxLen := by unfold maxLen; omega
  clear hacc hb1 hc hnc
  go_wp2_with fail
  refine (i_BoxPut A1 n1 c1 L i _ Hacc1.out hn1).mono ?_
  intro e w2 ho
  obtain ⟨A2, n2, c2, rfl, hnc2, hc2, hst2, hb2⟩ := own2_ints ho
  have Hacc2 := hide (Hacc1.out.on hb2)
  have Hb2 := hide (Hb1.out.trans (hb2.mono Hb1.out.size))
  have Hst2 := hide hst2
  have hn2m := Nat.le_trans hnc2 hc2
  clear ho hb2 hst2 hc2
  go_wp2_with fail
  refine (s_BoxPut A1 n1 c1 L i _ Hacc2.out hn1).mono ?_
  intro e w3 ho
  obtain ⟨A3, n3, c3, rfl, hnc3, hc3, hst3, hb3⟩ := own2_ints ho
  have Hacc3 := hide (Hacc2.out.on hb3)
  have Hst23 := hide (Hst2.out.on hb3)
  have Hst3 := hide hst3
  have Hb3 := hide (Hb2.out.trans (hb3.mono Hb2.out.size))
  clear ho hb3 hst3 hc3
  cases ho : bPutM L i
  · have h2 := Hst23.out
    have h3 := Hst3.out
    rw [ho] at h2 h3
    simp only [Option.getD_none] at h2 h3
    have HA2 := hide h2
    have HA3 := hide h3
    clear h2 h3 ho
    go_wp2_with fail
    refine (l_sameI A2 n2 c2 A3 n3 c3 [] _ HA2.out HA3.out hn2m).mono ?_
    rintro e w4 ⟨rfl, q4, rfl⟩
    go_wp2_with fail
    refine (l_sameI A2 n2 c2 A3 n3 c3 [] _ (HA2.out.drewN q4) (HA3.out.drewN q4) hn2m).mono ?_
    rintro e w5 ⟨rfl, q5, rfl⟩
    go_wp2_with fail
    go_ret
    exact ⟨rfl, below_drewN Hb3.out _⟩
  rename_i M
  obtain ⟨hvL, hin, hM⟩ := bPutM_some ho
  have HvL := hide hvL
  have Hin := hide hin
  have HMe := hide hM
  have hvM : idsB M = true := by rw [hM]; exact bput_valid hvL hin
  have HvM := hide hvM
  have hM6 := idsB_6 hvM
  have hLM : L.length ≤ M.length := by rw [hM]; exact bput_ge hvL i
  have HA2 : Hid (Ints w3 w3.heap.size A2 n2 M) := by have h := Hst23.out; rw [ho] at h; exact h
  have HA3 : Hid (Ints w3 w3.heap.size A3 n3 M) := by have h := Hst3.out; rw [ho] at h; exact h
  have hlM := hide HA2.out.1
  have hn26 : n2 ≤ 6 := by have := hlM.out; omega
  have hn12 : n1 ≤ n2 := by have := hlM.out; have := hl.out; omega
  clear ho Hst23 Hst3 Hst2 Hacc2 hvL hin hM hvM hM6 hLM
  go_wp2_with fail
  refine (l_sameI A2 n2 c2 A3 n3 c3 M _ HA2.out HA3.out hn2m).mono ?_
  rintro e w4 ⟨rfl, q4, rfl⟩
  have HM4 : Hid (Ints (w3.drewN q4) (w3.drewN q4).heap.size A2 n2 M) := HA2.out.drewN q4
  have HL4 : Hid (Ints (w3.drewN q4) (w3.drewN q4).heap.size A1 n1 L) := Hacc3.out.drewN q4
  have Hb4 : Hid (Below w.heap.size w (w3.drewN q4)) := below_drewN Hb3.out q4
  clear HA2 HA3 Hacc3 Hb3
  generalize w3.drewN q4 = w4 at *
  have h33 : inR 33 = true := by decide
  have HT : Hid (bPutM M 33 = some (bput M 33)) := bPutM_t HvM.out h33
  have HU : Hid (bPutM L 33 = some (bput L 33)) := bPutM_t HvL.out h33
  have HV : Hid (bPutM (bput L 33) i = some (bput M 33)) := by
    rw [Hid, bPutM_t (bput_valid HvL.out h33) Hin.out, HMe.out, bput_swap (idsB_desc HvL.out)]
  clear h33
  go_wp2_with fail
  refine (i_BoxPut A2 n2 c2 M 33 _ HM4.out hn2m).mono ?_
  intro e w5 ho
  rw [HT.out] at ho
  obtain ⟨A5, n5, c5, rfl, hnc5, hc5, hst5, hb5⟩ := own2_ints ho
  simp only [Option.getD_some, Option.isSome_some] at hst5 ⊢
  have HS5 := hide hst5
  have HL5 := hide (HL4.out.on hb5)
  have Hb5 := hide (Hb4.out.trans (hb5.mono Hb4.out.size))
  clear ho hst5 hb5
  go_wp2_with fail
  refine (i_BoxPut A1 n1 c1 L 33 _ HL5.out hn1).mono ?_
  intro e w6 ho
  rw [HU.out] at ho
  obtain ⟨A6, n6, c6, rfl, hnc6, hc6, hst6, hb6⟩ := own2_ints ho
  simp only [Option.getD_some, Option.isSome_some] at hst6 ⊢
  have HS6 := hide hst6
  have HS56 := hide (HS5.out.on hb6)
  have Hb6 := hide (Hb5.out.trans (hb6.mono Hb5.out.size))
  clear ho hst6 hb6
  go_wp2_with fail
  refine (i_BoxPut A6 n6 c6 (bput L 33) i _ HS6.out (Nat.le_trans hnc6 hc6)).mono ?_
  intro e w7 ho
  rw [HV.out] at ho
  obtain ⟨A7, n7, c7, rfl, hnc7, hc7, hst7, hb7⟩ := own2_ints ho
  simp only [Option.getD_some, Option.isSome_some] at hst7 ⊢
  have HS7 := hide hst7
  have HS57 := hide (HS56.out.on hb7)
  have Hb7 := hide (Hb6.out.trans (hb7.mono Hb6.out.size))
  clear ho hst7 hb7
  go_wp2_with fail
  refine (l_sameI A5 n5 c5 A7 n7 c7 (bput M 33) _ HS57.out HS7.out (Nat.le_trans hnc5 hc5)).mono ?_
  rintro e w8 ⟨rfl, q8, rfl⟩
  go_wp2_with fail
  go_ret
  exact ⟨rfl, below_drewN Hb7.out q8⟩

set_option maxHeartbeats 1000000 in
set_option maxRecDepth 100000 in
theorem FnBoxPutEmpty_walk (w : World) (A : Option Addr) (n c : Nat) (hc : Code w w.heap.size A n) (hnc : n ≤ c) (hm : n ≤ maxLen) :
    Calls Try.prog 13 #[.slice A n c] w fun e w' => e = .returned (.bool true) ∧ Below w.heap.size w w' := by
  by_cases h : 1048576 < n
  · unfold maxLen at hm
    go_enter Try.func13, Try.ntmps13
    go_wp2
    go_ret
    exact ⟨rfl, Below.refl _ _⟩
  go_enter Try.func13, Try.ntmps13
  go_wp2_with fail
  refine (d_BoxPut A n c w hc hnc (by omega)).mono ?_
  rintro e w1 ⟨A1, n1, c1, L, i, rfl, hacc, hnc1, hn6, hb1⟩
  have Hacc1 := hide hacc
  have Hb1 := hide hb1
  have hl := hide hacc.1
  have hn1 : n1 ≤ maxLen := by unfold maxLen; omega
  clear hacc hb1 hc hnc
  go_wp2_with fail
  refine (i_BoxPut A1 n1 c1 L i _ Hacc1.out hn1).mono ?_
  intro e w2 ho
  obtain ⟨A2, n2, c2, rfl, hnc2, hc2, hst2, hb2⟩ := own2_ints ho
  have Hacc2 := hide (Hacc1.out.on hb2)
  have Hb2 := hide (Hb1.out.trans (hb2.mono Hb1.out.size))
  have Hst2 := hide hst2
  have hn2m := Nat.le_trans hnc2 hc2
  clear ho hb2 hst2 hc2
  go_wp2_with fail
  refine (s_BoxPut A1 n1 c1 L i _ Hacc2.out hn1).mono ?_
  intro e w3 ho
  obtain ⟨A3, n3, c3, rfl, hnc3, hc3, hst3, hb3⟩ := own2_ints ho
  have Hacc3 := hide (Hacc2.out.on hb3)
  have Hst23 := hide (Hst2.out.on hb3)
  have Hst3 := hide hst3
  have Hb3 := hide (Hb2.out.trans (hb3.mono Hb2.out.size))
  clear ho hb3 hst3 hc3
  cases ho : bPutM L i
  · have h2 := Hst23.out
    have h3 := Hst3.out
    rw [ho] at h2 h3
    simp only [Option.getD_none] at h2 h3
    have HA2 := hide h2
    have HA3 := hide h3
    clear h2 h3 ho
    go_wp2_with fail
    refine (l_sameI A2 n2 c2 A3 n3 c3 [] _ HA2.out HA3.out hn2m).mono ?_
    rintro e w4 ⟨rfl, q4, rfl⟩
    go_wp2_with fail
    refine (l_sameI A2 n2 c2 A3 n3 c3 [] _ (HA2.out.drewN q4) (HA3.out.drewN q4) hn2m).mono ?_
    rintro e w5 ⟨rfl, q5, rfl⟩
    go_wp2_with fail
    go_ret
    exact ⟨rfl, below_drewN Hb3.out _⟩
  rename_i M
  obtain ⟨hvL, hin, hM⟩ := bPutM_some ho
  have HvL := hide hvL
  have Hin := hide hin
  have HMe := hide hM
  have hvM : idsB M = true := by rw [hM]; exact bput_valid hvL hin
  have HvM := hide hvM
  have hM6 := idsB_6 hvM
  have hLM : L.length ≤ M.length := by rw [hM]; exact bput_ge hvL i
  have HA2 : Hid (Ints w3 w3.heap.size A2 n2 M) := by have h := Hst23.out; rw [ho] at h; exact h
  have HA3 : Hid (Ints w3 w3.heap.size A3 n3 M) := by have h := Hst3.out; rw [ho] at h; exact h
  have hlM := hide HA2.out.1
  have hn26 : n2 ≤ 6 := by have := hlM.out; omega
  have hn12 : n1 ≤ n2 := by have := hlM.out; have := hl.out; omega
  clear ho Hst23 Hst3 Hst2 Hacc2 hvL hin hM hvM hM6 hLM
  go_wp2_with fail
  refine (l_sameI A2 n2 c2 A3 n3 c3 M _ HA2.out HA3.out hn2m).mono ?_
  rintro e w4 ⟨rfl, q4, rfl⟩
  have HM4 : Hid (Ints (w3.drewN q4) (w3.drewN q4).heap.size A2 n2 M) := HA2.out.drewN q4
  have HL4 : Hid (Ints (w3.drewN q4) (w3.drewN q4).heap.size A1 n1 L) := Hacc3.out.drewN q4
  have Hb4 : Hid (Below w.heap.size w (w3.drewN q4)) := below_drewN Hb3.out q4
  clear HA2 HA3 Hacc3 Hb3
  generalize w3.drewN q4 = w4 at *
  have HT : Hid (bPutM [] i = some [i]) := by
    rw [Hid, bPutM_t idsB_nil Hin.out, bput_nil]
  have Hba : Hid (Below w4.heap.size w4 (w4.alloc (.cells #[] 3))) := (Below.refl w4.heap.size w4).alloc (Nat.le_refl _) _
  go_wp2_with fail
  refine (i_BoxPut (some ⟨w4.heap.size, 0, none⟩) 0 0 [] i _ ⟨rfl, fun h => absurd h (by omega)⟩ (Nat.zero_le _)).mono ?_
  intro e w5 ho
  rw [HT.out] at ho
  obtain ⟨A5, n5, c5, rfl, hnc5, hc5, hst5, hb5⟩ := own2_ints ho
  simp only [Option.getD_some, Option.isSome_some] at hst5 ⊢
  have HS5 := hide hst5
  have Hb5 := hide (Hba.out.trans (hb5.mono Hba.out.size))
  have Hbw := hide (Hb4.out.trans (Hb5.out.mono Hb4.out.size))
  have hsw := Hbw.out.size
  clear ho hst5 hb5
  have Hbb : Hid (Below w5.heap.size w5 (w5.alloc (.cells #[.int .i64 i] 3))) := (Below.refl w5.heap.size w5).alloc (Nat.le_refl _) _
  have own0 : (w5.alloc (.cells #[.int .i64 i] 3)).ownsRow w5.heap.size 3 1 (.slice (some ⟨w5.heap.size, 0, none⟩) 1 1) 1 ([i].map (Value.int .i64)) := World.ownsRow_lit w5 #[.int .i64 i] 1 (Nat.le_refl _) (by decide) rfl
  have HN := hide (Ints.of_own own0)
  clear own0
  go_wp2_with fail
  refine (l_sameI A5 n5 c5 (some ⟨w5.heap.size, 0, none⟩) 1 1 [i] _ (HS5.out.on Hbb.out) HN.out (Nat.le_trans hnc5 hc5)).mono ?_
  rintro e w6 ⟨rfl, q6, rfl⟩
  go_wp2_with fail
  go_ret
  exact ⟨rfl, below_drewN (Hbw.out.trans (Hbb.out.mono hsw)) q6⟩

set_option maxHeartbeats 1000000 in
set_option maxRecDepth 100000 in
theorem FnBoxPut_walk (w : World) (A : Option Addr) (n c : Nat) (hc : Code w w.heap.size A n) (hnc : n ≤ c) (hm : n ≤ maxLen) :
    Calls Try.prog 3 #[.slice A n c] w fun e w' => e = .returned (.bool true) ∧ Below w.heap.size w w' := by
  by_cases h : 1048576 < n
  · unfold maxLen at hm
    go_enter Try.func3, Try.ntmps3
    go_wp2
    go_ret
    exact ⟨rfl, Below.refl _ _⟩
  go_enter Try.func3, Try.ntmps3
  go_wp2_with fail
  refine (d_BoxPut A n c w hc hnc (by omega)).mono ?_
  rintro e w1 ⟨A1, n1, c1, L, i, rfl, hacc, hnc1, hn6, hb1⟩
  have Hacc1 := hide hacc
  have Hb1 := hide hb1
  have hl := hide hacc.1
  have hn1 : n1 ≤ maxLen := by unfold maxLen; omega
  clear hacc hb1 hc hnc
  go_wp2_with fail
  refine (i_BoxPut A1 n1 c1 L i _ Hacc1.out hn1).mono ?_
  intro e w2 ho
  obtain ⟨A2, n2, c2, rfl, hnc2, hc2, hst2, hb2⟩ := own2_ints ho
  have Hacc2 := hide (Hacc1.out.on hb2)
  have Hb2 := hide (Hb1.out.trans (hb2.mono Hb1.out.size))
  have Hst2 := hide hst2
  have hn2m := Nat.le_trans hnc2 hc2
  clear ho hb2 hst2 hc2
  go_wp2_with fail
  refine (s_BoxPut A1 n1 c1 L i _ Hacc2.out hn1).mono ?_
  intro e w3 ho
  obtain ⟨A3, n3, c3, rfl, hnc3, hc3, hst3, hb3⟩ := own2_ints ho
  have Hacc3 := hide (Hacc2.out.on hb3)
  have Hst23 := hide (Hst2.out.on hb3)
  have Hst3 := hide hst3
  have Hb3 := hide (Hb2.out.trans (hb3.mono Hb2.out.size))
  clear ho hb3 hst3 hc3
  cases ho : bPutM L i
  · have h2 := Hst23.out
    have h3 := Hst3.out
    rw [ho] at h2 h3
    simp only [Option.getD_none] at h2 h3
    have HA2 := hide h2
    have HA3 := hide h3
    clear h2 h3 ho
    go_wp2_with fail
    refine (l_sameI A2 n2 c2 A3 n3 c3 [] _ HA2.out HA3.out hn2m).mono ?_
    rintro e w4 ⟨rfl, q4, rfl⟩
    go_wp2_with fail
    refine (l_sameI A2 n2 c2 A3 n3 c3 [] _ (HA2.out.drewN q4) (HA3.out.drewN q4) hn2m).mono ?_
    rintro e w5 ⟨rfl, q5, rfl⟩
    go_wp2_with fail
    go_ret
    exact ⟨rfl, below_drewN Hb3.out _⟩
  rename_i M
  obtain ⟨hvL, hin, hM⟩ := bPutM_some ho
  have HvL := hide hvL
  have Hin := hide hin
  have HMe := hide hM
  have hvM : idsB M = true := by rw [hM]; exact bput_valid hvL hin
  have HvM := hide hvM
  have hM6 := idsB_6 hvM
  have hLM : L.length ≤ M.length := by rw [hM]; exact bput_ge hvL i
  have HA2 : Hid (Ints w3 w3.heap.size A2 n2 M) := by have h := Hst23.out; rw [ho] at h; exact h
  have HA3 : Hid (Ints w3 w3.heap.size A3 n3 M) := by have h := Hst3.out; rw [ho] at h; exact h
  have hlM := hide HA2.out.1
  have hn26 : n2 ≤ 6 := by have := hlM.out; omega
  have hn12 : n1 ≤ n2 := by have := hlM.out; have := hl.out; omega
  clear ho Hst23 Hst3 Hst2 Hacc2 hvL hin hM hvM hM6 hLM
  go_wp2_with fail
  refine (l_sameI A2 n2 c2 A3 n3 c3 M _ HA2.out HA3.out hn2m).mono ?_
  rintro e w4 ⟨rfl, q4, rfl⟩
  have HM4 : Hid (Ints (w3.drewN q4) (w3.drewN q4).heap.size A2 n2 M) := HA2.out.drewN q4
  have HL4 : Hid (Ints (w3.drewN q4) (w3.drewN q4).heap.size A1 n1 L) := Hacc3.out.drewN q4
  have Hb4 : Hid (Below w.heap.size w (w3.drewN q4)) := below_drewN Hb3.out q4
  clear HA2 HA3 Hacc3 Hb3
  generalize w3.drewN q4 = w4 at *
  go_wp2_with fail
  go_loopw [9] (fun i wr => ∃ k : Nat, k ≤ n2 ∧ i = .int .i64 k ∧ Hid (Below w4.heap.size w4 wr)) (fun i _ => n2 - (intOf i).toNat)
  case atStart => exact ⟨0, Nat.zero_le _, rfl, Below.refl _ _⟩
  case round =>
    obtain ⟨k, hk, rfl, hbr⟩ := hrel
    by_cases hlt : k < n2
    · obtain ⟨t, ht⟩ : ∃ t, M[k]? = some t := ⟨M[k]'(by have := hlM.out; omega), List.getElem?_eq_getElem _⟩
      obtain ⟨g, off, rfl, hg, hc0⟩ := (HM4.out.below hbr.out).at' ht
      have hsz := hbr.out.size
      have hz0 : ∀ z : Later w4.heap.size wr, z.it.cell? ⟨g, off + k, none⟩ = some (.int .i64 t) := fun z => (z.cell hg).trans hc0
      have HLr := hide (HL4.out.below hbr.out)
      have hmem : t = i ∨ t ∈ L := bput_mem (idsB_desc HvL.out) (by rw [← HMe.out]; exact List.mem_of_getElem? ht)
      rcases k with _ | k
      · rw [Nat.add_zero] at hz0
        clear hc0 ht
        by_cases e : t = i
        · subst e
          clear hmem
          go_wp2_with fail
          refine wp_region_later (B := w4.heap.size) (by kernel_rfl) (by kernel_rfl) ?_
          repeat (go_big_quiet_step ((fail)))
          refine wpQuiet_nil ?_
          intro _ hw'
          obtain ⟨⟨w5, hb5⟩, hw''⟩ := hw'
          subst hw''
          have Hb5 := hide hb5
          clear hb5
          go_wp2_with fail
          go_roundw
          case rel => exact ⟨1, by omega, by go_num, hbr.out.trans Hb5.out⟩
          case measure => simp [intOf]; omega
        · have HtL := hide (hmem.resolve_left e)
          have HtE : Hid (t ≠ i) := e
          clear hmem
          go_wp2_with fail
          have hq2 : (t != i) = true := bne_iff_ne.2 HtE.out
          refine wp_region_later (B := w4.heap.size) (by kernel_rfl) (by kernel_rfl) ?_
          repeat (go_big_quiet_step (((go_at_call 23; exact Later.hasI _ A1 n1 c1 L t HLr.out hsz HtL.out hn1))))
          refine wpQuiet_nil ?_
          intro _ hw'
          obtain ⟨⟨w5, hb5⟩, hw''⟩ := hw'
          subst hw''
          have Hb5 := hide hb5
          clear hb5
          go_wp2_with fail
          go_roundw
          case rel => exact ⟨1, by omega, by go_num, hbr.out.trans Hb5.out⟩
          case measure => simp [intOf]; omega
      · obtain ⟨r, hr⟩ : ∃ i, M[k]? = some i := ⟨M[k]'(by have := hlM.out; omega), List.getElem?_eq_getElem _⟩
        obtain ⟨g', off', e1, _, hr0⟩ := (HM4.out.below hbr.out).at' hr
        injection e1 with e1
        injection e1 with e1 e2
        subst e1 e2
        have hz1 : ∀ z : Later w4.heap.size wr, z.it.cell? ⟨g, off + k, none⟩ = some (.int .i64 r) := fun z => (z.cell hg).trans hr0
        have HLT : Hid (t < r) := desc_gt (idsB_desc HvM.out) hr ht (by omega)
        have hk1 : (k : Int) + 1 < (n2 : Int) := by omega
        clear hc0 ht hr hr0
        by_cases e : t = i
        · subst e
          clear hmem
          go_wp2_with fail
          have hq1 : ¬ (r ≤ t) := Int.not_le.2 HLT.out
          refine wp_region_later (B := w4.heap.size) (by kernel_rfl) (by kernel_rfl) ?_
          repeat (go_big_quiet_step ((fail)))
          refine wpQuiet_nil ?_
          intro _ hw'
          obtain ⟨⟨w5, hb5⟩, hw''⟩ := hw'
          subst hw''
          have Hb5 := hide hb5
          clear hb5
          go_wp2_with fail
          go_roundw
          case rel => exact ⟨k + 2, by omega, by go_num, hbr.out.trans Hb5.out⟩
          case measure => simp [intOf]; omega
        · have HtL := hide (hmem.resolve_left e)
          have HtE : Hid (t ≠ i) := e
          clear hmem
          go_wp2_with fail
          have hq1 : ¬ (r ≤ t) := Int.not_le.2 HLT.out
          have hq2 : (t != i) = true := bne_iff_ne.2 HtE.out
          refine wp_region_later (B := w4.heap.size) (by kernel_rfl) (by kernel_rfl) ?_
          repeat (go_big_quiet_step (((go_at_call 23; exact Later.hasI _ A1 n1 c1 L t HLr.out hsz HtL.out hn1))))
          refine wpQuiet_nil ?_
          intro _ hw'
          obtain ⟨⟨w5, hb5⟩, hw''⟩ := hw'
          subst hw''
          have Hb5 := hide hb5
          clear hb5
          go_wp2_with fail
          go_roundw
          case rel => exact ⟨k + 2, by omega, by go_num, hbr.out.trans Hb5.out⟩
          case measure => simp [intOf]; omega
    · go_wp2_with fail
      go_ret
      exact ⟨rfl, Hb4.out.trans (hbr.out.mono Hb4.out.size)⟩
end Go.Proofs.Ytfncmkmhdddmiaa
