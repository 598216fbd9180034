/- Walks of the laws of names that are put and dropped. -/
import Derived.Test.YtnipoaohkoancaaDrawNs2
import Derived.Test.YtnipoaohkoancaaSPut
import Derived.Test.YtnipoaohkoancaaOrd2
set_option linter.unusedVariables false
set_option linter.unusedSimpArgs false
namespace Go.Proofs.Ytnipoaohkoancaa
open Go.RowKit

theorem small_of_short {k : Nat} {L : List ByteArray} (h : Short k L) : Small L := fun s hs => by have := h.2 s hs; unfold maxLen; omega
theorem putM_small {L M : List ByteArray} {s : ByteArray} (h : putM L s = some M) : Small M := nsB_small (putM_some h).2.2.2
theorem dropM_small {L M : List ByteArray} {s : ByteArray} (h : dropM L s = some M) : Small M := nsB_small (dropM_nsB h)
theorem l_same_t (A : Option Addr) (n c : Nat) (B : Option Addr) (m d : Nat) (L : List ByteArray) (w : World) (hL : Strs w w.heap.size A n L) (hM : Strs w w.heap.size B m L) (hn : n ≤ maxLen) (hm : m ≤ maxLen) :
    Calls Try.prog 18 #[.slice A n c, .slice B m d] w fun e w' => e = .returned (.bool true) ∧ ∃ q, w' = w.drewN q := by
  refine (l_same A n c L B m d L w hL hM hn hm).mono fun e w' h => ?_
  rw [decide_eq_true (rfl : L = L)] at h
  exact h

set_option maxHeartbeats 4000000 in
set_option maxRecDepth 100000 in
theorem FnPut_walk (w : World) (A : Option Addr) (n c : Nat) (hc : Code w w.heap.size A n) (hnc : n ≤ c) (hm : n ≤ maxLen) :
    Calls Try.prog 3 #[.slice A n c] w fun e w' => e = .returned (.bool true) ∧ Below w.heap.size w w' := by
  by_cases h : 1048576 < n
  · unfold maxLen at hm
    go_enter Try.func3, Try.ntmps3
    go_wp2
    go_ret
    exact ⟨rfl, Below.refl _ _⟩
  go_enter Try.func3, Try.ntmps3
  go_wp2_with fail
  refine (d_NamesPut A n c w hc hnc (by omega)).mono ?_
  rintro e w1 ⟨A1, n1, c1, L, s, rfl, ⟨hst1, hnc1, hsh, hb1⟩, hs5⟩
  have hS := small_of_short hsh
  have hsm : s.size ≤ maxLen := by unfold maxLen; omega
  have hn1 : n1 ≤ maxLen := by have h1 := hst1.1; have h2 := hsh.1; unfold maxLen; omega
  have hn13 : n1 ≤ 13 := by have h1 := hst1.1; have h2 := hsh.1; omega
  have HST1 := hide hst1
  have HS := hide hS
  clear hst1 hS hsh
  go_wp2_with fail
  refine (i_NamesPut A1 n1 c1 L s _ HST1.out HS.out hnc1 hn1 hsm).mono ?_
  rintro e w2 ⟨v2, rfl, ⟨A2, n2, c2, rfl, own2⟩, hb2⟩
  have HST2 := hide ((HST1.out.below hb2).more hb2.size)
  go_wp2_with fail
  refine (s_NamesPut A1 n1 c1 L s _ HST2.out HS.out hnc1 hn1 hsm).mono ?_
  rintro e w3 ⟨v3, rfl, ⟨A3, n3, c3, rfl, own3⟩, hb3⟩
  have hb13 : Below w.heap.size w w3 := hb1.trans ((hb2.mono hb1.size).trans (hb3.mono (Nat.le_trans hb1.size hb2.size)))
  have HST3 := hide ((HST2.out.below hb3).more hb3.size)
  have hst2 := hide (((Strs.of_own own2).below hb3).more hb3.size)
  have hst3 := hide (Strs.of_own own3)
  cases ho : putM L s
  · rw [ho] at own2 own3 hst2 hst3
    have hz2 := own_len' own2
    have hz3 := own_len' own3
    simp only [Option.getD_none, List.length_nil] at hz2 hz3
    subst hz2 hz3
    clear own2 own3
    go_wp2_with fail
    refine (l_same_t A2 0 c2 A3 0 c3 [] _ hst2.out hst3.out (Nat.zero_le _) (Nat.zero_le _)).mono ?_
    rintro e w4 ⟨rfl, q4, rfl⟩
    go_wp2_with fail
    refine (l_same_t A2 0 c2 A3 0 c3 [] _ (hst2.out.drewN q4) (hst3.out.drewN q4) (Nat.zero_le _) (Nat.zero_le _)).mono ?_
    rintro e w5 ⟨rfl, q5, rfl⟩
    go_wp2_with fail
    go_ret
    exact ⟨rfl, below_drewN hb13 _⟩
  rename_i M
  rw [ho] at own2 own3 hst2 hst3
  have HO := hide ho
  have hnc2 := (own_cap own2).1
  have hnc3 := (own_cap own3).1
  clear ho own2 own3
  have hM := hide (hst2.out.1)
  have hM3 := hide (hst3.out.1)
  have hlM : M.length ≤ 11 := putM_len HO.out
  simp only [Option.getD_some] at hM hM3
  have hn2 : n2 ≤ 11 := by have := hM.out; omega
  have hn3 : n3 ≤ 11 := by have := hM3.out; omega
  have hn2m : n2 ≤ maxLen := by unfold maxLen; omega
  have hn3m : n3 ≤ maxLen := by unfold maxLen; omega
  go_wp2_with fail
  refine (l_same_t A2 n2 c2 A3 n3 c3 M _ hst2.out hst3.out hn2m hn3m).mono ?_
  rintro e w4 ⟨rfl, q4, rfl⟩
  have HSM := hide (putM_small HO.out)
  have hb14 := below_drewN hb13 q4
  have hmem : s ∈ M := by rw [(putM_some HO.out).1]; exact put_mem.2 (.inl rfl)
  have HMem := hide (memB_t hmem)
  clear hmem
  go_wp2_with fail
  refine (i_NamesValid A2 n2 c2 M _ (hst2.out.drewN q4) HSM.out hn2m).mono ?_
  rintro e w5 ⟨rfl, rfl⟩
  rw [(putM_some HO.out).2.2.2]
  go_wp2_with fail
  refine (l_has A2 n2 c2 M s _ (hst2.out.drewN q4) hn2m).mono ?_
  rintro e w5 ⟨rfl, rfl⟩
  rw [HMem.out]
  go_wp2_with fail
  go_ret
  exact ⟨rfl, hb14⟩

set_option maxHeartbeats 4000000 in
set_option maxRecDepth 100000 in
theorem FnPutTwice_walk (w : World) (A : Option Addr) (n c : Nat) (hc : Code w w.heap.size A n) (hnc : n ≤ c) (hm : n ≤ maxLen) :
    Calls Try.prog 5 #[.slice A n c] w fun e w' => e = .returned (.bool true) ∧ Below w.heap.size w w' := by
  by_cases h : 1048576 < n
  · unfold maxLen at hm
    go_enter Try.func5, Try.ntmps5
    go_wp2
    go_ret
    exact ⟨rfl, Below.refl _ _⟩
  go_enter Try.func5, Try.ntmps5
  go_wp2_with fail
  refine (d_NamesPut A n c w hc hnc (by omega)).mono ?_
  rintro e w1 ⟨A1, n1, c1, L, s, rfl, ⟨hst1, hnc1, hsh, hb1⟩, hs5⟩
  have hS := small_of_short hsh
  have hsm : s.size ≤ maxLen := by unfold maxLen; omega
  have hn1 : n1 ≤ maxLen := by have h1 := hst1.1; have h2 := hsh.1; unfold maxLen; omega
  have hn13 : n1 ≤ 13 := by have h1 := hst1.1; have h2 := hsh.1; omega
  have HST1 := hide hst1
  have HS := hide hS
  clear hst1 hS hsh
  go_wp2_with fail
  refine (i_NamesPut A1 n1 c1 L s _ HST1.out HS.out hnc1 hn1 hsm).mono ?_
  rintro e w2 ⟨v2, rfl, ⟨A2, n2, c2, rfl, own2⟩, hb2⟩
  have HST2 := hide ((HST1.out.below hb2).more hb2.size)
  go_wp2_with fail
  refine (s_NamesPut A1 n1 c1 L s _ HST2.out HS.out hnc1 hn1 hsm).mono ?_
  rintro e w3 ⟨v3, rfl, ⟨A3, n3, c3, rfl, own3⟩, hb3⟩
  have hb13 : Below w.heap.size w w3 := hb1.trans ((hb2.mono hb1.size).trans (hb3.mono (Nat.le_trans hb1.size hb2.size)))
  have HST3 := hide ((HST2.out.below hb3).more hb3.size)
  have hst2 := hide (((Strs.of_own own2).below hb3).more hb3.size)
  have hst3 := hide (Strs.of_own own3)
  cases ho : putM L s
  · rw [ho] at own2 own3 hst2 hst3
    have hz2 := own_len' own2
    have hz3 := own_len' own3
    simp only [Option.getD_none, List.length_nil] at hz2 hz3
    subst hz2 hz3
    clear own2 own3
    go_wp2_with fail
    refine (l_same_t A2 0 c2 A3 0 c3 [] _ hst2.out hst3.out (Nat.zero_le _) (Nat.zero_le _)).mono ?_
    rintro e w4 ⟨rfl, q4, rfl⟩
    go_wp2_with fail
    refine (l_same_t A2 0 c2 A3 0 c3 [] _ (hst2.out.drewN q4) (hst3.out.drewN q4) (Nat.zero_le _) (Nat.zero_le _)).mono ?_
    rintro e w5 ⟨rfl, q5, rfl⟩
    go_wp2_with fail
    go_ret
    exact ⟨rfl, below_drewN hb13 _⟩
  rename_i M
  rw [ho] at own2 own3 hst2 hst3
  have HO := hide ho
  have hnc2 := (own_cap own2).1
  have hnc3 := (own_cap own3).1
  clear ho own2 own3
  have hM := hide (hst2.out.1)
  have hM3 := hide (hst3.out.1)
  have hlM : M.length ≤ 11 := putM_len HO.out
  simp only [Option.getD_some] at hM hM3
  have hn2 : n2 ≤ 11 := by have := hM.out; omega
  have hn3 : n3 ≤ 11 := by have := hM3.out; omega
  have hn2m : n2 ≤ maxLen := by unfold maxLen; omega
  have hn3m : n3 ≤ maxLen := by unfold maxLen; omega
  go_wp2_with fail
  refine (l_same_t A2 n2 c2 A3 n3 c3 M _ hst2.out hst3.out hn2m hn3m).mono ?_
  rintro e w4 ⟨rfl, q4, rfl⟩
  have HSM := hide (putM_small HO.out)
  have hb14 := below_drewN hb13 q4
  have HA := hide (putM_again HO.out (t := s) (by rw [(putM_some HO.out).1]; exact put_mem.2 (.inl rfl)))
  go_wp2_with fail
  refine (i_NamesPut A2 n2 c2 M s _ (hst2.out.drewN q4) HSM.out hnc2 hn2m hsm).mono ?_
  rw [HA.out]
  rintro e w5 ⟨v5, rfl, ⟨A5, n5, c5, rfl, own5⟩, hb5⟩
  have hb15 := hb14.trans (hb5.mono hb14.size)
  have HST5 := hide (Strs.of_own own5)
  have HST2 := hide (((hst2.out.drewN q4).below hb5).more hb5.size)
  have hn5 : n5 ≤ maxLen := by have h1 := HST5.out.1; have h2 := hM.out; simp only [Option.getD_some] at h1; omega
  clear own5
  go_wp2_with fail
  refine (l_same_t A5 n5 c5 A2 n2 c2 M _ HST5.out HST2.out hn5 hn2m).mono ?_
  rintro e w6 ⟨rfl, q6, rfl⟩
  go_wp2_with fail
  go_ret
  exact ⟨rfl, below_drewN hb15 q6⟩

set_option maxHeartbeats 4000000 in
set_option maxRecDepth 100000 in
theorem FnPutDrop_walk (w : World) (A : Option Addr) (n c : Nat) (hc : Code w w.heap.size A n) (hnc : n ≤ c) (hm : n ≤ maxLen) :
    Calls Try.prog 6 #[.slice A n c] w fun e w' => e = .returned (.bool true) ∧ Below w.heap.size w w' := by
  by_cases h : 1048576 < n
  · unfold maxLen at hm
    go_enter Try.func6, Try.ntmps6
    go_wp2
    go_ret
    exact ⟨rfl, Below.refl _ _⟩
  go_enter Try.func6, Try.ntmps6
  go_wp2_with fail
  refine (d_NamesPut A n c w hc hnc (by omega)).mono ?_
  rintro e w1 ⟨A1, n1, c1, L, s, rfl, ⟨hst1, hnc1, hsh, hb1⟩, hs5⟩
  have hS := small_of_short hsh
  have hsm : s.size ≤ maxLen := by unfold maxLen; omega
  have hn1 : n1 ≤ maxLen := by have h1 := hst1.1; have h2 := hsh.1; unfold maxLen; omega
  have hn13 : n1 ≤ 13 := by have h1 := hst1.1; have h2 := hsh.1; omega
  have HST1 := hide hst1
  have HS := hide hS
  clear hst1 hS hsh
  go_wp2_with fail
  refine (i_NamesPut A1 n1 c1 L s _ HST1.out HS.out hnc1 hn1 hsm).mono ?_
  rintro e w2 ⟨v2, rfl, ⟨A2, n2, c2, rfl, own2⟩, hb2⟩
  have HST2 := hide ((HST1.out.below hb2).more hb2.size)
  go_wp2_with fail
  refine (s_NamesPut A1 n1 c1 L s _ HST2.out HS.out hnc1 hn1 hsm).mono ?_
  rintro e w3 ⟨v3, rfl, ⟨A3, n3, c3, rfl, own3⟩, hb3⟩
  have hb13 : Below w.heap.size w w3 := hb1.trans ((hb2.mono hb1.size).trans (hb3.mono (Nat.le_trans hb1.size hb2.size)))
  have HST3 := hide ((HST2.out.below hb3).more hb3.size)
  have hst2 := hide (((Strs.of_own own2).below hb3).more hb3.size)
  have hst3 := hide (Strs.of_own own3)
  cases ho : putM L s
  · rw [ho] at own2 own3 hst2 hst3
    have hz2 := own_len' own2
    have hz3 := own_len' own3
    simp only [Option.getD_none, List.length_nil] at hz2 hz3
    subst hz2 hz3
    clear own2 own3
    go_wp2_with fail
    refine (l_same_t A2 0 c2 A3 0 c3 [] _ hst2.out hst3.out (Nat.zero_le _) (Nat.zero_le _)).mono ?_
    rintro e w4 ⟨rfl, q4, rfl⟩
    go_wp2_with fail
    refine (l_same_t A2 0 c2 A3 0 c3 [] _ (hst2.out.drewN q4) (hst3.out.drewN q4) (Nat.zero_le _) (Nat.zero_le _)).mono ?_
    rintro e w5 ⟨rfl, q5, rfl⟩
    go_wp2_with fail
    go_ret
    exact ⟨rfl, below_drewN hb13 _⟩
  rename_i M
  rw [ho] at own2 own3 hst2 hst3
  have HO := hide ho
  have hnc2 := (own_cap own2).1
  have hnc3 := (own_cap own3).1
  clear ho own2 own3
  have hM := hide (hst2.out.1)
  have hM3 := hide (hst3.out.1)
  have hlM : M.length ≤ 11 := putM_len HO.out
  simp only [Option.getD_some] at hM hM3
  have hn2 : n2 ≤ 11 := by have := hM.out; omega
  have hn3 : n3 ≤ 11 := by have := hM3.out; omega
  have hn2m : n2 ≤ maxLen := by unfold maxLen; omega
  have hn3m : n3 ≤ maxLen := by unfold maxLen; omega
  go_wp2_with fail
  refine (l_same_t A2 n2 c2 A3 n3 c3 M _ hst2.out hst3.out hn2m hn3m).mono ?_
  rintro e w4 ⟨rfl, q4, rfl⟩
  have HSM := hide (putM_small HO.out)
  have hb14 := below_drewN hb13 q4
  obtain ⟨K, hK, hKL⟩ := putM_drop HO.out
  have HK := hide hK
  have HKL := hide hKL
  clear hK hKL
  go_wp2_with fail
  refine (i_NamesDrop A2 n2 c2 M s _ (hst2.out.drewN q4) HSM.out hnc2 hn2m).mono ?_
  rw [HK.out]
  rintro e w5 ⟨v5, rfl, ⟨A5, n5, c5, rfl, own5⟩, hb5⟩
  have hb15 := hb14.trans (hb5.mono hb14.size)
  have HST5 := hide (Strs.of_own own5)
  have HST1 := hide (((HST3.out.drewN q4).below hb5).more hb5.size)
  clear own5
  go_wp2_with fail
  refine (l_has A1 n1 c1 L s _ HST1.out hn1).mono ?_
  rintro e w6 ⟨rfl, rfl⟩
  cases hm : memB L s
  · have hs : s ∉ L := fun hs => by rw [memB_t hs] at hm; cases hm
    have HE := hide (HKL.out hs)
    clear hm hs
    have hst5 : Strs w5 w5.heap.size A5 n5 L := by have h := HST5.out; rw [HE.out] at h; exact h
    have hn5 : n5 ≤ maxLen := by have h1 := hst5.1; have h2 := HST1.out.1; omega
    have HST6 := hide hst5
    clear hst5
    go_wp2_with fail
    refine (l_same_t A5 n5 c5 A1 n1 c1 L _ HST6.out HST1.out hn5 hn1).mono ?_
    rintro e w6 ⟨rfl, q6, rfl⟩
    go_wp2_with fail
    go_ret
    exact ⟨rfl, below_drewN hb15 q6⟩
  · clear hm
    go_wp2_with fail
    go_ret
    exact ⟨rfl, hb15⟩

set_option maxHeartbeats 4000000 in
set_option maxRecDepth 100000 in
theorem FnDrop_walk (w : World) (A : Option Addr) (n c : Nat) (hc : Code w w.heap.size A n) (hnc : n ≤ c) (hm : n ≤ maxLen) :
    Calls Try.prog 7 #[.slice A n c] w fun e w' => e = .returned (.bool true) ∧ Below w.heap.size w w' := by
  by_cases h : 1048576 < n
  · unfold maxLen at hm
    go_enter Try.func7, Try.ntmps7
    go_wp2
    go_ret
    exact ⟨rfl, Below.refl _ _⟩
  go_enter Try.func7, Try.ntmps7
  go_wp2_with fail
  refine (d_NamesDrop A n c w hc hnc (by omega)).mono ?_
  rintro e w1 ⟨A1, n1, c1, L, s, rfl, ⟨hst1, hnc1, hsh, hb1⟩, hs5⟩
  have hS := small_of_short hsh
  have hsm : s.size ≤ maxLen := by unfold maxLen; omega
  have hn1 : n1 ≤ maxLen := by have h1 := hst1.1; have h2 := hsh.1; unfold maxLen; omega
  have hn13 : n1 ≤ 13 := by have h1 := hst1.1; have h2 := hsh.1; omega
  have HST1 := hide hst1
  have HS := hide hS
  clear hst1 hS hsh
  go_wp2_with fail
  refine (i_NamesDrop A1 n1 c1 L s _ HST1.out HS.out hnc1 hn1 ).mono ?_
  rintro e w2 ⟨v2, rfl, ⟨A2, n2, c2, rfl, own2⟩, hb2⟩
  have HST2 := hide ((HST1.out.below hb2).more hb2.size)
  go_wp2_with fail
  refine (s_NamesDrop A1 n1 c1 L s _ HST2.out HS.out hnc1 hn1 ).mono ?_
  rintro e w3 ⟨v3, rfl, ⟨A3, n3, c3, rfl, own3⟩, hb3⟩
  have hb13 : Below w.heap.size w w3 := hb1.trans ((hb2.mono hb1.size).trans (hb3.mono (Nat.le_trans hb1.size hb2.size)))
  have HST3 := hide ((HST2.out.below hb3).more hb3.size)
  have hst2 := hide (((Strs.of_own own2).below hb3).more hb3.size)
  have hst3 := hide (Strs.of_own own3)
  cases ho : dropM L s
  · rw [ho] at own2 own3 hst2 hst3
    have hz2 := own_len' own2
    have hz3 := own_len' own3
    simp only [Option.getD_none, List.length_nil] at hz2 hz3
    subst hz2 hz3
    clear own2 own3
    go_wp2_with fail
    refine (l_same_t A2 0 c2 A3 0 c3 [] _ hst2.out hst3.out (Nat.zero_le _) (Nat.zero_le _)).mono ?_
    rintro e w4 ⟨rfl, q4, rfl⟩
    go_wp2_with fail
    refine (l_same_t A2 0 c2 A3 0 c3 [] _ (hst2.out.drewN q4) (hst3.out.drewN q4) (Nat.zero_le _) (Nat.zero_le _)).mono ?_
    rintro e w5 ⟨rfl, q5, rfl⟩
    go_wp2_with fail
    go_ret
    exact ⟨rfl, below_drewN hb13 _⟩
  rename_i M
  rw [ho] at own2 own3 hst2 hst3
  have HO := hide ho
  have hnc2 := (own_cap own2).1
  have hnc3 := (own_cap own3).1
  clear ho own2 own3
  have hM := hide (hst2.out.1)
  have hM3 := hide (hst3.out.1)
  have hlM : M.length ≤ 11 := dropM_len HO.out
  simp only [Option.getD_some] at hM hM3
  have hn2 : n2 ≤ 11 := by have := hM.out; omega
  have hn3 : n3 ≤ 11 := by have := hM3.out; omega
  have hn2m : n2 ≤ maxLen := by unfold maxLen; omega
  have hn3m : n3 ≤ maxLen := by unfold maxLen; omega
  go_wp2_with fail
  refine (l_same_t A2 n2 c2 A3 n3 c3 M _ hst2.out hst3.out hn2m hn3m).mono ?_
  rintro e w4 ⟨rfl, q4, rfl⟩
  have HSM := hide (dropM_small HO.out)
  have hb14 := below_drewN hb13 q4
  obtain ⟨f1, f2, f3, f4, f5, f6⟩ := dropM_facts HO.out
  have F1 := hide f1
  have F3 := hide (memB_f f3)
  have F4 := hide f4
  have hlen : (n2 : Int) = (n1 : Int) - 1 := by have h1 := HST1.out.1; have h2 := hM.out; omega
  have HLen : Hid (((n2 : Int) == (n1 : Int) - 1) = true) := by show _ = true; rw [beq_iff_eq]; exact hlen
  clear f1 f2 f3 f4 f5 f6 hlen
  go_wp2_with fail
  refine (i_NamesDrop A2 n2 c2 M s _ (hst2.out.drewN q4) HSM.out hnc2 hn2m).mono ?_
  rw [F4.out]
  rintro e w5 ⟨v5, rfl, ⟨A5, n5, c5, rfl, own5⟩, hb5⟩
  have hb15 := hb14.trans (hb5.mono hb14.size)
  have HST2 := hide (((hst2.out.drewN q4).below hb5).more hb5.size)
  clear own5
  go_wp2_with fail
  refine (i_NamesValid A2 n2 c2 M _ HST2.out HSM.out hn2m).mono ?_
  rintro e w6 ⟨rfl, rfl⟩
  rw [F1.out]
  have hlen := HLen.out
  go_wp2_with fail
  refine (l_has A2 n2 c2 M s _ HST2.out hn2m).mono ?_
  rintro e w6 ⟨rfl, rfl⟩
  rw [F3.out]
  go_wp2_with fail
  go_ret
  exact ⟨rfl, hb15⟩

set_option maxHeartbeats 4000000 in
set_option maxRecDepth 100000 in
theorem FnDropPut_walk (w : World) (A : Option Addr) (n c : Nat) (hc : Code w w.heap.size A n) (hnc : n ≤ c) (hm : n ≤ maxLen) :
    Calls Try.prog 8 #[.slice A n c] w fun e w' => e = .returned (.bool true) ∧ Below w.heap.size w w' := by
  by_cases h : 1048576 < n
  · unfold maxLen at hm
    go_enter Try.func8, Try.ntmps8
    go_wp2
    go_ret
    exact ⟨rfl, Below.refl _ _⟩
  go_enter Try.func8, Try.ntmps8
  go_wp2_with fail
  refine (d_NamesDrop A n c w hc hnc (by omega)).mono ?_
  rintro e w1 ⟨A1, n1, c1, L, s, rfl, ⟨hst1, hnc1, hsh, hb1⟩, hs5⟩
  have hS := small_of_short hsh
  have hsm : s.size ≤ maxLen := by unfold maxLen; omega
  have hn1 : n1 ≤ maxLen := by have h1 := hst1.1; have h2 := hsh.1; unfold maxLen; omega
  have hn13 : n1 ≤ 13 := by have h1 := hst1.1; have h2 := hsh.1; omega
  have HST1 := hide hst1
  have HS := hide hS
  clear hst1 hS hsh
  go_wp2_with fail
  refine (i_NamesDrop A1 n1 c1 L s _ HST1.out HS.out hnc1 hn1 ).mono ?_
  rintro e w2 ⟨v2, rfl, ⟨A2, n2, c2, rfl, own2⟩, hb2⟩
  have HST2 := hide ((HST1.out.below hb2).more hb2.size)
  go_wp2_with fail
  refine (s_NamesDrop A1 n1 c1 L s _ HST2.out HS.out hnc1 hn1 ).mono ?_
  rintro e w3 ⟨v3, rfl, ⟨A3, n3, c3, rfl, own3⟩, hb3⟩
  have hb13 : Below w.heap.size w w3 := hb1.trans ((hb2.mono hb1.size).trans (hb3.mono (Nat.le_trans hb1.size hb2.size)))
  have HST3 := hide ((HST2.out.below hb3).more hb3.size)
  have hst2 := hide (((Strs.of_own own2).below hb3).more hb3.size)
  have hst3 := hide (Strs.of_own own3)
  cases ho : dropM L s
  · rw [ho] at own2 own3 hst2 hst3
    have hz2 := own_len' own2
    have hz3 := own_len' own3
    simp only [Option.getD_none, List.length_nil] at hz2 hz3
    subst hz2 hz3
    clear own2 own3
    go_wp2_with fail
    refine (l_same_t A2 0 c2 A3 0 c3 [] _ hst2.out hst3.out (Nat.zero_le _) (Nat.zero_le _)).mono ?_
    rintro e w4 ⟨rfl, q4, rfl⟩
    go_wp2_with fail
    refine (l_same_t A2 0 c2 A3 0 c3 [] _ (hst2.out.drewN q4) (hst3.out.drewN q4) (Nat.zero_le _) (Nat.zero_le _)).mono ?_
    rintro e w5 ⟨rfl, q5, rfl⟩
    go_wp2_with fail
    go_ret
    exact ⟨rfl, below_drewN hb13 _⟩
  rename_i M
  rw [ho] at own2 own3 hst2 hst3
  have HO := hide ho
  have hnc2 := (own_cap own2).1
  have hnc3 := (own_cap own3).1
  clear ho own2 own3
  have hM := hide (hst2.out.1)
  have hM3 := hide (hst3.out.1)
  have hlM : M.length ≤ 11 := dropM_len HO.out
  simp only [Option.getD_some] at hM hM3
  have hn2 : n2 ≤ 11 := by have := hM.out; omega
  have hn3 : n3 ≤ 11 := by have := hM3.out; omega
  have hn2m : n2 ≤ maxLen := by unfold maxLen; omega
  have hn3m : n3 ≤ maxLen := by unfold maxLen; omega
  go_wp2_with fail
  refine (l_same_t A2 n2 c2 A3 n3 c3 M _ hst2.out hst3.out hn2m hn3m).mono ?_
  rintro e w4 ⟨rfl, q4, rfl⟩
  have HSM := hide (dropM_small HO.out)
  have hb14 := below_drewN hb13 q4
  have F6 := hide (dropM_facts HO.out).2.2.2.2.2
  go_wp2_with fail
  refine (i_NamesPut A2 n2 c2 M s _ (hst2.out.drewN q4) HSM.out hnc2 hn2m hsm).mono ?_
  rw [F6.out]
  rintro e w5 ⟨v5, rfl, ⟨A5, n5, c5, rfl, own5⟩, hb5⟩
  have hb15 := hb14.trans (hb5.mono hb14.size)
  have HST5 := hide (Strs.of_own own5)
  have HST1 := hide (((HST3.out.drewN q4).below hb5).more hb5.size)
  have hn5 : n5 ≤ maxLen := by have h1 := HST5.out.1; have h2 := HST1.out.1; simp only [Option.getD_some] at h1; omega
  clear own5
  go_wp2_with fail
  refine (l_same_t A5 n5 c5 A1 n1 c1 L _ HST5.out HST1.out hn5 hn1).mono ?_
  rintro e w6 ⟨rfl, q6, rfl⟩
  go_wp2_with fail
  go_ret
  exact ⟨rfl, below_drewN hb15 q6⟩

end Go.Proofs.Ytnipoaohkoancaa
