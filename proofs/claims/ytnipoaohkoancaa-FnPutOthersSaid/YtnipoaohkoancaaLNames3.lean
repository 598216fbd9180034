/- Walks of the laws of names with a second code, and with loops. -/
import Derived.Test.YtnipoaohkoancaaLNames2
import Derived.Deep.RegionLaw
set_option linter.unusedVariables false
set_option linter.unusedSimpArgs false
namespace Go.Proofs.Ytnipoaohkoancaa
open Go.RowKit

theorem mod_nat (m n : Nat) (hn : 0 < n) : ∃ k : Nat, (m : Int) % (n : Int) = k ∧ (m : Int).tmod n = k ∧ k < n :=
  ⟨m % n, by rw [Int.natCast_emod], by rw [Int.natCast_emod]; exact Int.tmod_eq_emod_of_nonneg (by omega), Nat.mod_lt _ hn⟩

set_option maxHeartbeats 4000000 in
set_option maxRecDepth 100000 in
theorem FnDropOne_walk (w : World) (A : Option Addr) (n c : Nat) (hc : Code w w.heap.size A n) (hnc : n ≤ c) (hm : n ≤ maxLen) :
    Calls Try.prog 12 #[.slice A n c] w fun e w' => e = .returned (.bool true) ∧ Below w.heap.size w w' := by
  by_cases h : 1048576 < n
  · unfold maxLen at hm
    go_enter Try.func12, Try.ntmps12
    go_wp2
    go_ret
    exact ⟨rfl, Below.refl _ _⟩
  go_enter Try.func12, Try.ntmps12
  go_wp2_with fail
  refine (d_NamesDrop A n c w hc hnc (by omega)).mono ?_
  rintro e w1 ⟨A1, n1, c1, L, s, rfl, ⟨hst1, hnc1, hsh, hb1⟩, hs5⟩
  have hS := small_of_short hsh
  have hsm : s.size ≤ maxLen := by unfold maxLen; omega
  have hn1 : n1 ≤ maxLen := by have h1 := hst1.1; have h2 := hsh.1; unfold maxLen; omega
  have hn13 : n1 ≤ 13 := by have h1 := hst1.1; have h2 := hsh.1; omega
  have HST1 := hide hst1
  have HS := hide hS
  clear hst1 hS hsh
  go_wp2_with fail
  refine (i_NamesDrop A1 n1 c1 L s _ HST1.out HS.out hnc1 hn1 ).mono ?_
  rintro e w2 ⟨v2, rfl, ⟨A2, n2, c2, rfl, own2⟩, hb2⟩
  have HST2 := hide ((HST1.out.below hb2).more hb2.size)
  go_wp2_with fail
  refine (s_NamesDrop A1 n1 c1 L s _ HST2.out HS.out hnc1 hn1 ).mono ?_
  rintro e w3 ⟨v3, rfl, ⟨A3, n3, c3, rfl, own3⟩, hb3⟩
  have hb13 : Below w.heap.size w w3 := hb1.trans ((hb2.mono hb1.size).trans (hb3.mono (Nat.le_trans hb1.size hb2.size)))
  have HST3 := hide ((HST2.out.below hb3).more hb3.size)
  have hst2 := hide (((Strs.of_own own2).below hb3).more hb3.size)
  have hst3 := hide (Strs.of_own own3)
  cases ho : dropM L s
  · rw [ho] at own2 own3 hst2 hst3
    have hz2 := own_len' own2
    have hz3 := own_len' own3
    simp only [Option.getD_none, List.length_nil] at hz2 hz3
    subst hz2 hz3
    clear own2 own3
    go_wp2_with fail
    refine (l_same_t A2 0 c2 A3 0 c3 [] _ hst2.out hst3.out (Nat.zero_le _) (Nat.zero_le _)).mono ?_
    rintro e w4 ⟨rfl, q4, rfl⟩
    go_wp2_with fail
    refine (l_same_t A2 0 c2 A3 0 c3 [] _ (hst2.out.drewN q4) (hst3.out.drewN q4) (Nat.zero_le _) (Nat.zero_le _)).mono ?_
    rintro e w5 ⟨rfl, q5, rfl⟩
    go_wp2_with fail
    go_ret
    exact ⟨rfl, below_drewN hb13 _⟩
  rename_i M
  rw [ho] at own2 own3 hst2 hst3
  have HO := hide ho
  have hnc2 := (own_cap own2).1
  have hnc3 := (own_cap own3).1
  clear ho own2 own3
  have hM := hide (hst2.out.1)
  have hM3 := hide (hst3.out.1)
  have hlM : M.length ≤ 11 := dropM_len HO.out
  simp only [Option.getD_some] at hM hM3
  have hn2 : n2 ≤ 11 := by have := hM.out; omega
  have hn3 : n3 ≤ 11 := by have := hM3.out; omega
  have hn2m : n2 ≤ maxLen := by unfold maxLen; omega
  have hn3m : n3 ≤ maxLen := by unfold maxLen; omega
  go_wp2_with fail
  refine (l_same_t A2 n2 c2 A3 n3 c3 M _ hst2.out hst3.out hn2m hn3m).mono ?_
  rintro e w4 ⟨rfl, q4, rfl⟩
  have HSM := hide (dropM_small HO.out)
  have hb14 := below_drewN hb13 q4
  have F1 := hide (dropM_facts HO.out).1
  have F5 := hide (memB_t (dropM_facts HO.out).2.2.2.2.1)
  have HST4 := hide (hst2.out.drewN q4)
  go_wp2_with fail
  go_loopw [9] (fun i wr => ∃ k : Nat, k ≤ n2 ∧ i = .int .i64 k ∧ Below w3.heap.size (w3.drewN q4) wr) (fun i _ => n2 - (intOf i).toNat)
  case atStart => exact ⟨0, Nat.zero_le _, rfl, Below.refl _ _⟩
  case round =>
    obtain ⟨k, hk, rfl, hbr⟩ := hrel
    have HSTr := hide ((HST4.out.below hbr).more hbr.size)
    have hb1r := hb14.trans (hbr.mono hb13.size)
    by_cases hlt : k < n2
    · obtain ⟨t, ht⟩ : ∃ t, M[k]? = some t := ⟨M[k]'(by have := hM.out; omega), List.getElem?_eq_getElem _⟩
      obtain ⟨g, off, rfl, hgb, hc⟩ := HSTr.out.2 (by omega)
      have hck := hc k t ht
      obtain ⟨K, hK⟩ := dropM_one F1.out (List.mem_of_getElem? ht)
      have HK := hide hK
      clear hc ht hK
      go_wp2_with fail
      refine (i_NamesDrop _ n2 c2 M t _ HSTr.out HSM.out hnc2 hn2m).mono ?_
      rw [HK.out]
      rintro e w5 ⟨v5, rfl, ⟨A5, n5, c5, rfl, own5⟩, hb5⟩
      clear own5
      go_wp2_with fail
      go_roundw
      case rel => exact ⟨k + 1, by omega, by go_num, hbr.trans (hb5.mono hbr.size)⟩
      case measure => simp [intOf]; omega
    · have HST1 := hide (((HST3.out.drewN q4).below hbr).more hbr.size)
      go_wp2_with fail
      refine (l_has A1 n1 c1 L s _ HST1.out hn1).mono ?_
      rintro e w6 ⟨rfl, rfl⟩
      rw [F5.out]
      go_wp2_with fail
      go_ret
      exact ⟨rfl, hb1r⟩

set_option maxHeartbeats 4000000 in
set_option maxRecDepth 100000 in
theorem FnPutRoom_walk (w : World) (A : Option Addr) (n c : Nat) (hc : Code w w.heap.size A n) (hnc : n ≤ c) (hm : n ≤ maxLen) (A0 : Option Addr) (n0 c0 : Nat) (hc0 : Code w w.heap.size A0 n0) (hnc0 : n0 ≤ c0) (hm0 : n0 ≤ maxLen) :
    Calls Try.prog 11 #[.slice A n c, .slice A0 n0 c0] w fun e w' => e = .returned (.bool true) ∧ Below w.heap.size w w' := by
  by_cases h : 1048576 < n
  · unfold maxLen at hm hm0
    go_enter Try.func11, Try.ntmps11
    go_wp2
    go_ret
    exact ⟨rfl, Below.refl _ _⟩
  by_cases h0 : 1048576 < n0
  · unfold maxLen at hm hm0
    go_enter Try.func11, Try.ntmps11
    go_wp2
    go_ret
    exact ⟨rfl, Below.refl _ _⟩
  go_enter Try.func11, Try.ntmps11
  go_wp2_with fail
  refine (d_NamesPut A n c w hc hnc (by omega)).mono ?_
  rintro e w1 ⟨A1, n1, c1, L, s, rfl, ⟨hst1, hnc1, hsh, hb1⟩, hs5⟩
  have hS := small_of_short hsh
  have hsm : s.size ≤ maxLen := by unfold maxLen; omega
  have hn1 : n1 ≤ maxLen := by have h1 := hst1.1; have h2 := hsh.1; unfold maxLen; omega
  have hn13 : n1 ≤ 13 := by have h1 := hst1.1; have h2 := hsh.1; omega
  have HST1 := hide hst1
  have HS := hide hS
  clear hst1 hS hsh
  go_wp2_with fail
  refine (i_NamesPut A1 n1 c1 L s _ HST1.out HS.out hnc1 hn1 hsm).mono ?_
  rintro e w2 ⟨v2, rfl, ⟨A2, n2, c2, rfl, own2⟩, hb2⟩
  have HST2 := hide ((HST1.out.below hb2).more hb2.size)
  go_wp2_with fail
  refine (s_NamesPut A1 n1 c1 L s _ HST2.out HS.out hnc1 hn1 hsm).mono ?_
  rintro e w3 ⟨v3, rfl, ⟨A3, n3, c3, rfl, own3⟩, hb3⟩
  have hb13 : Below w.heap.size w w3 := hb1.trans ((hb2.mono hb1.size).trans (hb3.mono (Nat.le_trans hb1.size hb2.size)))
  have HST3 := hide ((HST2.out.below hb3).more hb3.size)
  have hst2 := hide (((Strs.of_own own2).below hb3).more hb3.size)
  have hst3 := hide (Strs.of_own own3)
  cases ho : putM L s
  · rw [ho] at own2 own3 hst2 hst3
    have hz2 := own_len' own2
    have hz3 := own_len' own3
    simp only [Option.getD_none, List.length_nil] at hz2 hz3
    subst hz2 hz3
    clear own2 own3
    go_wp2_with fail
    refine (l_same_t A2 0 c2 A3 0 c3 [] _ hst2.out hst3.out (Nat.zero_le _) (Nat.zero_le _)).mono ?_
    rintro e w4 ⟨rfl, q4, rfl⟩
    go_wp2_with fail
    refine (l_same_t A2 0 c2 A3 0 c3 [] _ (hst2.out.drewN q4) (hst3.out.drewN q4) (Nat.zero_le _) (Nat.zero_le _)).mono ?_
    rintro e w5 ⟨rfl, q5, rfl⟩
    go_wp2_with fail
    go_ret
    exact ⟨rfl, below_drewN hb13 _⟩
  rename_i M
  rw [ho] at own2 own3 hst2 hst3
  have HO := hide ho
  have hnc2 := (own_cap own2).1
  have hnc3 := (own_cap own3).1
  clear ho own2 own3
  have hM := hide (hst2.out.1)
  have hM3 := hide (hst3.out.1)
  have hlM : M.length ≤ 11 := putM_len HO.out
  simp only [Option.getD_some] at hM hM3
  have hn2 : n2 ≤ 11 := by have := hM.out; omega
  have hn3 : n3 ≤ 11 := by have := hM3.out; omega
  have hn2m : n2 ≤ maxLen := by unfold maxLen; omega
  have hn3m : n3 ≤ maxLen := by unfold maxLen; omega
  go_wp2_with fail
  refine (l_same_t A2 n2 c2 A3 n3 c3 M _ hst2.out hst3.out hn2m hn3m).mono ?_
  rintro e w4 ⟨rfl, q4, rfl⟩
  have HSM := hide (putM_small HO.out)
  have hb14 := below_drewN hb13 q4
  have hmem : s ∈ M := by rw [(putM_some HO.out).1]; exact put_mem.2 (.inl rfl)
  have hpos : 0 < n2 := by
    have h1 := hM.out
    have h2 := List.length_pos_of_mem hmem
    omega
  have hle : (n2 : Int) ≤ 10 := by have h1 := nsB_le (putM_some HO.out).2.2.2; have h2 := hM.out; omega
  clear hmem
  obtain ⟨k, hk1, hk2, hkn⟩ := mod_nat n0 n2 hpos
  have HK := hide hkn
  obtain ⟨t, ht⟩ : ∃ t, M[k]? = some t := ⟨M[k]'(by have := hM.out; omega), List.getElem?_eq_getElem _⟩
  have HST4 := hide (hst2.out.drewN q4)
  obtain ⟨g, off, hA2, hgb, hc⟩ := HST4.out.2 (by omega)
  subst hA2
  have hck := hc k t ht
  have HA := hide (putM_again HO.out (List.mem_of_getElem? ht))
  have ht5 := putM_small HO.out t (List.mem_of_getElem? ht)
  have HT5 := hide ht5
  clear hc ht ht5
  go_wp2_with fail
  refine (i_NamesPut _ n2 c2 M t _ HST4.out HSM.out hnc2 hn2m HT5.out).mono ?_
  rw [HA.out]
  rintro e w5 ⟨v5, rfl, ⟨A5, n5, c5, rfl, own5⟩, hb5⟩
  have hb15 := hb14.trans (hb5.mono hb14.size)
  have HST5 := hide (Strs.of_own own5)
  have HST2 := hide ((HST4.out.below hb5).more hb5.size)
  have hn5 : n5 ≤ maxLen := by have h1 := HST5.out.1; have h2 := hM.out; simp only [Option.getD_some] at h1; omega
  clear own5
  go_wp2_with fail
  refine (l_same_t A5 n5 c5 _ n2 c2 M _ HST5.out HST2.out hn5 hn2m).mono ?_
  rintro e w6 ⟨rfl, q6, rfl⟩
  go_wp2_with fail
  go_ret
  exact ⟨rfl, below_drewN hb15 q6⟩
end Go.Proofs.Ytnipoaohkoancaa
