/- Walk of FnFollowersOf. -/
import Derived.Test.YtokaadgakomecaaFof
import Derived.Test.YtokaadgakomecaaDrawA3
import Derived.Test.YtokaadgakomecaaSame
set_option linter.unusedVariables false
set_option linter.unusedSimpArgs false
namespace Go.Proofs.Ytokaadgakomecaa
open Go.RowKit

theorem own1_strs {w w' : World} {L : List ByteArray} {e : Ending} (h : Own1 w L e w') : ∃ A n c, e = .returned (.slice A n c) ∧ n ≤ c ∧ Strs w' w'.heap.size A n L ∧ Below w.heap.size w w' := by
  obtain ⟨v, rfl, ⟨A, n, c, rfl, own⟩, hb⟩ := h
  exact ⟨A, n, c, rfl, (own_cap own).1, Strs.of_own own, hb⟩
theorem folM_len (X : List Acc) (s : ByteArray) : (folM X s).length ≤ 10 := by
  cases hv : asB X
  · rw [folM_f hv]; exact Nat.zero_le _
  · rw [folM_t hv]; exact fol_len hv s

set_option maxHeartbeats 1000000 in
set_option maxRecDepth 100000 in
theorem FnFollowersOf_walk (w : World) (A : Option Addr) (n c : Nat) (hc : Code w w.heap.size A n) (hnc : n ≤ c) (hm : n ≤ maxLen) :
    Calls Try.prog 10 #[.slice A n c] w fun e w' => e = .returned (.bool true) ∧ Below w.heap.size w w' := by
  by_cases h : 1048576 < n
  · unfold maxLen at hm
    go_enter Try.func10, Try.ntmps10
    go_wp2
    go_ret
    exact ⟨rfl, Below.refl _ _⟩
  go_enter Try.func10, Try.ntmps10
  go_wp2_with fail
  refine (d_FollowersOf A n c w hc hnc (by omega)).mono ?_
  rintro e w1 ⟨v, X, s, rfl, ⟨A1, n1, c1, rfl, hacc, hnc1, hdr, hpos, _, hb1⟩, hs5⟩
  have Hacc := hide hacc
  have Hb1 := hide hb1
  have Hsm := hide hdr.small
  have hl := hide hacc.1
  have hn8 : n1 ≤ 8 := by have := hdr.1; have := hl.out; omega
  have hn1 : n1 ≤ maxLen := by unfold maxLen; omega
  have hsm : s.size ≤ maxLen := by unfold maxLen; omega
  clear hacc hb1 hdr hc hnc hpos
  go_wp2_with fail
  refine (i_fof A1 n1 c1 X s _ Hacc.out Hsm.out hn1 hsm).mono ?_
  intro e w2 ho
  obtain ⟨A2, n2, c2, rfl, hnc2, hst2, hb2⟩ := own1_strs ho
  have Hacc2 := hide (Hacc.out.on hb2)
  have Hb2 := hide hb2
  have Hst2 := hide hst2
  clear ho hb2 hst2
  go_wp2_with fail
  refine (s_fof A1 n1 c1 X s _ Hacc2.out Hsm.out hn1).mono ?_
  intro e w3 ho
  obtain ⟨A3, n3, c3, rfl, hnc3, hst3, hb3⟩ := own1_strs ho
  have Hacc3 := hide (Hacc2.out.on hb3)
  have Hst23 := hide (Hst2.out.on hb3)
  have Hst3 := hide hst3
  have Hb13 := hide (Hb1.out.trans ((Hb2.out.mono Hb1.out.size).trans (hb3.mono (Nat.le_trans Hb1.out.size Hb2.out.size))))
  have hfl := hide (folM_len X s)
  have hn2 : n2 ≤ 10 := by have h1 := hfl.out; have h2 := Hst23.out.1; omega
  have hn3 : n3 ≤ 10 := by have h1 := hfl.out; have h2 := Hst3.out.1; omega
  have hn23 : Hid (n2 = n3) := by have h1 := Hst3.out.1; have h2 := Hst23.out.1; show _ = _; omega
  have hn2m : n2 ≤ maxLen := by unfold maxLen; omega
  have hn3m : n3 ≤ maxLen := by unfold maxLen; omega
  clear ho hb3 hst3
  go_wp2_with fail
  refine (l_same_t A2 n2 c2 A3 n3 c3 _ _ Hst23.out Hst3.out hn2m hn3m).mono ?_
  rintro e w4 ⟨rfl, q4, rfl⟩
  by_cases h0 : n3 = 0
  · have hz : ((n3 : Int) == 0) = true := by rw [beq_iff_eq]; omega
    have H0 := hide h0
    clear h0
    go_wp2_with fail
    refine (l_same_t A2 n2 c2 A3 n3 c3 _ _ (Hst23.out.drewN q4) (Hst3.out.drewN q4) hn2m hn3m).mono ?_
    rintro e w5 ⟨rfl, q5, rfl⟩
    go_wp2_with fail
    go_ret
    exact ⟨rfl, below_drewN Hb13.out _⟩
  have hz : ((n3 : Int) == 0) = false := by rw [beq_eq_false_iff_ne]; omega
  have hne : folM X s ≠ [] := by intro h; have h2 := Hst3.out.1; rw [h] at h2; simp at h2; omega
  have hv : asB X = true := by
    cases h : asB X
    · exact absurd (folM_f h) hne
    · rfl
  have hm : s ∈ nms X := by
    rcases Classical.em (s ∈ nms X) with h | h
    · exact h
    · exact absurd ((folM_t hv).trans (fol_none h)) hne
  obtain ⟨kk, F, hkk⟩ := nms_mem hm
  have hkn := nms_at hkk
  have hF : Hid (folM X s = F) := by show _ = _; rw [folM_t hv]; exact fol_at (a := (s, F)) (asB_asc hv) hkk
  have hacc := asB_acc hv (List.mem_of_getElem? hkk)
  have HnF := hide hacc.2.1
  have HmF := hide (memB_f hacc.2.2)
  have Hbef : Hid (∀ j a, j < kk → X[j]? = some a → a.1 ≠ s) := fun j a hj ha e => by
    have := (asB_asc hv).uniq (nms_at ha) (e ▸ hkn); omega
  have Hkk := hide hkk
  have hklt : kk < n1 := by have h1 := hl.out; have := (List.getElem?_eq_some_iff.1 hkk).1; omega
  have Hbq := hide (below_drewN Hb13.out q4)
  have Haccq : Hid (Accs (w3.drewN q4) (w3.drewN q4).heap.size A1 n1 X) := Hacc3.out.drewN q4
  have Hst2q : Hid (Strs (w3.drewN q4) (w3.drewN q4).heap.size A2 n2 (folM X s)) := Hst23.out.drewN q4
  clear hkk hkn hacc hm hv hne h0
  generalize w3.drewN q4 = W at *
  go_wp2_with fail
  go_loop [7] (fun i => ∃ j : Nat, j ≤ kk ∧ i = .int .i64 j) (fun i => n1 - (intOf i).toNat)
  case atStart => exact ⟨0, Nat.zero_le _, rfl⟩
  case round =>
    obtain ⟨j, hj, rfl⟩ := hrel
    have hjn : j < n1 := by omega
    obtain ⟨a, ha⟩ : ∃ a, X[j]? = some a := ⟨X[j]'(by have := hl.out; omega), List.getElem?_eq_getElem _⟩
    obtain ⟨g, off, A', n', c', rfl, hg, hc0, hc1, hn', hm', hf⟩ := Haccq.out.at' ha
    by_cases hjk : j < kk
    · have hne := beq_of_ne (Hbef.out j a hjk ha)
      clear ha hf hc1
      go_wp2_with fail
      go_round
      case rel => exact ⟨j + 1, by omega, by go_num⟩
      case measure => simp [intOf]; omega
    · have ejk : j = kk := by omega
      have hk2 := Hkk.out
      rw [← ejk, ha] at hk2
      have hk3 : a = (s, F) := by injection hk2
      subst hk3
      have HA := hide hf.strs
      have hL2 := Hst2q.out
      rw [hF.out] at hL2
      have HL2 := hide hL2
      have hns : Hid (Small F) := nsB_small HnF.out
      clear ha hf hjk ejk hk2 hL2
      go_wp2_with fail
      refine (l_same_t A' n' c' A2 n2 c2 F _ HA.out HL2.out hm' hn2m).mono ?_
      rintro e w6 ⟨rfl, q6, rfl⟩
      go_wp2_with fail
      refine (i_NamesValid A2 n2 c2 F _ (HL2.out.drewN q6) hns.out hn2m).mono ?_
      rintro e w6 ⟨rfl, rfl⟩
      rw [HnF.out]
      go_wp2_with fail
      refine (l_has A2 n2 c2 F s _ (HL2.out.drewN q6) hn2m).mono ?_
      rintro e w6 ⟨rfl, rfl⟩
      rw [HmF.out]
      go_wp2_with fail
      go_ret
      exact ⟨rfl, below_drewN Hbq.out q6⟩
end Go.Proofs.Ytokaadgakomecaa
