/- Walks of FnFollowedBy, FnFollowedCount. -/
import Derived.Test.YtokaadgakomecaaLFof
import Derived.Test.YtokaadgakomecaaFby
import Derived.Test.YtokaadgakomecaaSFby
set_option linter.unusedVariables false
set_option linter.unusedSimpArgs false
namespace Go.Proofs.Ytokaadgakomecaa
open Go.RowKit Go.BigFrame

theorem byM_6 (X : List Acc) (s : ByteArray) : (byM X s).length ≤ 6 := by
  cases hv : asB X
  · rw [byM_f hv]; exact Nat.zero_le _
  · have h1 := byM_len X s; have h2 := asB_6 hv; omega
theorem byF_at {X : List Acc} {k : Nat} {a : Acc} (s : ByteArray) (ha : X[k]? = some a) (hm : memB a.2 s = true) : (byF X s)[(byF (X.take k) s).length]? = some a.1 := by
  obtain ⟨h, e⟩ := List.getElem?_eq_some_iff.1 ha
  have h1 : byF X s = byF (X.take k) s ++ byF (X.drop k) s := by
    unfold byF
    rw [← List.map_append, ← List.filter_append, List.take_append_drop]
  rw [h1, List.getElem?_append_right (Nat.le_refl _), Nat.sub_self, List.drop_eq_getElem_cons h, e]
  unfold byF
  simp [hm]

set_option maxHeartbeats 1000000 in
set_option maxRecDepth 100000 in
theorem FnFollowedCount_walk (w : World) (A : Option Addr) (n c : Nat) (hc : Code w w.heap.size A n) (hnc : n ≤ c) (hm : n ≤ maxLen) :
    Calls Try.prog 15 #[.slice A n c] w fun e w' => e = .returned (.bool true) ∧ Below w.heap.size w w' := by
  by_cases h : 1048576 < n
  · unfold maxLen at hm
    go_enter Try.func15, Try.ntmps15
    go_wp2
    go_ret
    exact ⟨rfl, Below.refl _ _⟩
  go_enter Try.func15, Try.ntmps15
  go_wp2_with fail
  refine (d_FollowedBy A n c w hc hnc (by omega)).mono ?_
  rintro e w1 ⟨v, X, s, rfl, ⟨A1, n1, c1, rfl, hacc, hnc1, hdr, hpos, _, hb1⟩, hs5⟩
  have Hacc := hide hacc
  have Hb1 := hide hb1
  have Hsm := hide hdr.small
  have hl := hide hacc.1
  have hn8 : n1 ≤ 8 := by have := hdr.1; have := hl.out; omega
  have hn1 : n1 ≤ maxLen := by unfold maxLen; omega
  have hsm : s.size ≤ maxLen := by unfold maxLen; omega
  clear hacc hb1 hdr hc hnc hpos
  go_wp2_with fail
  refine (i_fby A1 n1 c1 X s _ Hacc.out Hsm.out hn1).mono ?_
  intro e w2 ho
  obtain ⟨A2, n2, c2, rfl, hnc2, hst2, hb2⟩ := own1_strs ho
  have Hacc2 := hide (Hacc.out.on hb2)
  have Hb2 := hide hb2
  have Hst2 := hide hst2
  clear ho hb2 hst2
  go_wp2_with fail
  refine (s_fby A1 n1 c1 X s _ Hacc2.out Hsm.out hn1).mono ?_
  intro e w3 ho
  obtain ⟨A3, n3, c3, rfl, hnc3, hst3, hb3⟩ := own1_strs ho
  have Hacc3 := hide (Hacc2.out.on hb3)
  have Hst23 := hide (Hst2.out.on hb3)
  have Hst3 := hide hst3
  have Hb13 := hide (Hb1.out.trans ((Hb2.out.mono Hb1.out.size).trans (hb3.mono (Nat.le_trans Hb1.out.size Hb2.out.size))))
  have hfl := hide (byM_6 X s)
  have hn2 : n2 ≤ 6 := by have h1 := hfl.out; have h2 := Hst23.out.1; omega
  have hn3 : n3 ≤ 6 := by have h1 := hfl.out; have h2 := Hst3.out.1; omega
  have hn2m : n2 ≤ maxLen := by unfold maxLen; omega
  have hn3m : n3 ≤ maxLen := by unfold maxLen; omega
  clear ho hb3 hst3
  go_wp2_with fail
  refine (l_same_t A2 n2 c2 A3 n3 c3 _ _ Hst23.out Hst3.out hn2m hn3m).mono ?_
  rintro e w4 ⟨rfl, q4, rfl⟩
  have Hacc4 : Hid (Accs (w3.drewN q4) (w3.drewN q4).heap.size A1 n1 X) := Hacc3.out.drewN q4
  have HS4 : Hid (Strs (w3.drewN q4) (w3.drewN q4).heap.size A2 n2 (byM X s) ∧ Strs (w3.drewN q4) (w3.drewN q4).heap.size A3 n3 (byM X s)) := ⟨Hst23.out.drewN q4, Hst3.out.drewN q4⟩
  have Hb4 := hide (below_drewN Hb13.out q4)
  generalize w3.drewN q4 = w4 at *
  go_wp2_with fail
  refine (s_As A1 n1 c1 X _ Hacc4.out Hsm.out hn1).mono ?_
  rintro e w5 ⟨rfl, hb5⟩
  have Hb5 := hide (Hb4.out.trans (hb5.mono Hb4.out.size))
  have Hacc5 := hide (Hacc4.out.on hb5)
  have HS5 : Hid (Strs w5 w5.heap.size A2 n2 (byM X s) ∧ Strs w5 w5.heap.size A3 n3 (byM X s)) := ⟨HS4.out.1.on hb5, HS4.out.2.on hb5⟩
  clear hb5 Hst23 Hst3 Hacc3 Hacc2 Hst2
  cases hv : asB X
  · clear hv
    go_wp2_with fail
    refine (l_same_t A2 n2 c2 A3 n3 c3 _ _ HS5.out.1 HS5.out.2 hn2m hn3m).mono ?_
    rintro e w6 ⟨rfl, q6, rfl⟩
    go_wp2_with fail
    go_ret
    exact ⟨rfl, below_drewN Hb5.out _⟩
  have Hm := hide (memB_f (byM_self (s := s) hv))
  have hle : (n2 : Int) ≤ (n1 : Int) := by have h1 := HS5.out.1.1; have h2 := byM_len X s; have h3 := hl.out; omega
  clear hv
  go_wp2_with fail
  refine (l_has A2 n2 c2 _ s _ HS5.out.1 hn2m).mono ?_
  rintro e w6 ⟨rfl, rfl⟩
  rw [Hm.out]
  go_wp2_with fail
  go_ret
  exact ⟨rfl, Hb5.out⟩

set_option maxHeartbeats 1000000 in
set_option maxRecDepth 100000 in
theorem FnFollowedBy_walk (w : World) (A : Option Addr) (n c : Nat) (hc : Code w w.heap.size A n) (hnc : n ≤ c) (hm : n ≤ maxLen) :
    Calls Try.prog 11 #[.slice A n c] w fun e w' => e = .returned (.bool true) ∧ Below w.heap.size w w' := by
  by_cases h : 1048576 < n
  · unfold maxLen at hm
    go_enter Try.func11, Try.ntmps11
    go_wp2
    go_ret
    exact ⟨rfl, Below.refl _ _⟩
  go_enter Try.func11, Try.ntmps11
  go_wp2_with fail
  refine (d_FollowedBy A n c w hc hnc (by omega)).mono ?_
  rintro e w1 ⟨v, X, s, rfl, ⟨A1, n1, c1, rfl, hacc, hnc1, hdr, hpos, _, hb1⟩, hs5⟩
  have Hacc := hide hacc
  have Hb1 := hide hb1
  have Hsm := hide hdr.small
  have hl := hide hacc.1
  have hn8 : n1 ≤ 8 := by have := hdr.1; have := hl.out; omega
  have hn1 : n1 ≤ maxLen := by unfold maxLen; omega
  have hsm : s.size ≤ maxLen := by unfold maxLen; omega
  clear hacc hb1 hdr hc hnc hpos
  go_wp2_with fail
  refine (i_fby A1 n1 c1 X s _ Hacc.out Hsm.out hn1).mono ?_
  intro e w2 ho
  obtain ⟨A2, n2, c2, rfl, hnc2, hst2, hb2⟩ := own1_strs ho
  have Hacc2 := hide (Hacc.out.on hb2)
  have Hb2 := hide hb2
  have Hst2 := hide hst2
  clear ho hb2 hst2
  go_wp2_with fail
  refine (s_fby A1 n1 c1 X s _ Hacc2.out Hsm.out hn1).mono ?_
  intro e w3 ho
  obtain ⟨A3, n3, c3, rfl, hnc3, hst3, hb3⟩ := own1_strs ho
  have Hacc3 := hide (Hacc2.out.on hb3)
  have Hst23 := hide (Hst2.out.on hb3)
  have Hst3 := hide hst3
  have Hb13 := hide (Hb1.out.trans ((Hb2.out.mono Hb1.out.size).trans (hb3.mono (Nat.le_trans Hb1.out.size Hb2.out.size))))
  have hfl := hide (byM_6 X s)
  have hn2 : n2 ≤ 6 := by have h1 := hfl.out; have h2 := Hst23.out.1; omega
  have hn3 : n3 ≤ 6 := by have h1 := hfl.out; have h2 := Hst3.out.1; omega
  have hn2m : n2 ≤ maxLen := by unfold maxLen; omega
  have hn3m : n3 ≤ maxLen := by unfold maxLen; omega
  clear ho hb3 hst3
  go_wp2_with fail
  refine (l_same_t A2 n2 c2 A3 n3 c3 _ _ Hst23.out Hst3.out hn2m hn3m).mono ?_
  rintro e w4 ⟨rfl, q4, rfl⟩
  have Hacc4 : Hid (Accs (w3.drewN q4) (w3.drewN q4).heap.size A1 n1 X) := Hacc3.out.drewN q4
  have HS4 : Hid (Strs (w3.drewN q4) (w3.drewN q4).heap.size A2 n2 (byM X s) ∧ Strs (w3.drewN q4) (w3.drewN q4).heap.size A3 n3 (byM X s)) := ⟨Hst23.out.drewN q4, Hst3.out.drewN q4⟩
  have Hb4 := hide (below_drewN Hb13.out q4)
  generalize w3.drewN q4 = w4 at *
  go_wp2_with fail
  refine (s_As A1 n1 c1 X _ Hacc4.out Hsm.out hn1).mono ?_
  rintro e w5 ⟨rfl, hb5⟩
  have Hb5 := hide (Hb4.out.trans (hb5.mono Hb4.out.size))
  have Hacc5 := hide (Hacc4.out.on hb5)
  have HS5 : Hid (Strs w5 w5.heap.size A2 n2 (byM X s) ∧ Strs w5 w5.heap.size A3 n3 (byM X s)) := ⟨HS4.out.1.on hb5, HS4.out.2.on hb5⟩
  clear hb5 Hst23 Hst3 Hacc3 Hacc2 Hst2
  cases hv : asB X
  · clear hv
    go_wp2_with fail
    refine (l_same_t A2 n2 c2 A3 n3 c3 _ _ HS5.out.1 HS5.out.2 hn2m hn3m).mono ?_
    rintro e w6 ⟨rfl, q6, rfl⟩
    go_wp2_with fail
    go_ret
    exact ⟨rfl, below_drewN Hb5.out _⟩
  have Hv := hide hv
  have HM := hide (byM_t (s := s) hv)
  have hB6 := hide HS5.out.1
  have hbl : Hid ((byM X s).length = n2) := hB6.out.1
  clear hv
  go_wp2_with fail
  go_loopw [7, 8] (fun c i wr => ∃ k m : Nat, k ≤ n1 ∧ i = .int .i64 k ∧ c = .int .i64 m ∧ Hid (m = (byF (X.take k) s).length) ∧ Hid (Below w5.heap.size w5 wr)) (fun _ i _ => n1 - (intOf i).toNat)
  case atStart => exact ⟨0, 0, Nat.zero_le _, rfl, rfl, by simp [Hid, byF], Below.refl _ _⟩
  case round =>
    obtain ⟨k, m, hk, rfl, rfl, hm, hbr⟩ := hrel
    by_cases hlt : k < n1
    · obtain ⟨a, ha⟩ : ∃ a, X[k]? = some a := ⟨X[k]'(by have := hl.out; omega), List.getElem?_eq_getElem _⟩
      have HXr := hide (Hacc5.out.on hbr.out)
      obtain ⟨g, off, A', n', c', rfl, hg, hc0, hc1, hn', hm', hf⟩ := HXr.out.at' ha
      have hsa := (Hsm.out a (List.mem_of_getElem? ha)).1
      have hfa := hide ((folM_t (s := a.1) Hv.out).trans (fol_at (asB_asc Hv.out) ha))
      have hbt := hide (byF_take s ha)
      have Ha := hide ha
      have hg5 : g < w5.heap.size := by
        obtain ⟨g', off', A2, n2, c2, e1, hg', _⟩ := Hacc5.out.at' ha
        injection e1 with e1
        injection e1 with e1 _
        rw [e1]; exact hg'
      clear hf hc1 ha
      go_wp2_with fail
      refine (i_fof (some ⟨g, off, none⟩) n1 c1 X a.1 _ HXr.out Hsm.out hn1 hsa).mono ?_
      intro e w6 ho
      obtain ⟨A6, n6, c6, rfl, hnc6, hst6, hb6⟩ := own1_strs ho
      rw [hfa.out] at hst6
      have HS6 := hide hst6
      have hn6 : n6 ≤ maxLen := by have h1 := hst6.1; have h2 := folM_len X a.1; rw [hfa.out] at h2; unfold maxLen; omega
      have Hb6 := hide (hbr.out.trans (hb6.mono hbr.out.size))
      have hc06 : w6.cell? ⟨g, off + k * 2, none⟩ = some (.string a.1) := (hb6.cell (p := ⟨g, off + k * 2, none⟩) (by have := hbr.out.size; omega)).trans hc0
      clear ho hst6 hb6 hbr hc0
      go_wp2_with fail
      refine (l_has A6 n6 c6 a.2 s _ HS6.out hn6).mono ?_
      rintro e w7 ⟨rfl, rfl⟩
      cases hms : memB a.2 s
      · have H : Hid (m = (byF (X.take (k + 1)) s).length) := by
          show _ = _
          rw [hbt.out, hms, hm.out]; simp
        clear hms hbt
        go_wp2_with fail
        go_roundw
        case rel => exact ⟨k + 1, m, by omega, by go_num, rfl, H, Hb6⟩
        case measure => simp [intOf]; omega
      · have H : Hid (m + 1 = (byF (X.take (k + 1)) s).length) := by
          show _ = _
          rw [hbt.out, hms, hm.out]; simp
        have hat := byF_at s Ha.out hms
        rw [← hm.out, ← HM.out] at hat
        have hml : m < n2 := by have h1 := (List.getElem?_eq_some_iff.1 hat).1; have h2 := hbl.out; omega
        have hst := (hB6.out.below Hb6.out)
        obtain ⟨g2, off2, e2, hg2, hcc⟩ := hst.2 (by omega)
        subst e2
        have hcm := hcc m _ hat
        have hmi : (m : Int) < (n2 : Int) := by omega
        clear hms hbt hat hst hcc
        go_wp2_with fail
        go_quiet (fail)
        go_wp2_with fail
        go_roundw
        case rel => exact ⟨k + 1, m + 1, by omega, by go_num, by go_num, H, below_drewN Hb6.out _⟩
        case measure => simp [intOf]; omega
    · have H : Hid (((m : Int) == (n2 : Int)) = true) := by
        have h1 := hm.out
        rw [List.take_of_length_le (by have := hl.out; omega), ← HM.out, hbl.out] at h1
        show _ = true
        rw [beq_iff_eq]; omega
      have H' := H.out
      go_wp2_with fail
      go_ret
      exact ⟨rfl, Hb5.out.trans (hbr.out.mono Hb5.out.size)⟩
end Go.Proofs.Ytokaadgakomecaa
