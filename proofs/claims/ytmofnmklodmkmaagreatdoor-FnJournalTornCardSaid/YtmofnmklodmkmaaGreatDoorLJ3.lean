/- Walks of FnJournal, FnJournalTorn, FnJournalBegin. -/
import Derived.Test.YtmofnmklodmkmaaGreatDoorLJ2
import Derived.Test.YtmofnmklodmkmaaGreatDoorSameR
set_option linter.unusedVariables false
set_option linter.unusedSimpArgs false
namespace Go.Proofs.YtmofnmklodmkmaaGreatDoor
open Go.RowKit Go.BigFrame

set_option maxHeartbeats 1000000 in
set_option maxRecDepth 100000 in
theorem FnJournal_walk (w : World) (A : Option Addr) (n c : Nat) (hc : Code w w.heap.size A n) (hnc : n ≤ c) (hm : n ≤ maxLen) (hV : Jw w) :
    Calls Tryz.prog 3 #[.slice A n c] w fun e w' => e = .returned (.bool true) ∧ Below w.heap.size w w' := by
  have HVw := hide hV
  clear hV
  by_cases h : 1048576 < n
  · unfold maxLen at hm
    go_enter Tryz.func3, Tryz.ntmps3
    go_wp2
    go_ret
    exact ⟨rfl, Below.refl _ _⟩
  go_enter Tryz.func3, Tryz.ntmps3
  go_wp2_with fail
  refine (d_JournalText A n c w hc hnc (by omega)).mono ?_
  rintro e w1 ⟨v, X, rfl, hO, hX6, hS, hb1⟩
  obtain ⟨A1, n1, c1, rfl, hl1, hnc1, hc1m, hR⟩ := hO.rcs
  have HR1 := hide hR
  have HS := hide hS.small
  have Hb1 := hide hb1
  have hz1 : w.heap.size ≤ w1.heap.size := hb1.size
  have HL := hide hl1
  have hn6 : n1 ≤ 6 := by omega
  have hn1 : n1 ≤ maxLen := by unfold maxLen; omega
  clear hc hb1 hO hR hS hl1 hX6 hc1m
  go_wp2_with fail
  refine (i_JT A1 n1 c1 X _ HR1.out HS.out hn1 (HVw.out.on Hb1.out).tw).mono ?_
  rintro e w2 ⟨rfl, hb2⟩
  have HR2 := hide (HR1.out.on hb2)
  have Hb2 := hide (Hb1.out.trans (hb2.mono hz1))
  have hz2 : w1.heap.size ≤ w2.heap.size := hb2.size
  clear hb2
  go_wp2_with fail
  refine (s_JT A1 n1 c1 X _ HR2.out HS.out hn1).mono ?_
  rintro e w3 ⟨rfl, hb3⟩
  have HR3 := hide (HR2.out.on hb3)
  have Hb3 := hide (Hb2.out.trans (hb3.mono (by omega)))
  have hz3 : w2.heap.size ≤ w3.heap.size := hb3.size
  clear hb3
  have htl : (tb (jl X)).data.toList = jl X := tb_data _
  have hTs : (tb (jl X)).size ≤ 1230 := jl_size (by have := HL.out; omega)
  obtain ⟨T, hT⟩ : ∃ T, tb (jl X) = T := ⟨_, rfl⟩
  rw [hT] at htl hTs ⊢
  have HTL := hide htl
  clear hT htl
  go_wp2_with fail
  go_loopw [6] (fun i wr => ∃ k : Nat, k ≤ n1 ∧ i = .int .i64 k ∧ Hid (Below w3.heap.size w3 wr) ∧ Hid (∀ a ∈ X.take k, reB a = true)) (fun i _ => n1 - (intOf i).toNat)
  case atStart => exact ⟨0, Nat.zero_le _, rfl, Below.refl _ _, fun a h => by simp at h⟩
  case round =>
    obtain ⟨k, hk, rfl, hbr, hall⟩ := hrel
    rename_i wr
    by_cases hlt : k < n1
    · obtain ⟨a, ha⟩ : ∃ a, X[k]? = some a := ⟨X[k]'(by have := HL.out; omega), List.getElem?_eq_getElem _⟩
      have hsm := HS.out a (List.mem_of_getElem? ha)
      obtain ⟨g, off, rfl, hg, q0, q1, q2, q3, q4⟩ := (HR3.out.below hbr.out).at' ha
      have hts : X.take (k + 1) = X.take k ++ [a] := by rw [List.take_add_one, ha]; rfl
      have Ha := hide ha
      have Hts := hide hts
      obtain ⟨r1, r2, r3, r4, r5⟩ := a
      have HSM := hide hsm
      clear ha hts hsm
      go_wp2_with fail
      refine (i_RV r1 r2 r3 r4 r5 _ HSM.out.1 HSM.out.2).mono ?_
      rintro e w4 ⟨rfl, hb4⟩
      have Hb4 := hide (hbr.out.trans (hb4.mono hbr.out.size))
      clear hb4
      cases hv : reB (r1, r2, r3, r4, r5)
      · have hj : jB X = false := by
          cases hj : jB X
          · rfl
          · have := (jB_iff.1 hj).1 _ (List.mem_of_getElem? Ha.out)
            rw [hv] at this
            cases this
        have q5 : T.toList.isEmpty = true := by
          rw [emB_eq]
          unfold emB
          rw [HTL.out, jl_f hj]
          rfl
        clear hv hj
        go_wp2_with fail
        go_ret
        exact ⟨rfl, Hb3.out.trans (Hb4.out.mono (by omega))⟩
      · have H : Hid (∀ a ∈ X.take (k + 1), reB a = true) := by
          intro a h
          rw [Hts.out, List.mem_append] at h
          rcases h with h | h
          · exact hall.out a h
          · rw [List.mem_singleton.1 h]; exact hv
        clear hv
        go_wp2_with fail
        go_roundw
        case rel => exact ⟨k + 1, by omega, by go_num, Hb4.out, H⟩
        case measure => simp [intOf]; omega
    · have hjB : jB X = true := by
        have h := hall.out
        rw [List.take_of_length_le (by have := HL.out; omega)] at h
        exact jB_iff.2 ⟨h, by have := HL.out; omega⟩
      have hjf : jf T.data.toList = (X, T.size, jFine) := by
        rw [HTL.out, jf_jl hjB, ← HTL.out]
        simp
      have HJF := hide hjf
      have HR4 := hide (HR3.out.on hbr.out)
      have Hb4 := hide (Hb3.out.trans (hbr.out.mono (by omega)))
      have hz4 : w3.heap.size ≤ wr.heap.size := hbr.out.size
      clear hjB hjf
      go_wp2_with fail
      refine (i_JF T _ (by omega) (HVw.out.on Hb4.out)).mono ?_
      rintro e w5 ⟨v2, X2, m2, why, rfl, hj, hO2, hb5⟩
      rw [HJF.out] at hj
      injection hj with e1 e2
      injection e2 with e2 e3
      subst e1 e2 e3
      obtain ⟨A2, n2, c2, rfl, _, _, _, hR5⟩ := hO2.rcs
      have HA5 := hide hR5
      have HB5 := hide (HR4.out.on hb5)
      have Hb5 := hide (Hb4.out.trans (hb5.mono (by omega)))
      have hz5 : wr.heap.size ≤ w5.heap.size := hb5.size
      have hn2 : n2 ≤ maxLen := by have h1 := hR5.1; have h2 := HL.out; omega
      rw [show jFine = 0 from rfl]
      clear hb5 hO2 hR5
      go_wp2_with fail
      refine (l_sameR _ HA5.out HB5.out hn2).mono ?_
      rintro e w6 ⟨rfl, hb6⟩
      have Hb6 := hide (Hb5.out.trans (hb6.mono (by omega)))
      clear hb6
      go_wp2_with fail
      go_ret
      exact ⟨rfl, Hb6.out⟩

set_option maxHeartbeats 1000000 in
set_option maxRecDepth 100000 in
theorem FnJournalTorn_walk (w : World) (A : Option Addr) (n c : Nat) (hc : Code w w.heap.size A n) (hnc : n ≤ c) (hm : n ≤ maxLen) (hV : Jw w) :
    Calls Tryz.prog 4 #[.slice A n c] w fun e w' => e = .returned (.bool true) ∧ Below w.heap.size w w' := by
  have HVw := hide hV
  clear hV
  by_cases h : 1048576 < n
  · unfold maxLen at hm
    go_enter Tryz.func4, Tryz.ntmps4
    go_wp2
    go_ret
    exact ⟨rfl, Below.refl _ _⟩
  go_enter Tryz.func4, Tryz.ntmps4
  go_wp2_with fail
  refine (d_JournalText A n c w hc hnc (by omega)).mono ?_
  rintro e w1 ⟨v, X, rfl, hO, hX6, hS, hb1⟩
  obtain ⟨A1, n1, c1, rfl, hl1, hnc1, hc1m, hR⟩ := hO.rcs
  have HR1 := hide hR
  have HS := hide hS.small
  have Hb1 := hide hb1
  have hz1 : w.heap.size ≤ w1.heap.size := hb1.size
  have HL := hide hl1
  have hn6 : n1 ≤ 6 := by omega
  have hn1 : n1 ≤ maxLen := by unfold maxLen; omega
  clear hc hb1 hO hR hS hl1 hX6 hc1m
  go_wp2_with fail
  refine (i_JT A1 n1 c1 X _ HR1.out HS.out hn1 (HVw.out.on Hb1.out).tw).mono ?_
  rintro e w2 ⟨rfl, hb2⟩
  have HR2 := hide (HR1.out.on hb2)
  have Hb2 := hide (Hb1.out.trans (hb2.mono hz1))
  have hz2 : w1.heap.size ≤ w2.heap.size := hb2.size
  clear hb2
  go_wp2_with fail
  refine (s_JT A1 n1 c1 X _ HR2.out HS.out hn1).mono ?_
  rintro e w3 ⟨rfl, hb3⟩
  have HR3 := hide (HR2.out.on hb3)
  have Hb3 := hide (Hb2.out.trans (hb3.mono (by omega)))
  have hz3 : w2.heap.size ≤ w3.heap.size := hb3.size
  clear hb3
  have htl : (tb (jl X)).data.toList = jl X := tb_data _
  have hTs : (tb (jl X)).size ≤ 1230 := jl_size (by have := HL.out; omega)
  obtain ⟨T, hT⟩ : ∃ T, tb (jl X) = T := ⟨_, rfl⟩
  rw [hT] at htl hTs ⊢
  have HTL := hide htl
  clear hT htl
  cases he : emB T
  rotate_left
  · have q0 : T.toList.isEmpty = true := by rw [emB_eq]; exact he
    clear he
    go_wp2_with fail
    go_ret
    exact ⟨rfl, Hb3.out⟩
  have q0 : T.toList.isEmpty = false := by rw [emB_eq]; exact he
  have HNE : Hid (jl X ≠ []) := by
    show _ ≠ _
    rw [← HTL.out]
    intro h
    unfold emB at he
    rw [h] at he
    cases he
  have hT1 : 1 ≤ T.size := by
    rcases Nat.eq_zero_or_pos T.size with h0 | h0
    · exact absurd (List.eq_nil_of_length_eq_zero (l := T.data.toList) (by simpa using h0)) (by rw [HTL.out]; exact HNE.out)
    · exact h0
  clear he
  have hw : IntKind.i64.wrap ((T.size : Int) - 1) = (T.size : Int) - 1 := IntWalk.i64_in _ (by omega)
  have ha : (0 : Int) ≤ (T.size : Int) - 1 := by omega
  have hb : (T.size : Int) - 1 ≤ (T.size : Int) := by omega
  have hX1 : 1 ≤ n1 := by
    have h := (jl_ne HNE.out).2
    have := HL.out
    rcases Nat.eq_zero_or_pos n1 with h0 | h0
    · exact absurd (List.eq_nil_of_length_eq_zero (by omega)) h
    · exact h0
  obtain ⟨m, hm⟩ := jf_torn HNE.out
  go_wp2_with fail
  have hjf : jf (T.extract 0 (T.size - 1)).data.toList = (X.take (n1 - 1), m, jTorn) := by
    have hl := HL.out
    rw [ext_tb, tb_data, List.drop_zero, HTL.out, ← hl, ← hm, List.dropLast_eq_take]
    congr 2
    rw [← HTL.out]; simp
  have HJF := hide hjf
  have hsz : (T.extract 0 (T.size - 1)).size ≤ 1048576 := by simp [ByteArray.size_extract]; omega
  clear hjf hm hw ha hb
  refine (i_JF _ _ hsz (HVw.out.on Hb3.out)).mono ?_
  rintro e w5 ⟨v2, X2, m2, why, rfl, hj, hO2, hb5⟩
  rw [HJF.out] at hj
  injection hj with e1 e2
  injection e2 with e2 e3
  subst e1 e2 e3
  obtain ⟨A2, n2, c2, rfl, _, _, _, hR5⟩ := hO2.rcs
  obtain ⟨E, hrun, hrd⟩ := rcs_to A1 n1 c1 (n1 - 1) (by omega) hnc1
  have HA5 := hide hR5
  have HB5 := hide (hrd _ _ _ (HR3.out.on hb5))
  have Hb5 := hide (Hb3.out.trans (hb5.mono (by omega)))
  have hz5 : w3.heap.size ≤ w5.heap.size := hb5.size
  have hn2 : n2 ≤ maxLen := by have h1 := hR5.1; rw [List.length_take] at h1; have h2 := HL.out; unfold maxLen; omega
  have hw1 : IntKind.i64.wrap ((n1 : Int) - 1) = ((n1 - 1 : Nat) : Int) := by rw [IntWalk.i64_in _ (by omega)]; omega
  rw [show jTorn = 1 from rfl]
  clear hb5 hO2 hR5 hrd hsz
  go_wp2_with fail
  refine (l_sameR _ HA5.out HB5.out hn2).mono ?_
  rintro e w6 ⟨rfl, hb6⟩
  have Hb6 := hide (Hb5.out.trans (hb6.mono (by omega)))
  clear hb6
  go_wp2_with fail
  go_ret
  exact ⟨rfl, Hb6.out⟩

set_option maxHeartbeats 1000000 in
set_option maxRecDepth 100000 in
theorem FnJournalBegin_walk (w : World) (A : Option Addr) (n c : Nat) (hc : Code w w.heap.size A n) (hnc : n ≤ c) (hm : n ≤ maxLen) (A0 : Option Addr) (n0 c0 : Nat) (hc0 : Code w w.heap.size A0 n0) (hnc0 : n0 ≤ c0) (hm0 : n0 ≤ maxLen) (hV : Jw w) :
    Calls Tryz.prog 5 #[.slice A n c, .slice A0 n0 c0] w fun e w' => e = .returned (.bool true) ∧ Below w.heap.size w w' := by
  have HVw := hide hV
  clear hV
  by_cases h : 1048576 < n
  · unfold maxLen at hm hm0
    go_enter Tryz.func5, Tryz.ntmps5
    go_wp2
    go_ret
    exact ⟨rfl, Below.refl _ _⟩
  by_cases h0 : 1048576 < n0
  · unfold maxLen at hm hm0
    go_enter Tryz.func5, Tryz.ntmps5
    go_wp2
    go_ret
    exact ⟨rfl, Below.refl _ _⟩
  go_enter Tryz.func5, Tryz.ntmps5
  go_wp2_with fail
  refine (d_JournalText A n c w hc hnc (by omega)).mono ?_
  rintro e w1 ⟨v, X, rfl, hO, hX6, hS, hb1⟩
  obtain ⟨A1, n1, c1, rfl, hl1, hnc1, hc1m, hR⟩ := hO.rcs
  have HR1 := hide hR
  have HS := hide hS.small
  have Hb1 := hide hb1
  have hz1 : w.heap.size ≤ w1.heap.size := hb1.size
  have HL := hide hl1
  have hn6 : n1 ≤ 6 := by omega
  have hn1 : n1 ≤ maxLen := by unfold maxLen; omega
  clear hc hb1 hO hR hS hl1 hX6 hc1m
  go_wp2_with fail
  refine (i_JT A1 n1 c1 X _ HR1.out HS.out hn1 (HVw.out.on Hb1.out).tw).mono ?_
  rintro e w2 ⟨rfl, hb2⟩
  have HR2 := hide (HR1.out.on hb2)
  have Hb2 := hide (Hb1.out.trans (hb2.mono hz1))
  have hz2 : w1.heap.size ≤ w2.heap.size := hb2.size
  clear hb2
  go_wp2_with fail
  refine (s_JT A1 n1 c1 X _ HR2.out HS.out hn1).mono ?_
  rintro e w3 ⟨rfl, hb3⟩
  have HR3 := hide (HR2.out.on hb3)
  have Hb3 := hide (Hb2.out.trans (hb3.mono (by omega)))
  have hz3 : w2.heap.size ≤ w3.heap.size := hb3.size
  clear hb3
  have htl : (tb (jl X)).data.toList = jl X := tb_data _
  have hTs : (tb (jl X)).size ≤ 1230 := jl_size (by have := HL.out; omega)
  obtain ⟨T, hT⟩ : ∃ T, tb (jl X) = T := ⟨_, rfl⟩
  rw [hT] at htl hTs ⊢
  have HTL := hide htl
  clear hT htl
  cases he : emB T
  rotate_left
  · have q0 : T.toList.isEmpty = true := by rw [emB_eq]; exact he
    clear he
    go_wp2_with fail
    go_ret
    exact ⟨rfl, Hb3.out⟩
  have q0 : T.toList.isEmpty = false := by rw [emB_eq]; exact he
  have HNE : Hid (jl X ≠ []) := by
    show _ ≠ _
    rw [← HTL.out]
    intro h
    unfold emB at he
    rw [h] at he
    cases he
  have hT1 : 1 ≤ T.size := by
    rcases Nat.eq_zero_or_pos T.size with h0 | h0
    · exact absurd (List.eq_nil_of_length_eq_zero (l := T.data.toList) (by simpa using h0)) (by rw [HTL.out]; exact HNE.out)
    · exact h0
  clear he
  have hT0 : (0 : Int) < (T.size : Int) := by omega
  obtain ⟨k, hk, hk1⟩ : ∃ k : Nat, (n0 : Int) % (T.size : Int) = (k : Int) ∧ k < T.size := ⟨n0 % T.size, by simp, Nat.mod_lt _ hT1⟩
  have hk0 : (0 : Int) ≤ (k : Int) := by omega
  have hk2 : (k : Int) ≤ (T.size : Int) := by omega
  obtain ⟨j, m, why, hm, hj1, hy⟩ := jf_begin HNE.out (k := k) (by rw [← HTL.out]; simpa using hk1)
  go_wp2_with fail
  have hjf : jf (T.extract 0 k).data.toList = (X.take j, m, why) := by
    rw [ext_tb, tb_data, List.drop_zero, HTL.out]
    exact hm
  have HJF := hide hjf
  have HY := hide hy
  have hsz : (T.extract 0 k).size ≤ 1048576 := by simp [ByteArray.size_extract]; omega
  have hjn : j < n1 := by have := HL.out; omega
  clear hjf hm hk hy hj1
  refine (i_JF _ _ hsz (HVw.out.on Hb3.out)).mono ?_
  rintro e w5 ⟨v2, X2, m2, why2, rfl, hj, hO2, hb5⟩
  rw [HJF.out] at hj
  injection hj with e1 e2
  injection e2 with e2 e3
  subst e1 e2 e3
  obtain ⟨A2, n2, c2, rfl, hl2, _, _, hR5⟩ := hO2.rcs
  have hn2j : n2 = j := by rw [List.length_take] at hl2; have := HL.out; omega
  subst hn2j
  obtain ⟨E, hrun, hrd⟩ := rcs_to A1 n1 c1 n2 (by omega) hnc1
  have HA5 := hide hR5
  have HB5 := hide (hrd _ _ _ (HR3.out.on hb5))
  have Hb5 := hide (Hb3.out.trans (hb5.mono (by omega)))
  have hz5 : w3.heap.size ≤ w5.heap.size := hb5.size
  have hn2 : n2 ≤ maxLen := by unfold maxLen; omega
  have hy2 : ¬ why = 2 := HY.out
  have hy6 : Hid ((why != 2) = true) := by show _ = _; simpa using hy2
  have hy3 : (n2 : Int) < (n1 : Int) := by omega
  clear hb5 hO2 hR5 hrd hsz hl2
  go_wp2_with fail
  refine (l_sameR _ HA5.out HB5.out hn2).mono ?_
  rintro e w6 ⟨rfl, hb6⟩
  have Hb6 := hide (Hb5.out.trans (hb6.mono (by omega)))
  clear hb6
  go_wp2_with fail
  go_ret
  exact ⟨(congrArg (fun b => Ending.returned (.bool b)) hy6.out : Ending.returned (.bool (why != 2)) = _), Hb6.out⟩
end Go.Proofs.YtmofnmklodmkmaaGreatDoor
