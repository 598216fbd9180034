/- Walks of FnRecordPart, FnRecordPlace, FnRecordWords. -/
import Derived.Test.YtiejbliadegcdaaDoorDrR3
import Derived.Test.YtiejbliadegcdaaDoorIrb
set_option linter.unusedVariables false
set_option linter.unusedSimpArgs false
namespace Go.Proofs.YtiejbliadegcdaaDoor
open Go.RowKit Go.BigFrame

set_option maxHeartbeats 1000000 in
set_option maxRecDepth 100000 in
theorem FnRecordPlace_walk (w : World) (A : Option Addr) (n c : Nat) (hc : Code w w.heap.size A n) (hnc : n ≤ c) (hm : n ≤ maxLen) (hV : Tw w) :
    Calls Tryd.prog 7 #[.slice A n c] w fun e w' => e = .returned (.bool true) ∧ Below w.heap.size w w' := by
  have HVw := hide hV
  clear hV
  by_cases h : 1048576 < n
  · unfold maxLen at hm
    go_enter Tryd.func7, Tryd.ntmps7
    go_wp2
    go_ret
    exact ⟨rfl, Below.refl _ _⟩
  go_enter Tryd.func7, Tryd.ntmps7
  go_wp2_with fail
  refine (d_RecordText A n c w hc hnc (by omega)).mono ?_
  rintro e w1 ⟨p, k, i, d, s, t, rfl, hp1, hp2, hD, hb1⟩
  have HS : Hid (s.size ≤ maxLen) := by have := hD.s9; show s.size ≤ maxLen; unfold maxLen; omega
  have HT : Hid (t.size ≤ maxLen) := by have := hD.t9; show t.size ≤ maxLen; unfold maxLen; omega
  have HX1 := hide (Blk.new w1 24 #[.int .i64 k, .int .i64 i, .int .i64 d, .string s, .string t])
  have Hb1 := hide (hb1.alloc hb1.size (rC k i d s t))
  have hz1 : w.heap.size ≤ w1.heap.size := hb1.size
  obtain ⟨⟨l0, l1, l2, l3, l4⟩, _⟩ := HX1.out.cells5
  clear hc hb1
  go_wp2_with fail
  refine (i_RT p k i d s t _ HS.out HT.out (HVw.out.on Hb1.out) ).mono ?_
  rintro e w2 ⟨rfl, hb2⟩
  have HX2 := hide (HX1.out.below hb2 (by simp))
  have Hb2 := hide (Hb1.out.trans (hb2.mono (by simp; omega)))
  have hz2 : w1.heap.size + 1 ≤ w2.heap.size := by have h := hb2.size; simpa using h
  clear hb2 l0 l1 l2 l3 l4
  obtain ⟨⟨l0, l1, l2, l3, l4⟩, _⟩ := HX2.out.cells5
  go_wp2_with fail
  refine (s_RT p k i d s t _ HS.out HT.out).mono ?_
  rintro e w3 ⟨rfl, hb3⟩
  have HX3 := hide (HX2.out.below hb3 (by omega))
  have Hb3 := hide (Hb2.out.trans (hb3.mono (by omega)))
  have hz3 : w2.heap.size ≤ w3.heap.size := hb3.size
  clear hb3 l0 l1 l2 l3 l4
  have htl : (rtxt p (k, i, d, s, t)).data.toList = textL p (k, i, d, s, t) := tb_data _
  have hT40 := rtxt_size p (k, i, d, s, t)
  obtain ⟨T, hT⟩ : ∃ T, rtxt p (k, i, d, s, t) = T := ⟨_, rfl⟩
  rw [hT] at htl hT40 ⊢
  have HTL := hide htl
  clear hT htl
  cases he : emB T
  rotate_left
  · have q0 : T.toList.isEmpty = true := by rw [emB_eq]; exact he
    clear he
    go_wp2_with fail
    go_ret
    exact ⟨rfl, Hb3.out⟩
  have q0 : T.toList.isEmpty = false := by rw [emB_eq]; exact he
  have hne : textL p (k, i, d, s, t) ≠ [] := by
    rw [← HTL.out]
    intro h
    unfold emB at he
    rw [h] at he
    cases he
  have HNE := hide hne
  clear he hne
  obtain ⟨⟨l0, l1, l2, l3, l4⟩, _⟩ := HX3.out.cells5
  have hw : IntKind.i64.wrap (p + 1) = p + 1 := IntWalk.i64_in _ (by omega)
  go_wp2_with fail
  refine (i_RT (p + 1) k i d s t _ HS.out HT.out (HVw.out.on Hb3.out)).mono ?_
  rintro e w4 ⟨rfl, hb4⟩
  have hq : ¬ rtxt (p + 1) (k, i, d, s, t) = T := fun h => by
    refine text_place HNE.out ?_
    rw [← HTL.out, ← h]
    exact (tb_data _).symm
  generalize rtxt (p + 1) (k, i, d, s, t) = U at *
  have q1 : (U.toList == T.toList) = false := by rw [beq_str]; simpa using hq
  have hre : reB (k, i, d, s, t) = true := (textL_ne HNE.out).2.1
  have HRE := hide hre
  have HX4 := hide (HX3.out.below hb4 (by omega))
  have Hb4 := hide (Hb3.out.trans (hb4.mono (by omega)))
  have hz4 : w3.heap.size ≤ w4.heap.size := hb4.size
  clear hb4 l0 l1 l2 l3 l4 hq hre
  obtain ⟨⟨l0, l1, l2, l3, l4⟩, _⟩ := HX4.out.cells5
  go_wp2_with fail
  refine (i_RV k i d s t _ HS.out HT.out).mono ?_
  rintro e w5 ⟨rfl, hb5⟩
  rw [HRE.out]
  have Hb5 := hide (Hb4.out.trans (hb5.mono (by omega)))
  clear hb5
  go_wp2_with fail
  go_ret
  exact ⟨rfl, Hb5.out⟩

set_option maxHeartbeats 1000000 in
set_option maxRecDepth 100000 in
theorem FnRecordWords_walk (w : World) (A : Option Addr) (n c : Nat) (hc : Code w w.heap.size A n) (hnc : n ≤ c) (hm : n ≤ maxLen) (hV : Tw w) :
    Calls Tryd.prog 8 #[.slice A n c] w fun e w' => e = .returned (.bool true) ∧ Below w.heap.size w w' := by
  have HVw := hide hV
  clear hV
  by_cases h : 1048576 < n
  · unfold maxLen at hm
    go_enter Tryd.func8, Tryd.ntmps8
    go_wp2
    go_ret
    exact ⟨rfl, Below.refl _ _⟩
  go_enter Tryd.func8, Tryd.ntmps8
  go_wp2_with fail
  refine (d_RecordText A n c w hc hnc (by omega)).mono ?_
  rintro e w1 ⟨p, k, i, d, s, t, rfl, hp1, hp2, hD, hb1⟩
  have HS : Hid (s.size ≤ maxLen) := by have := hD.s9; show s.size ≤ maxLen; unfold maxLen; omega
  have HT : Hid (t.size ≤ maxLen) := by have := hD.t9; show t.size ≤ maxLen; unfold maxLen; omega
  have HX1 := hide (Blk.new w1 24 #[.int .i64 k, .int .i64 i, .int .i64 d, .string s, .string t])
  have Hb1 := hide (hb1.alloc hb1.size (rC k i d s t))
  have hz1 : w.heap.size ≤ w1.heap.size := hb1.size
  obtain ⟨⟨l0, l1, l2, l3, l4⟩, _⟩ := HX1.out.cells5
  clear hc hb1
  go_wp2_with fail
  refine (i_RT p k i d s t _ HS.out HT.out (HVw.out.on Hb1.out) ).mono ?_
  rintro e w2 ⟨rfl, hb2⟩
  have HX2 := hide (HX1.out.below hb2 (by simp))
  have Hb2 := hide (Hb1.out.trans (hb2.mono (by simp; omega)))
  have hz2 : w1.heap.size + 1 ≤ w2.heap.size := by have h := hb2.size; simpa using h
  clear hb2 l0 l1 l2 l3 l4
  obtain ⟨⟨l0, l1, l2, l3, l4⟩, _⟩ := HX2.out.cells5
  go_wp2_with fail
  refine (s_RT p k i d s t _ HS.out HT.out).mono ?_
  rintro e w3 ⟨rfl, hb3⟩
  have HX3 := hide (HX2.out.below hb3 (by omega))
  have Hb3 := hide (Hb2.out.trans (hb3.mono (by omega)))
  have hz3 : w2.heap.size ≤ w3.heap.size := hb3.size
  clear hb3 l0 l1 l2 l3 l4
  have htl : (rtxt p (k, i, d, s, t)).data.toList = textL p (k, i, d, s, t) := tb_data _
  have hT40 := rtxt_size p (k, i, d, s, t)
  obtain ⟨T, hT⟩ : ∃ T, rtxt p (k, i, d, s, t) = T := ⟨_, rfl⟩
  rw [hT] at htl hT40 ⊢
  have HTL := hide htl
  clear hT htl
  cases he : emB T
  rotate_left
  · have q0 : T.toList.isEmpty = true := by rw [emB_eq]; exact he
    clear he
    go_wp2_with fail
    go_ret
    exact ⟨rfl, Hb3.out⟩
  have q0 : T.toList.isEmpty = false := by rw [emB_eq]; exact he
  have hne : textL p (k, i, d, s, t) ≠ [] := by
    rw [← HTL.out]
    intro h
    unfold emB at he
    rw [h] at he
    cases he
  have HNE := hide hne
  clear he hne
  have hcn : T.data.toList.count 32 = 4 := by rw [HTL.out]; exact (ln_of HNE.out).four
  have HC := hide hcn
  clear hcn
  go_wp2_with fail
  go_loop [7, 8] (fun u v => ∃ (k m : Nat), k ≤ T.size ∧ m ≤ k ∧ v = .int .i64 k ∧ u = .int .i64 m ∧ Hid ((T.data.toList.take k).count 32 = m)) (fun _ v => T.size - (intOf v).toNat)
  case atStart => exact ⟨0, 0, Nat.zero_le _, Nat.le_refl _, rfl, rfl, rfl⟩
  case round =>
    obtain ⟨k, m, hk, hm, rfl, rfl, hct⟩ := hrel
    by_cases hlt : k < T.size
    · have hts := hide (take_snoc T k hlt)
      by_cases hc : T[k] = 32
      · have H : Hid ((T.data.toList.take (k + 1)).count 32 = m + 1) := by
          show _ = _
          rw [hts.out, List.count_append, hct.out, hc]
          rfl
        have q1 : T[k].toNat = 32 := by rw [hc]; rfl
        clear hc
        go_wp2_with fail
        go_round
        case rel => exact ⟨k + 1, m + 1, by omega, by omega, by go_num, by go_num, H⟩
        case measure => simp [intOf]; omega
      · have H : Hid ((T.data.toList.take (k + 1)).count 32 = m) := by
          show _ = _
          rw [hts.out, List.count_append, hct.out]
          have : [T[k]].count 32 = 0 := List.count_eq_zero.2 (by simp; exact fun h => hc h.symm)
          omega
        have q1 : ¬ T[k].toNat = 32 := fun h => hc (UInt8.toNat_inj.1 h)
        clear hc
        go_wp2_with fail
        go_round
        case rel => exact ⟨k + 1, m, by omega, by omega, by go_num, rfl, H⟩
        case measure => simp [intOf]; omega
    · have hm4 : m = 4 := by
        have h := hct.out
        rw [List.take_of_length_le (by simp; omega), HC.out] at h
        exact h.symm
      subst hm4
      go_wp2_with fail
      go_ret
      exact ⟨rfl, Hb3.out⟩

end Go.Proofs.YtiejbliadegcdaaDoor
