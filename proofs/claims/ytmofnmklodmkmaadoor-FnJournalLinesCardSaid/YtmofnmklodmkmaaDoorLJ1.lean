/- Walks of FnJournalPart, FnJournalLines. -/
import Derived.Test.YtmofnmklodmkmaaDoorDrR4
import Derived.Test.YtmofnmklodmkmaaDoorJnl2
import Derived.Test.YtmofnmklodmkmaaDoorIrj
set_option linter.unusedVariables false
set_option linter.unusedSimpArgs false
namespace Go.Proofs.YtmofnmklodmkmaaDoor
open Go.RowKit Go.BigFrame

set_option maxHeartbeats 1000000 in
set_option maxRecDepth 100000 in
theorem FnJournalLines_walk (w : World) (A : Option Addr) (n c : Nat) (hc : Code w w.heap.size A n) (hnc : n ≤ c) (hm : n ≤ maxLen) (hV : Tw w) :
    Calls Tryd.prog 4 #[.slice A n c] w fun e w' => e = .returned (.bool true) ∧ Below w.heap.size w w' := by
  have HVw := hide hV
  clear hV
  by_cases h : 1048576 < n
  · unfold maxLen at hm
    go_enter Tryd.func4, Tryd.ntmps4
    go_wp2
    go_ret
    exact ⟨rfl, Below.refl _ _⟩
  go_enter Tryd.func4, Tryd.ntmps4
  go_wp2_with fail
  refine (d_JournalText A n c w hc hnc (by omega)).mono ?_
  rintro e w1 ⟨v, X, rfl, hO, hX6, hS, hb1⟩
  obtain ⟨A1, n1, c1, rfl, hl1, hnc1, hc1m, hR⟩ := hO.rcs
  have HR1 := hide hR
  have HS := hide hS.small
  have Hb1 := hide hb1
  have hz1 : w.heap.size ≤ w1.heap.size := hb1.size
  have HL := hide hl1
  have hn6 : n1 ≤ 6 := by omega
  have hn1 : n1 ≤ maxLen := by unfold maxLen; omega
  clear hc hb1 hO hR hS hl1 hX6 hc1m
  go_wp2_with fail
  refine (i_JT A1 n1 c1 X _ HR1.out HS.out hn1 (HVw.out.on Hb1.out) ).mono ?_
  rintro e w2 ⟨rfl, hb2⟩
  have HR2 := hide (HR1.out.on hb2)
  have Hb2 := hide (Hb1.out.trans (hb2.mono hz1))
  have hz2 : w1.heap.size ≤ w2.heap.size := hb2.size
  clear hb2
  go_wp2_with fail
  refine (s_JT A1 n1 c1 X _ HR2.out HS.out hn1).mono ?_
  rintro e w3 ⟨rfl, hb3⟩
  have HR3 := hide (HR2.out.on hb3)
  have Hb3 := hide (Hb2.out.trans (hb3.mono (by omega)))
  have hz3 : w2.heap.size ≤ w3.heap.size := hb3.size
  clear hb3
  have htl : (tb (jl X)).data.toList = jl X := tb_data _
  have hTs : (tb (jl X)).size ≤ 1230 := jl_size (by have := HL.out; omega)
  obtain ⟨T, hT⟩ : ∃ T, tb (jl X) = T := ⟨_, rfl⟩
  rw [hT] at htl hTs ⊢
  have HTL := hide htl
  clear hT htl
  cases he : emB T
  rotate_left
  · have q0 : T.toList.isEmpty = true := by rw [emB_eq]; exact he
    clear he
    go_wp2_with fail
    go_ret
    exact ⟨rfl, Hb3.out⟩
  have q0 : T.toList.isEmpty = false := by rw [emB_eq]; exact he
  have HNE : Hid (jl X ≠ []) := by
    show _ ≠ _
    rw [← HTL.out]
    intro h
    unfold emB at he
    rw [h] at he
    cases he
  have hT1 : 1 ≤ T.size := by
    rcases Nat.eq_zero_or_pos T.size with h0 | h0
    · exact absurd (List.eq_nil_of_length_eq_zero (l := T.data.toList) (by simpa using h0)) (by rw [HTL.out]; exact HNE.out)
    · exact h0
  clear he
  have hcn : T.data.toList.count 10 = n1 := by rw [HTL.out, jl_t (jl_ne HNE.out).1, jls_count]; exact HL.out
  have hlast : T.data.toList.getLast? = some 10 := by rw [HTL.out, jl_t (jl_ne HNE.out).1]; exact jls_last (jl_ne HNE.out).2
  have hg : T[T.size - 1].toNat = 10 := by
    rw [List.getLast?_eq_getElem?] at hlast
    obtain ⟨h1, h2⟩ := List.getElem?_eq_some_iff.1 hlast
    have e : T[T.size - 1] = T.data.toList[T.data.toList.length - 1] := by simp; rfl
    rw [e, h2]; rfl
  have HC := hide hcn
  have HG := hide hg
  clear hcn hlast hg
  go_wp2_with fail
  go_loop [6, 7] (fun u v => ∃ (k m : Nat), k ≤ T.size ∧ m ≤ k ∧ v = .int .i64 k ∧ u = .int .i64 m ∧ Hid ((T.data.toList.take k).count 10 = m)) (fun _ v => T.size - (intOf v).toNat)
  case atStart => exact ⟨0, 0, Nat.zero_le _, Nat.le_refl _, rfl, rfl, rfl⟩
  case round =>
    obtain ⟨k, m, hk, hm, rfl, rfl, hct⟩ := hrel
    by_cases hlt : k < T.size
    · have hts := hide (take_snoc T k hlt)
      by_cases hc : T[k] = 10
      · have H : Hid ((T.data.toList.take (k + 1)).count 10 = m + 1) := by
          show _ = _
          rw [hts.out, List.count_append, hct.out, hc]
          rfl
        have q1 : T[k].toNat = 10 := by rw [hc]; rfl
        clear hc
        go_wp2_with fail
        go_round
        case rel => exact ⟨k + 1, m + 1, by omega, by omega, by go_num, by go_num, H⟩
        case measure => simp [intOf]; omega
      · have H : Hid ((T.data.toList.take (k + 1)).count 10 = m) := by
          show _ = _
          rw [hts.out, List.count_append, hct.out]
          have : [T[k]].count 10 = 0 := List.count_eq_zero.2 (by simp; exact fun h => hc h.symm)
          omega
        have q1 : ¬ T[k].toNat = 10 := fun h => hc (UInt8.toNat_inj.1 h)
        clear hc
        go_wp2_with fail
        go_round
        case rel => exact ⟨k + 1, m, by omega, by omega, by go_num, rfl, H⟩
        case measure => simp [intOf]; omega
    · have hm4 : m = n1 := by
        have h := hct.out
        rw [List.take_of_length_le (by simp; omega), HC.out] at h
        exact h.symm
      subst hm4
      have hi : (Instr.index 9 (.string T) (.int .i64 ((T.size : Int) - 1))) = (Instr.index 9 (.string T) (.int .i64 ((T.size - 1 : Nat) : Int))) := by congr 2; omega
      have hw : IntKind.i64.wrap ((T.size : Int) - 1) = ((T.size - 1 : Nat) : Int) := by rw [IntWalk.i64_in _ (by omega)]; omega
      have q2 : T[T.size - 1].toNat = 10 := HG.out
      clear hi
      go_wp2_with fail
      go_ret
      exact ⟨rfl, Hb3.out⟩
end Go.Proofs.YtmofnmklodmkmaaDoor
