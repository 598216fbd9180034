/- Walk of FnJournalPart. -/
import Derived.Test.YtmofnmklodmkmaaDoorDrR4
import Derived.Test.YtmofnmklodmkmaaDoorJnl2
import Derived.Test.YtmofnmklodmkmaaDoorIrj
import Derived.IntWalk
set_option linter.unusedVariables false
set_option linter.unusedSimpArgs false
namespace Go.Proofs.YtmofnmklodmkmaaDoor
open Go.RowKit Go.BigFrame

/-- 'x[:k]' of records. -/
theorem rcs_to (A : Option Addr) (n c k : Nat) (hk : k ≤ n) (hnc : n ≤ c) : ∃ E, (∀ W : World, (Instr.slice 23 (.slice A n c) none (some (.int .i64 (k : Int))) none).run Tryd.prog W = .ok (.slice E k c) W) ∧ ∀ (w : World) (B : Nat) (X : List Rec), Rcs w B A n X → Rcs w B E k (X.take k) := by
  obtain ⟨i1, hi1, hy0, hy1, hy2⟩ := rc_info
  obtain ⟨E, h1, h2, _⟩ := slice_to (P := Tryd.prog) Tryd.underlying23 hi1 hy1 A n c k (k : Int) rfl hk hnc
  refine ⟨E, h1, fun w B X h => ?_⟩
  have h3 := h2 w B _ h.rd
  rw [rcells_take] at h3
  exact Rcs.of_rd h3
theorem RSmall.take {X : List Rec} (h : RSmall X) (k : Nat) : RSmall (X.take k) := fun a ha => h a (List.mem_of_mem_take ha)

set_option maxHeartbeats 1000000 in
set_option maxRecDepth 100000 in
theorem FnJournalPart_walk (w : World) (A : Option Addr) (n c : Nat) (hc : Code w w.heap.size A n) (hnc : n ≤ c) (hm : n ≤ maxLen) (A0 : Option Addr) (n0 c0 : Nat) (hc0 : Code w w.heap.size A0 n0) (hnc0 : n0 ≤ c0) (hm0 : n0 ≤ maxLen) (hV : Tw w) :
    Calls Tryd.prog 3 #[.slice A n c, .slice A0 n0 c0] w fun e w' => e = .returned (.bool true) ∧ Below w.heap.size w w' := by
  have HVw := hide hV
  clear hV
  by_cases h : 1048576 < n
  · unfold maxLen at hm hm0
    go_enter Tryd.func3, Tryd.ntmps3
    go_wp2
    go_ret
    exact ⟨rfl, Below.refl _ _⟩
  by_cases h0 : 1048576 < n0
  · unfold maxLen at hm hm0
    go_enter Tryd.func3, Tryd.ntmps3
    go_wp2
    go_ret
    exact ⟨rfl, Below.refl _ _⟩
  go_enter Tryd.func3, Tryd.ntmps3
  go_wp2_with fail
  refine (d_JournalText A n c w hc hnc (by omega)).mono ?_
  rintro e w1 ⟨v, X, rfl, hO, hX6, hS, hb1⟩
  obtain ⟨A1, n1, c1, rfl, hl1, hnc1, hc1m, hR⟩ := hO.rcs
  have HR1 := hide hR
  have HS := hide hS.small
  have Hb1 := hide hb1
  have hz1 : w.heap.size ≤ w1.heap.size := hb1.size
  have HL := hide hl1
  have hn6 : n1 ≤ 6 := by omega
  have hn1 : n1 ≤ maxLen := by unfold maxLen; omega
  clear hc hb1 hO hR hS hl1 hX6 hc1m
  go_wp2_with fail
  refine (i_JT A1 n1 c1 X _ HR1.out HS.out hn1 (HVw.out.on Hb1.out) ).mono ?_
  rintro e w2 ⟨rfl, hb2⟩
  have HR2 := hide (HR1.out.on hb2)
  have Hb2 := hide (Hb1.out.trans (hb2.mono hz1))
  have hz2 : w1.heap.size ≤ w2.heap.size := hb2.size
  clear hb2
  go_wp2_with fail
  refine (s_JT A1 n1 c1 X _ HR2.out HS.out hn1).mono ?_
  rintro e w3 ⟨rfl, hb3⟩
  have HR3 := hide (HR2.out.on hb3)
  have Hb3 := hide (Hb2.out.trans (hb3.mono (by omega)))
  have hz3 : w2.heap.size ≤ w3.heap.size := hb3.size
  clear hb3
  have htl : (tb (jl X)).data.toList = jl X := tb_data _
  have hTs : (tb (jl X)).size ≤ 1230 := jl_size (by have := HL.out; omega)
  obtain ⟨T, hT⟩ : ∃ T, tb (jl X) = T := ⟨_, rfl⟩
  rw [hT] at htl hTs ⊢
  have HTL := hide htl
  clear hT htl
  cases he : emB T
  rotate_left
  · have q0 : T.toList.isEmpty = true := by rw [emB_eq]; exact he
    clear he
    go_wp2_with fail
    go_ret
    exact ⟨rfl, Hb3.out⟩
  have q0 : T.toList.isEmpty = false := by rw [emB_eq]; exact he
  have HNE : Hid (jl X ≠ []) := by
    show _ ≠ _
    rw [← HTL.out]
    intro h
    unfold emB at he
    rw [h] at he
    cases he
  have hT1 : 1 ≤ T.size := by
    rcases Nat.eq_zero_or_pos T.size with h0 | h0
    · exact absurd (List.eq_nil_of_length_eq_zero (l := T.data.toList) (by simpa using h0)) (by rw [HTL.out]; exact HNE.out)
    · exact h0
  clear he
  have hn0 : (0 : Int) < (n1 : Int) + 1 := by omega
  obtain ⟨k, hk, hk1⟩ : ∃ k : Nat, (n0 : Int) % ((n1 : Int) + 1) = (k : Int) ∧ k ≤ n1 := ⟨n0 % (n1 + 1), by simp, by have := Nat.mod_lt n0 (show 0 < n1 + 1 by omega); omega⟩
  have hw : IntKind.i64.wrap ((n1 : Int) + 1) = (n1 : Int) + 1 := IntWalk.i64_in _ (by omega)
  obtain ⟨E, hrun, hrd⟩ := rcs_to A1 n1 c1 k hk1 hnc1
  have HRk := hide (hrd _ _ _ HR3.out)
  have HSk := hide (HS.out.take k)
  have hk0 : (0 : Int) ≤ (k : Int) := by omega
  have hkm : k ≤ maxLen := by unfold maxLen; omega
  clear hrd
  go_wp2_with fail
  refine (i_JT E k c1 (X.take k) _ HRk.out HSk.out hkm (HVw.out.on Hb3.out)).mono ?_
  rintro e w4 ⟨rfl, hb4⟩
  have Hb4 := hide (Hb3.out.trans (hb4.mono (by omega)))
  obtain ⟨e1, e2⟩ := jl_take HNE.out k
  obtain ⟨S, hS⟩ : ∃ S, tb (jl (X.take k)) = S := ⟨_, rfl⟩
  have hSl : S.data.toList = jl (X.take k) := by rw [← hS]; exact tb_data _
  have hSz : S.size = (jl (X.take k)).length := by rw [← hS, tb_size]
  have hSle : S.size ≤ T.size := by
    have : T.size = (jl X).length := by rw [← HTL.out]; simp
    omega
  have hSe : T.extract 0 S.size = S := by
    apply ba_ext
    rw [ext_tb, tb_data, List.drop_zero, HTL.out, hSl, hSz]
    exact e1.symm
  have q1 : ((T.extract 0 S.size).toList == S.toList) = true := by rw [beq_str]; simpa using hSe
  have q2 : (S.size : Int) ≤ (T.size : Int) := by omega
  rw [hS]
  clear hb4 e1 e2 hS hSl hSz hSe hrun hk hw
  go_wp2_with fail
  go_ret
  exact ⟨rfl, Hb4.out⟩
end Go.Proofs.YtmofnmklodmkmaaDoor
