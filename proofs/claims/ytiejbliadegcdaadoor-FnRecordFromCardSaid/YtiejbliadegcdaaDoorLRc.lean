/- Walk of FnRecordCut. -/
import Derived.Test.YtiejbliadegcdaaDoorDrR3
import Derived.Test.YtiejbliadegcdaaDoorLRf
set_option linter.unusedVariables false
set_option linter.unusedSimpArgs false
namespace Go.Proofs.YtiejbliadegcdaaDoor
open Go.RowKit Go.BigFrame

set_option maxHeartbeats 1000000 in
set_option maxRecDepth 100000 in
theorem FnRecordCut_walk (w : World) (A : Option Addr) (n c : Nat) (hc : Code w w.heap.size A n) (hnc : n ≤ c) (hm : n ≤ maxLen) (hV : Vw w) :
    Calls Tryd.prog 6 #[.slice A n c] w fun e w' => e = .returned (.bool true) ∧ Below w.heap.size w w' := by
  have HVw := hide hV
  clear hV
  by_cases h : 1048576 < n
  · unfold maxLen at hm
    go_enter Tryd.func6, Tryd.ntmps6
    go_wp2
    go_ret
    exact ⟨rfl, Below.refl _ _⟩
  go_enter Tryd.func6, Tryd.ntmps6
  go_wp2_with fail
  refine (d_RecordFrom A n c w hc hnc (by omega)).mono ?_
  rintro e w1 ⟨s, rfl, hs, hb1⟩
  have Hb1 := hide hb1
  have hz1 : w.heap.size ≤ w1.heap.size := hb1.size
  clear hc hb1
  go_wp2_with fail
  refine (i_RF s _ (by omega) (HVw.out.on Hb1.out)).mono ?_
  rintro e w2 ⟨rfl, hb2⟩
  have Hb2 := hide (Hb1.out.trans (hb2.mono (by omega)))
  have hz2 : w1.heap.size ≤ w2.heap.size := hb2.size
  clear hb2
  rcases ho : fromL s.data.toList with _ | ⟨p, k, i, d, t, u⟩
  · have hv : fromV none = .tuple #[.int .i64 0, rV 0 0 0 ⟨#[]⟩ ⟨#[]⟩, .bool false] := rfl
    have HO := hide ho
    have HV := hide hv
    rw [HV.out]
    clear ho hv
    have HX2 := hide (Blk.new w2 24 #[.int .i64 0, .int .i64 0, .int .i64 0, .string ⟨#[]⟩, .string ⟨#[]⟩])
    go_wp2_with fail
    refine (s_RF s _ (by omega)).mono ?_
    rintro e w3 ⟨rfl, hb3⟩
    rw [HO.out, HV.out]
    have HX3 := hide (HX2.out.below hb3 (by simp))
    have Hb3 := hide ((Hb2.out.alloc (by omega) (rC 0 0 0 ⟨#[]⟩ ⟨#[]⟩)).trans (hb3.mono (by simp; omega)))
    have hz3 : w2.heap.size + 1 ≤ w3.heap.size := by have h := hb3.size; simpa using h
    clear hb3
    have HX4 := hide (HX3.out.alloc (rC 0 0 0 ⟨#[]⟩ ⟨#[]⟩))
    have HY4 := hide (Blk.new w3 24 #[.int .i64 0, .int .i64 0, .int .i64 0, .string ⟨#[]⟩, .string ⟨#[]⟩])
    have Hb4 := hide (Hb3.out.alloc (by omega) (rC 0 0 0 ⟨#[]⟩ ⟨#[]⟩))
    obtain ⟨⟨l0, l1, l2, l3, l4⟩, _⟩ := HX4.out.cells5
    obtain ⟨⟨m0, m1, m2, m3, m4⟩, _⟩ := HY4.out.cells5
    go_wp2_with fail
    go_ret
    exact ⟨rfl, Hb4.out⟩
  have hv : fromV (some (p, k, i, d, t, u)) = .tuple #[.int .i64 p, rV k i d t u, .bool true] := rfl
  obtain ⟨hS, hre, htz, huz⟩ := from_ok ho
  have HO := hide ho
  have HV := hide hv
  have HRE := hide hre
  have HSS := hide hS
  have HT := hide htz
  have HU := hide huz
  rw [HV.out]
  clear ho hv hre hS htz huz
  have HX2 := hide (Blk.new w2 24 #[.int .i64 k, .int .i64 i, .int .i64 d, .string t, .string u])
  go_wp2_with fail
  refine (s_RF s _ (by omega)).mono ?_
  rintro e w3 ⟨rfl, hb3⟩
  rw [HO.out, HV.out]
  have HX3 := hide (HX2.out.below hb3 (by simp))
  have Hb3 := hide ((Hb2.out.alloc (by omega) (rC k i d t u)).trans (hb3.mono (by simp; omega)))
  have hz3 : w2.heap.size + 1 ≤ w3.heap.size := by have h := hb3.size; simpa using h
  clear hb3
  have HX4 := hide (HX3.out.alloc (rC k i d t u))
  have HY4 := hide (Blk.new w3 24 #[.int .i64 k, .int .i64 i, .int .i64 d, .string t, .string u])
  have Hb4 := hide (Hb3.out.alloc (by omega) (rC k i d t u))
  obtain ⟨⟨l0, l1, l2, l3, l4⟩, _⟩ := HX4.out.cells5
  obtain ⟨⟨m0, m1, m2, m3, m4⟩, _⟩ := HY4.out.cells5
  have hs1 : 1 ≤ s.size := by
    have h := (fromL_some HO.out).1
    rcases Nat.eq_zero_or_pos s.size with h0 | h0
    · exact absurd (List.eq_nil_of_length_eq_zero (l := s.data.toList) (by simpa using h0)) h
    · exact h0
  have hw : IntKind.i64.wrap ((s.size : Int) - 1) = (s.size : Int) - 1 := IntWalk.i64_in _ (by omega)
  have ha : (0 : Int) ≤ (s.size : Int) - 1 := by omega
  have hb : (s.size : Int) - 1 ≤ (s.size : Int) := by omega
  go_wp2_with fail
  have hln : Ln s.data.toList (join4 p.toNat (k, i, d, t, u)) := by
    obtain ⟨h1, h2⟩ := fromL_some HO.out
    have := ln_of (p := p) (r := (k, i, d, t, u)) (by rw [h2]; exact h1)
    rw [h2] at this
    exact this
  have hcut : fromL (s.extract 0 (s.size - 1)).data.toList = none := by
    rw [ext_tb, tb_data, List.drop_zero, ← ln_cut hln, List.dropLast_eq_take]
    simp
  have hmore : fromL (s ++ ⟨#[48]⟩ : ByteArray).data.toList = none := by
    rw [← ln_more hln]
    simp
  have HC := hide hcut
  have HM := hide hmore
  have hv0 : fromV none = .tuple #[.int .i64 0, rV 0 0 0 ⟨#[]⟩ ⟨#[]⟩, .bool false] := rfl
  have HV0 := hide hv0
  have hsc : (s.extract 0 (s.size - 1)).size ≤ 1048576 := by simp [ByteArray.size_extract]; omega
  have hsm : (s ++ ⟨#[48]⟩ : ByteArray).size ≤ 1048576 := by rw [ByteArray.size_append]; show s.size + 1 ≤ 1048576; omega
  have HSM := hide hsm
  clear hln hcut hmore hv0 hsm hw ha hb l0 l1 l2 l3 l4 m0 m1 m2 m3 m4
  refine (i_RF _ _ hsc (HVw.out.on Hb4.out)).mono ?_
  rintro e w5 ⟨rfl, hb5⟩
  rw [HC.out, HV0.out]
  have Hb5 := hide ((Hb4.out.trans (hb5.mono (by simp; omega))).alloc (by have := hb5.size; simp at this; omega) (rC 0 0 0 ⟨#[]⟩ ⟨#[]⟩))
  have hz5 : w3.heap.size + 1 ≤ w5.heap.size := by have h := hb5.size; simpa using h
  clear hb5 hsc
  go_wp2_with fail
  refine (i_RF _ _ HSM.out (HVw.out.on Hb5.out)).mono ?_
  rintro e w6 ⟨rfl, hb6⟩
  rw [HM.out, HV0.out]
  have Hb6 := hide ((Hb5.out.trans (hb6.mono (by simp; omega))).alloc (by have := hb6.size; simp at this; omega) (rC 0 0 0 ⟨#[]⟩ ⟨#[]⟩))
  clear hb6
  go_wp2_with fail
  go_ret
  exact ⟨rfl, Hb6.out⟩
end Go.Proofs.YtiejbliadegcdaaDoor
