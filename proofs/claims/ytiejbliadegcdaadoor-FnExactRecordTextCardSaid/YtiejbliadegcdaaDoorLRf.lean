/- Walks of FnRecordFrom, FnRecordCut. -/
import Derived.Test.YtiejbliadegcdaaDoorDrR3
import Derived.Test.YtiejbliadegcdaaDoorIrb
set_option linter.unusedVariables false
set_option linter.unusedSimpArgs false
namespace Go.Proofs.YtiejbliadegcdaaDoor
open Go.RowKit Go.BigFrame

theorem from_ok {s : ByteArray} {p k i d : Int} {t u : ByteArray} (h : fromL s.data.toList = some (p, k, i, d, t, u)) : rtxt p (k, i, d, t, u) = s ∧ reB (k, i, d, t, u) = true ∧ t.size ≤ maxLen ∧ u.size ≤ maxLen := by
  obtain ⟨h1, h2⟩ := fromL_some h
  obtain ⟨_, h3, _⟩ := textL_ne (p := p) (r := (k, i, d, t, u)) (by rw [h2]; exact h1)
  have h0 : (ByteArray.mk #[]).size = 0 := rfl
  refine ⟨by unfold rtxt; rw [h2, tb_list], h3, ?_⟩
  rcases re_ways h3 with ⟨i, s, e, hi, hs⟩ | ⟨i, d, e, hi, hd⟩ | ⟨s, t, e | e, hs, ht, _⟩
  · injection e with e1 e
    injection e with e1 e
    injection e with e1 e
    injection e with e1 e
    subst e1 e
    have := (nvB_size hs).2
    unfold maxLen
    exact ⟨by omega, by omega⟩
  · injection e with e1 e
    injection e with e1 e
    injection e with e1 e
    injection e with e1 e
    subst e1 e
    unfold maxLen
    exact ⟨by omega, by omega⟩
  · injection e with e1 e
    injection e with e1 e
    injection e with e1 e
    injection e with e1 e
    subst e1 e
    have := (nvB_size hs).2
    have := (nvB_size ht).2
    unfold maxLen
    exact ⟨by omega, by omega⟩
  · injection e with e1 e
    injection e with e1 e
    injection e with e1 e
    injection e with e1 e
    subst e1 e
    have := (nvB_size hs).2
    have := (nvB_size ht).2
    unfold maxLen
    exact ⟨by omega, by omega⟩

set_option maxHeartbeats 1000000 in
set_option maxRecDepth 100000 in
theorem FnRecordFrom_walk (w : World) (A : Option Addr) (n c : Nat) (hc : Code w w.heap.size A n) (hnc : n ≤ c) (hm : n ≤ maxLen) (hV : Vw w) :
    Calls Tryd.prog 4 #[.slice A n c] w fun e w' => e = .returned (.bool true) ∧ Below w.heap.size w w' := by
  have HVw := hide hV
  clear hV
  by_cases h : 1048576 < n
  · unfold maxLen at hm
    go_enter Tryd.func4, Tryd.ntmps4
    go_wp2
    go_ret
    exact ⟨rfl, Below.refl _ _⟩
  go_enter Tryd.func4, Tryd.ntmps4
  go_wp2_with fail
  refine (d_RecordFrom A n c w hc hnc (by omega)).mono ?_
  rintro e w1 ⟨s, rfl, hs, hb1⟩
  have Hb1 := hide hb1
  have hz1 : w.heap.size ≤ w1.heap.size := hb1.size
  clear hc hb1
  go_wp2_with fail
  refine (i_RF s _ (by omega) (HVw.out.on Hb1.out)).mono ?_
  rintro e w2 ⟨rfl, hb2⟩
  have Hb2 := hide (Hb1.out.trans (hb2.mono (by omega)))
  have hz2 : w1.heap.size ≤ w2.heap.size := hb2.size
  clear hb2
  rcases ho : fromL s.data.toList with _ | ⟨p, k, i, d, t, u⟩
  · have hv : fromV none = .tuple #[.int .i64 0, rV 0 0 0 ⟨#[]⟩ ⟨#[]⟩, .bool false] := rfl
    have HO := hide ho
    have HV := hide hv
    rw [HV.out]
    clear ho hv
    have HX2 := hide (Blk.new w2 24 #[.int .i64 0, .int .i64 0, .int .i64 0, .string ⟨#[]⟩, .string ⟨#[]⟩])
    go_wp2_with fail
    refine (s_RF s _ (by omega)).mono ?_
    rintro e w3 ⟨rfl, hb3⟩
    rw [HO.out, HV.out]
    have HX3 := hide (HX2.out.below hb3 (by simp))
    have Hb3 := hide ((Hb2.out.alloc (by omega) (rC 0 0 0 ⟨#[]⟩ ⟨#[]⟩)).trans (hb3.mono (by simp; omega)))
    have hz3 : w2.heap.size + 1 ≤ w3.heap.size := by have h := hb3.size; simpa using h
    clear hb3
    have HX4 := hide (HX3.out.alloc (rC 0 0 0 ⟨#[]⟩ ⟨#[]⟩))
    have HY4 := hide (Blk.new w3 24 #[.int .i64 0, .int .i64 0, .int .i64 0, .string ⟨#[]⟩, .string ⟨#[]⟩])
    have Hb4 := hide (Hb3.out.alloc (by omega) (rC 0 0 0 ⟨#[]⟩ ⟨#[]⟩))
    obtain ⟨⟨l0, l1, l2, l3, l4⟩, _⟩ := HX4.out.cells5
    obtain ⟨⟨m0, m1, m2, m3, m4⟩, _⟩ := HY4.out.cells5
    go_wp2_with fail
    go_ret
    exact ⟨rfl, Hb4.out⟩
  have hv : fromV (some (p, k, i, d, t, u)) = .tuple #[.int .i64 p, rV k i d t u, .bool true] := rfl
  obtain ⟨hS, hre, htz, huz⟩ := from_ok ho
  have HO := hide ho
  have HV := hide hv
  have HRE := hide hre
  have HSS := hide hS
  have HT := hide htz
  have HU := hide huz
  rw [HV.out]
  clear ho hv hre hS htz huz
  have HX2 := hide (Blk.new w2 24 #[.int .i64 k, .int .i64 i, .int .i64 d, .string t, .string u])
  go_wp2_with fail
  refine (s_RF s _ (by omega)).mono ?_
  rintro e w3 ⟨rfl, hb3⟩
  rw [HO.out, HV.out]
  have HX3 := hide (HX2.out.below hb3 (by simp))
  have Hb3 := hide ((Hb2.out.alloc (by omega) (rC k i d t u)).trans (hb3.mono (by simp; omega)))
  have hz3 : w2.heap.size + 1 ≤ w3.heap.size := by have h := hb3.size; simpa using h
  clear hb3
  have HX4 := hide (HX3.out.alloc (rC k i d t u))
  have HY4 := hide (Blk.new w3 24 #[.int .i64 k, .int .i64 i, .int .i64 d, .string t, .string u])
  have Hb4 := hide (Hb3.out.alloc (by omega) (rC k i d t u))
  obtain ⟨⟨l0, l1, l2, l3, l4⟩, _⟩ := HX4.out.cells5
  obtain ⟨⟨m0, m1, m2, m3, m4⟩, _⟩ := HY4.out.cells5
  go_wp2_with fail
  refine (i_RV k i d t u _ HT.out HU.out).mono ?_
  rintro e w5 ⟨rfl, hb5⟩
  rw [HRE.out]
  have HX5 := hide (HX4.out.below hb5 (by simp; omega))
  have Hb5 := hide (Hb4.out.trans (hb5.mono (by simp; omega)))
  have hz5 : w3.heap.size + 1 ≤ w5.heap.size := by have h := hb5.size; simpa using h
  clear hb5 l0 l1 l2 l3 l4 m0 m1 m2 m3 m4
  obtain ⟨⟨l0, l1, l2, l3, l4⟩, _⟩ := HX5.out.cells5
  go_wp2_with fail
  refine (i_RT p k i d t u _ HT.out HU.out (HVw.out.on Hb5.out).tw).mono ?_
  rintro e w6 ⟨rfl, hb6⟩
  rw [HSS.out]
  have Hb6 := hide (Hb5.out.trans (hb6.mono (by omega)))
  clear hb6
  go_wp2_with fail
  go_ret
  exact ⟨rfl, Hb6.out⟩
end Go.Proofs.YtiejbliadegcdaaDoor
