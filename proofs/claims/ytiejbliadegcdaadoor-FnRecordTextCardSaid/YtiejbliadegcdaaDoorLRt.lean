/- Walks of FnRecordText. -/
import Derived.Test.YtiejbliadegcdaaDoorDrR3
import Derived.Test.YtiejbliadegcdaaDoorIrb
set_option linter.unusedVariables false
set_option linter.unusedSimpArgs false
namespace Go.Proofs.YtiejbliadegcdaaDoor
open Go.RowKit Go.BigFrame

set_option maxHeartbeats 1000000 in
set_option maxRecDepth 100000 in
theorem FnRecordText_walk (w : World) (A : Option Addr) (n c : Nat) (hc : Code w w.heap.size A n) (hnc : n ≤ c) (hm : n ≤ maxLen) (hV : Vw w) :
    Calls Tryd.prog 3 #[.slice A n c] w fun e w' => e = .returned (.bool true) ∧ Below w.heap.size w w' := by
  have HVw := hide hV
  clear hV
  by_cases h : 1048576 < n
  · unfold maxLen at hm
    go_enter Tryd.func3, Tryd.ntmps3
    go_wp2
    go_ret
    exact ⟨rfl, Below.refl _ _⟩
  go_enter Tryd.func3, Tryd.ntmps3
  go_wp2_with fail
  refine (d_RecordText A n c w hc hnc (by omega)).mono ?_
  rintro e w1 ⟨p, k, i, d, s, t, rfl, hp1, hp2, hD, hb1⟩
  have HS : Hid (s.size ≤ maxLen) := by have := hD.s9; show s.size ≤ maxLen; unfold maxLen; omega
  have HT : Hid (t.size ≤ maxLen) := by have := hD.t9; show t.size ≤ maxLen; unfold maxLen; omega
  have HX1 := hide (Blk.new w1 24 #[.int .i64 k, .int .i64 i, .int .i64 d, .string s, .string t])
  have Hb1 := hide (hb1.alloc hb1.size (rC k i d s t))
  have hz1 : w.heap.size ≤ w1.heap.size := hb1.size
  obtain ⟨⟨l0, l1, l2, l3, l4⟩, _⟩ := HX1.out.cells5
  clear hc hb1
  go_wp2_with fail
  refine (i_RT p k i d s t _ HS.out HT.out (HVw.out.on Hb1.out).tw).mono ?_
  rintro e w2 ⟨rfl, hb2⟩
  have HX2 := hide (HX1.out.below hb2 (by simp))
  have Hb2 := hide (Hb1.out.trans (hb2.mono (by simp; omega)))
  have hz2 : w1.heap.size + 1 ≤ w2.heap.size := by have h := hb2.size; simpa using h
  clear hb2 l0 l1 l2 l3 l4
  obtain ⟨⟨l0, l1, l2, l3, l4⟩, _⟩ := HX2.out.cells5
  go_wp2_with fail
  refine (s_RT p k i d s t _ HS.out HT.out).mono ?_
  rintro e w3 ⟨rfl, hb3⟩
  have HX3 := hide (HX2.out.below hb3 (by omega))
  have Hb3 := hide (Hb2.out.trans (hb3.mono (by omega)))
  have hz3 : w2.heap.size ≤ w3.heap.size := hb3.size
  clear hb3 l0 l1 l2 l3 l4
  have htl : (rtxt p (k, i, d, s, t)).data.toList = textL p (k, i, d, s, t) := tb_data _
  have hT40 := rtxt_size p (k, i, d, s, t)
  obtain ⟨T, hT⟩ : ∃ T, rtxt p (k, i, d, s, t) = T := ⟨_, rfl⟩
  rw [hT] at htl hT40 ⊢
  have HTL := hide htl
  clear hT htl
  cases he : emB T
  rotate_left
  · have q0 : T.toList.isEmpty = true := by rw [emB_eq]; exact he
    clear he
    go_wp2_with fail
    go_ret
    exact ⟨rfl, Hb3.out⟩
  have q0 : T.toList.isEmpty = false := by rw [emB_eq]; exact he
  have hne : textL p (k, i, d, s, t) ≠ [] := by
    rw [← HTL.out]
    intro h
    unfold emB at he
    rw [h] at he
    cases he
  have HNE := hide hne
  clear he hne
  obtain ⟨⟨l0, l1, l2, l3, l4⟩, _⟩ := HX3.out.cells5
  go_wp2_with fail
  refine (i_RF T _ (by omega) (HVw.out.on Hb3.out)).mono ?_
  rintro e w4 ⟨rfl, hb4⟩
  have HF : Hid (fromV (fromL T.data.toList) = .tuple #[.int .i64 p, rV k i d s t, .bool true]) := by
    show _ = _
    rw [HTL.out, fromL_text HNE.out]
    rfl
  rw [HF.out]
  have HX4 := hide (HX3.out.below hb4 (by omega))
  have Hb4 := hide (Hb3.out.trans (hb4.mono (by omega)))
  have hz4 : w3.heap.size ≤ w4.heap.size := hb4.size
  clear hb4 l0 l1 l2 l3 l4
  have HX5 := hide (HX4.out.alloc (rC k i d s t))
  have HY5 := hide (Blk.new w4 24 #[.int .i64 k, .int .i64 i, .int .i64 d, .string s, .string t])
  have Hb5 := hide (Hb4.out.alloc (by omega) (rC k i d s t))
  obtain ⟨⟨l0, l1, l2, l3, l4⟩, _⟩ := HX5.out.cells5
  obtain ⟨⟨m0, m1, m2, m3, m4⟩, _⟩ := HY5.out.cells5
  go_wp2_with fail
  go_ret
  exact ⟨rfl, Hb5.out⟩
end Go.Proofs.YtiejbliadegcdaaDoor
