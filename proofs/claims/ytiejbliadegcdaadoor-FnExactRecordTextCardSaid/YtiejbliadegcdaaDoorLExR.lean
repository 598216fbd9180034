/- Walks of the exact laws of records. -/
import Derived.Test.YtiejbliadegcdaaDoorExR
import Derived.Test.YtiejbliadegcdaaDoorLRf
import Derived.Test.YtiejbliadegcdaaDoorIrb
set_option linter.unusedVariables false
set_option linter.unusedSimpArgs false
namespace Go.Proofs.YtiejbliadegcdaaDoor
open Go.RowKit

set_option maxHeartbeats 2000000 in
set_option maxRecDepth 100000 in
theorem FnExactRecordText_walk (w : World) (p : Int) (hp : (Lit.int IntKind.i64 p).wf = true) (k i d : Int) (s t : ByteArray) (hs : s.size ≤ maxLen) (ht : t.size ≤ maxLen) (hV : Tw w) :
    Calls Tryd.prog 9 #[.int .i64 p, .agg #[.int .i64 k, .int .i64 i, .int .i64 d, .string s, .string t]] w fun e w' => e = .returned (.bool true) ∧ Below w.heap.size w w' := by
  have HVw := hide hV
  clear hV
  have HS := hide hs
  have HT := hide ht
  have HX0 := hide (Blk.new w 34 #[.int .i64 k, .int .i64 i, .int .i64 d, .string s, .string t])
  have Hb0 := hide ((Below.refl w.heap.size w).alloc (Nat.le_refl _) (.cells #[.int .i64 k, .int .i64 i, .int .i64 d, .string s, .string t] 34))
  clear hs ht
  go_enter Tryd.func9, Tryd.ntmps9
  go_wp2_with fail
  refine (e_szR k i d s t _ HS.out HT.out).mono ?_
  rintro e w1 ⟨rfl | ⟨r, rfl, _, _, _⟩, hb⟩
  · go_wp2_with fail
    go_ret
    exact ⟨rfl, Hb0.out.trans (hb.mono (by simp))⟩
  have hr0 : ¬ ((r : Int) < 0) := by omega
  have HX1 := hide (HX0.out.below hb (by simp))
  have Hb1 := hide (Hb0.out.trans (hb.mono (by simp)))
  have hz1 : w.heap.size + 1 ≤ w1.heap.size := by have h := hb.size; simpa using h
  clear hb
  obtain ⟨⟨l0, l1, l2, l3, l4⟩, _⟩ := HX1.out.cells5
  go_wp2_with fail
  refine (e_toR k i d s t _).mono ?_
  rintro e w2 ⟨rfl, hb⟩
  have HX2 := hide (HX1.out.below hb (by omega))
  have Hb2 := hide (Hb1.out.trans (hb.mono (by omega)))
  have hz2 : w1.heap.size ≤ w2.heap.size := hb.size
  clear hb l0 l1 l2 l3 l4
  go_wp2_with fail
  refine (s_RT p k i d s t _ HS.out HT.out).mono ?_
  rintro e w3 ⟨rfl, hb⟩
  have HX3 := hide (HX2.out.below hb (by omega))
  have Hb3 := hide (Hb2.out.trans (hb.mono (by omega)))
  have hz3 : w2.heap.size ≤ w3.heap.size := hb.size
  clear hb
  obtain ⟨⟨l0, l1, l2, l3, l4⟩, _⟩ := HX3.out.cells5
  go_wp2_with fail
  refine (e_toR k i d s t _).mono ?_
  rintro e w4 ⟨rfl, hb⟩
  have Hb4 := hide (Hb3.out.trans (hb.mono (by omega)))
  have hz4 : w3.heap.size ≤ w4.heap.size := hb.size
  clear hb l0 l1 l2 l3 l4
  go_wp2_with fail
  refine (i_RT p k i d s t _ HS.out HT.out (HVw.out.on Hb4.out)).mono ?_
  rintro e w5 ⟨rfl, hb⟩
  have Hb5 := hide (Hb4.out.trans (hb.mono (by omega)))
  clear hb
  go_wp2_with fail
  go_ret
  exact ⟨rfl, Hb5.out⟩

/-- What a line gives, opened. -/
theorem fromV_ways (o : Option (Int × Rec)) : ∃ p k i d t u b, fromV o = .tuple #[.int .i64 p, rV k i d t u, .bool b] := by
  rcases o with _ | ⟨p, k, i, d, t, u⟩
  · exact ⟨_, _, _, _, _, _, _, rfl⟩
  · exact ⟨_, _, _, _, _, _, _, rfl⟩

set_option maxHeartbeats 2000000 in
set_option maxRecDepth 100000 in
theorem FnExactRecordFrom_walk (w : World) (s : ByteArray) (hs : s.size ≤ maxLen) (hV : Vw w) :
    Calls Tryd.prog 10 #[.string s] w fun e w' => e = .returned (.bool true) ∧ Below w.heap.size w w' := by
  have HVw := hide hV
  clear hV
  unfold maxLen at hs
  by_cases h : 1048576 < s.size
  · go_enter Tryd.func10, Tryd.ntmps10
    go_wp2_with fail
    go_ret
    exact ⟨rfl, Below.refl _ _⟩
  go_enter Tryd.func10, Tryd.ntmps10
  go_wp2_with fail
  obtain ⟨p, k, i, d, t, u, b, hv⟩ := fromV_ways (fromL s.data.toList)
  have HV := hide hv
  refine (s_RF s _ (by omega)).mono ?_
  rintro e w1 ⟨rfl, hb⟩
  rw [HV.out]
  have hz1 : w.heap.size ≤ w1.heap.size := hb.size
  have Hb1 := hide (hb.alloc hb.size (rC k i d t u))
  have HX1 := hide (Blk.new w1 24 #[.int .i64 k, .int .i64 i, .int .i64 d, .string t, .string u])
  clear hb hv
  go_wp2_with fail
  refine (i_RF s _ (by omega) (HVw.out.on Hb1.out)).mono ?_
  rintro e w2 ⟨rfl, hb⟩
  rw [HV.out]
  have hz2 : w1.heap.size + 1 ≤ w2.heap.size := by have h := hb.size; simpa using h
  have HX2 := hide ((HX1.out.below hb (by simp)).alloc (rC k i d t u))
  have Hb2 := hide ((Hb1.out.trans (hb.mono (by simp; omega))).alloc (by omega) (rC k i d t u))
  have HY2 := hide (Blk.new w2 24 #[.int .i64 k, .int .i64 i, .int .i64 d, .string t, .string u])
  clear hb
  obtain ⟨⟨l0, l1, l2, l3, l4⟩, _⟩ := HX2.out.cells5
  obtain ⟨⟨m0, m1, m2, m3, m4⟩, _⟩ := HY2.out.cells5
  go_wp2_with fail
  refine (e_eqR k i d t u _).mono ?_
  rintro e w3 ⟨rfl, hb⟩
  have Hb3 := hide (Hb2.out.trans (hb.mono (by simp; omega)))
  clear hb
  go_wp2_with fail
  go_ret
  exact ⟨rfl, Hb3.out⟩
end Go.Proofs.YtiejbliadegcdaaDoor
