/- Walks of FnRecordPart, FnRecordPlace, FnRecordWords. -/
import Derived.Test.YtiejbliadegcdaaDrR3
import Derived.Test.YtiejbliadegcdaaIrb
set_option linter.unusedVariables false
set_option linter.unusedSimpArgs false
namespace Go.Proofs.Ytiejbliadegcdaa
open Go.RowKit Go.BigFrame

set_option maxHeartbeats 1000000 in
set_option maxRecDepth 100000 in
theorem FnRecordPart_walk (w : World) (A : Option Addr) (n c : Nat) (hc : Code w w.heap.size A n) (hnc : n ≤ c) (hm : n ≤ maxLen) :
    Calls Try.prog 3 #[.slice A n c] w fun e w' => e = .returned (.bool true) ∧ Below w.heap.size w w' := by
  by_cases h : 1048576 < n
  · unfold maxLen at hm
    go_enter Try.func3, Try.ntmps3
    go_wp2
    go_ret
    exact ⟨rfl, Below.refl _ _⟩
  go_enter Try.func3, Try.ntmps3
  go_wp2_with fail
  refine (d_RecordValid A n c w hc hnc (by omega)).mono ?_
  rintro e w1 ⟨k, i, d, s, t, rfl, hD, hb1⟩
  have HS : Hid (s.size ≤ maxLen) := by have := hD.s9; show s.size ≤ maxLen; unfold maxLen; omega
  have HT : Hid (t.size ≤ maxLen) := by have := hD.t9; show t.size ≤ maxLen; unfold maxLen; omega
  have HX1 := hide (Blk.new w1 24 #[.int .i64 k, .int .i64 i, .int .i64 d, .string s, .string t])
  have Hb1 := hide (hb1.alloc hb1.size (rC k i d s t))
  have hz1 : w.heap.size ≤ w1.heap.size := hb1.size
  obtain ⟨⟨l0, l1, l2, l3, l4⟩, _⟩ := HX1.out.cells5
  clear hc hb1
  go_wp2_with fail
  refine (i_RV k i d s t _ HS.out HT.out).mono ?_
  rintro e w2 ⟨rfl, hb2⟩
  have HX2 := hide (HX1.out.below hb2 (by simp))
  have Hb2 := hide (Hb1.out.trans (hb2.mono (by simp; omega)))
  have hz2 : w1.heap.size + 1 ≤ w2.heap.size := by have h := hb2.size; simpa using h
  clear hb2 l0 l1 l2 l3 l4
  obtain ⟨⟨l0, l1, l2, l3, l4⟩, _⟩ := HX2.out.cells5
  go_wp2_with fail
  refine (s_RV k i d s t _ HS.out HT.out).mono ?_
  rintro e w3 ⟨rfl, hb3⟩
  have HX3 := hide (HX2.out.below hb3 (by omega))
  have Hb3 := hide (Hb2.out.trans (hb3.mono (by omega)))
  have hz3 : w2.heap.size ≤ w3.heap.size := hb3.size
  clear hb3 l0 l1 l2 l3 l4
  cases hv : reB (k, i, d, s, t)
  · go_wp2_with fail
    go_ret
    exact ⟨rfl, Hb3.out⟩
  obtain ⟨hn1, hn2⟩ := re_part hv
  have HN1 : Hid (reB (k, -1, d, s, t) = false) := hn1
  have HN2 : Hid (reB (0, i, d, s, t) = false) := hn2
  clear hv hn1 hn2
  obtain ⟨⟨l0, l1, l2, l3, l4⟩, _⟩ := HX3.out.cells5
  have HX4 := hide (HX3.out.alloc (rC k (-1) d s t))
  have HY4 := hide (Blk.new w3 24 #[.int .i64 k, .int .i64 (-1), .int .i64 d, .string s, .string t])
  have HY5 := hide (HY4.out.alloc (rC 0 i d s t))
  have hz := Blk.new (w3.alloc (rC k (-1) d s t)) 24 #[.int .i64 0, .int .i64 i, .int .i64 d, .string s, .string t]
  rw [World.size_alloc] at hz
  have HZ5 := hide hz
  have Hb5 := hide ((Hb3.out.alloc (by omega) (rC k (-1) d s t)).alloc (by simp; omega) (rC 0 i d s t))
  obtain ⟨⟨a0, a1, a2, a3, a4⟩, _⟩ := HX4.out.cells5
  obtain ⟨⟨m0, m1, m2, m3, m4⟩, _⟩ := HY5.out.cells5
  clear hz
  go_wp2_with fail
  refine (i_RV k (-1) d s t _ HS.out HT.out).mono ?_
  rintro e w6 ⟨rfl, hb6⟩
  rw [HN1.out]
  have HZ6 := hide (HZ5.out.below hb6 (by simp))
  have Hb6 := hide (Hb5.out.trans (hb6.mono (by simp; omega)))
  have hz6 : w3.heap.size + 1 + 1 ≤ w6.heap.size := by have h := hb6.size; simpa using h
  clear hb6 l0 l1 l2 l3 l4 a0 a1 a2 a3 a4 m0 m1 m2 m3 m4
  obtain ⟨⟨l0, l1, l2, l3, l4⟩, _⟩ := HZ6.out.cells5
  go_wp2_with fail
  refine (i_RV 0 i d s t _ HS.out HT.out).mono ?_
  rintro e w7 ⟨rfl, hb7⟩
  rw [HN2.out]
  have Hb7 := hide (Hb6.out.trans (hb7.mono (by omega)))
  clear hb7
  go_wp2_with fail
  go_ret
  exact ⟨rfl, Hb7.out⟩
end Go.Proofs.Ytiejbliadegcdaa
