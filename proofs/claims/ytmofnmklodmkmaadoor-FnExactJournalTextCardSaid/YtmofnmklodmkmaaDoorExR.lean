/- Exact words of records. -/
import Derived.Test.YtmofnmklodmkmaaDoorRg
set_option linter.unusedVariables false
set_option linter.unusedSimpArgs false
namespace Go.Proofs.YtmofnmklodmkmaaDoor
open Go.RowKit

set_option maxHeartbeats 1000000 in
set_option maxRecDepth 100000 in
theorem e_szR (k i d : Int) (s t : ByteArray) (w : World) (hs : s.size ≤ maxLen) (ht : t.size ≤ maxLen) :
    Calls Tryd.prog 20 #[.agg #[.int .i64 k, .int .i64 i, .int .i64 d, .string s, .string t], .int .i64 1048576] w fun e w' => (e = .returned (.int .i64 (-1)) ∨ ∃ r : Nat, e = .returned (.int .i64 (r : Int)) ∧ r ≤ 1048576 ∧ s.size ≤ 1048576 ∧ t.size ≤ 1048576) ∧ Below w.heap.size w w' := by
  unfold maxLen at hs ht
  have hb := hide ((Below.refl w.heap.size w).alloc (Nat.le_refl _) (.cells #[.int .i64 k, .int .i64 i, .int .i64 d, .string s, .string t] 49))
  by_cases h1 : 1048576 < s.size
  · have q1 : (1048576 : Int) - (s.size : Int) < 0 := by omega
    go_enter Tryd.func20, Tryd.ntmps20
    go_wp2_with fail
    go_ret
    exact ⟨.inl rfl, hb.out⟩
  have q1 : ¬ ((1048576 : Int) - (s.size : Int) < 0) := by omega
  by_cases h2 : 1048576 < s.size + t.size
  · have q2 : (1048576 : Int) - (s.size : Int) - (t.size : Int) < 0 := by omega
    go_enter Tryd.func20, Tryd.ntmps20
    go_wp2_with fail
    go_ret
    exact ⟨.inl rfl, hb.out⟩
  · have q2 : ¬ ((1048576 : Int) - (s.size : Int) - (t.size : Int) < 0) := by omega
    go_enter Tryd.func20, Tryd.ntmps20
    go_wp2_with fail
    go_ret
    exact ⟨.inr ⟨1048576 - s.size - t.size, by rw [show ((1048576 - s.size - t.size : Nat) : Int) = 1048576 - (s.size : Int) - (t.size : Int) by omega]; rfl, by omega, by omega, by omega⟩, hb.out⟩

set_option maxHeartbeats 1000000 in
set_option maxRecDepth 100000 in
theorem e_toR (k i d : Int) (s t : ByteArray) (w : World) :
    Calls Tryd.prog 21 #[.agg #[.int .i64 k, .int .i64 i, .int .i64 d, .string s, .string t]] w fun e w' => e = .returned (rV k i d s t) ∧ Below w.heap.size w w' := by
  have hb := hide ((((Below.refl w.heap.size w).alloc (Nat.le_refl _) (.cells #[.int .i64 k, .int .i64 i, .int .i64 d, .string s, .string t] 49)).alloc (by simp) (rC k i d s t)).alloc (by simp; omega) (rC k i d s t))
  go_enter Tryd.func21, Tryd.ntmps21
  go_wp2_with fail
  exact bodyPost_ret (v := rV k i d s t) (by simp [results, Tryd.results21, go_sem]) rfl ⟨rfl, hb.out⟩

set_option maxHeartbeats 1000000 in
set_option maxRecDepth 100000 in
theorem e_eqR (k i d : Int) (s t : ByteArray) (w : World) :
    Calls Tryd.prog 22 #[.agg #[.int .i64 k, .int .i64 i, .int .i64 d, .string s, .string t], .agg #[.int .i64 k, .int .i64 i, .int .i64 d, .string s, .string t]] w fun e w' => e = .returned (.bool true) ∧ Below w.heap.size w w' := by
  have hb := hide (((Below.refl w.heap.size w).alloc (Nat.le_refl _) (rC k i d s t)).alloc (by simp) (rC k i d s t))
  go_enter Tryd.func22, Tryd.ntmps22
  go_wp2_with fail
  go_ret
  exact ⟨rfl, hb.out⟩
end Go.Proofs.YtmofnmklodmkmaaDoor
