/- impl.NameValid and spec.NameValid compute nvB. -/
import Derived.Test.YtmofnmklodmkmaaGreatDoorProg
import Derived.Test.YtmofnmklodmkmaaGreatDoorMath
import Derived.WalkKit
import Derived.LoopTactic
import Derived.Handy
namespace Go.Proofs.YtmofnmklodmkmaaGreatDoor
open Go.RowKit

set_option maxHeartbeats 400000 in
theorem nt_valid (s : ByteArray) (w : World) (hs : s.size ≤ maxLen) :
    Calls Tryz.prog 136 #[.string s] w fun e w' => e = .returned (.bool (nvB s)) ∧ w = w' := by
  unfold maxLen at hs
  by_cases h1 : s.size < 1
  · have H : Hid (nvB s = false) := by unfold Hid; unfold nvB; simp; omega
    go_enter Tryz.func136, Tryz.ntmps136
    go_wp2
    go_ret
    exact ⟨ret_bool H.out.symm, rfl⟩
  by_cases h4 : 4 < s.size
  · have H : Hid (nvB s = false) := by unfold Hid; unfold nvB; simp; omega
    go_enter Tryz.func136, Tryz.ntmps136
    go_wp2
    go_ret
    exact ⟨ret_bool H.out.symm, rfl⟩
  go_enter Tryz.func136, Tryz.ntmps136
  go_wp2
  go_loop [14] (fun i => ∃ k : Nat, k ≤ s.size ∧ i = .int .i64 k ∧ Hid (∀ j (h : j < s.size), j < k → ltr s[j] = true)) (fun i => s.size - (intOf i).toNat)
  case atStart => exact ⟨0, Nat.zero_le _, rfl, fun j _ h => absurd h (by omega)⟩
  case round =>
    obtain ⟨k, hk, rfl, ha⟩ := hrel
    by_cases hlt : k < s.size
    · by_cases hlo : (s[k].toNat : Int) < 97
      · have H : Hid (nvB s = false) := nvB_not hlt (by rw [← Bool.not_eq_true, ltr_iff]; omega)
        go_wp2
        go_ret
        exact ⟨ret_bool H.out.symm, rfl⟩
      · by_cases hhi : (122 : Int) < (s[k].toNat : Int)
        · have H : Hid (nvB s = false) := nvB_not hlt (by rw [← Bool.not_eq_true, ltr_iff]; omega)
          go_wp2
          go_ret
          exact ⟨ret_bool H.out.symm, rfl⟩
        · go_wp2
          go_round
          case rel =>
            refine ⟨k + 1, by omega, by go_num, fun j hj hjk => ?_⟩
            by_cases e : j = k
            · subst e; rw [ltr_iff]; omega
            · exact ha.out j hj (by omega)
          case measure => simp [intOf]; omega
    · go_wp2
      go_ret
      exact ⟨ret_bool (nvB_of (by omega) (by omega) (fun j hj => ha.out j hj (by omega))).symm, rfl⟩


set_option maxHeartbeats 400000 in
theorem i_NameValid (s : ByteArray) (w : World) (hs : s.size ≤ maxLen) :
    Calls Tryz.prog 135 #[.string s] w fun e w' => e = .returned (.bool (nvB s)) ∧ w = w' := by
  go_enter Tryz.func135, Tryz.ntmps135
  go_wp2_with fail
  refine (nt_valid s _ hs).mono ?_
  rintro e w' ⟨rfl, rfl⟩
  go_wp2_with fail
  go_ret
  exact ⟨rfl, rfl⟩

def inB (n lo hi : Int) : Bool := decide (lo ≤ n) && decide (n ≤ hi)
theorem inB_t {n lo hi : Int} (h1 : lo ≤ n) (h2 : n ≤ hi) : inB n lo hi = true := by unfold inB; simp [h1, h2]
theorem inB_f {n lo hi : Int} (h : n < lo ∨ hi < n) : inB n lo hi = false := by unfold inB; simp; omega
set_option maxHeartbeats 400000 in
theorem s_in (n lo hi : Int) (w : World) :
    Calls Tryz.prog 45 #[.int .i64 n, .int .i64 lo, .int .i64 hi] w fun e w' => e = .returned (.bool (inB n lo hi)) ∧ w = w' := by
  by_cases h1 : lo ≤ n
  · by_cases h2 : n ≤ hi
    · have H := hide (inB_t h1 h2)
      go_enter Tryz.func45, Tryz.ntmps45
      go_wp2_with fail
      go_ret
      exact ⟨ret_bool H.out.symm, rfl⟩
    · have H := hide (inB_f (n := n) (lo := lo) (hi := hi) (by omega))
      go_enter Tryz.func45, Tryz.ntmps45
      go_wp2_with fail
      go_ret
      exact ⟨ret_bool H.out.symm, rfl⟩
  · have H := hide (inB_f (n := n) (lo := lo) (hi := hi) (by omega))
    go_enter Tryz.func45, Tryz.ntmps45
    go_wp2_with fail
    go_ret
    exact ⟨ret_bool H.out.symm, rfl⟩

set_option maxHeartbeats 400000 in
theorem s_NameValid (s : ByteArray) (w : World) (hs : s.size ≤ maxLen) :
    Calls Tryz.prog 62 #[.string s] w fun e w' => e = .returned (.bool (nvB s)) ∧ w = w' := by
  unfold maxLen at hs
  go_enter Tryz.func62, Tryz.ntmps62
  go_wp2_with fail
  go_loop [3] (fun i => ∃ k : Nat, k ≤ s.size ∧ i = .int .i64 k ∧ Hid (∀ j (h : j < s.size), j < k → ltr s[j] = true)) (fun i => s.size - (intOf i).toNat)
  case atStart => exact ⟨0, Nat.zero_le _, rfl, fun j _ h => absurd h (by omega)⟩
  case round =>
    obtain ⟨k, hk, rfl, ha⟩ := hrel
    by_cases hlt : k < s.size
    · by_cases hlo : (s[k].toNat : Int) < 97
      · have H : Hid (nvB s = false) := nvB_not hlt (by rw [← Bool.not_eq_true, ltr_iff]; omega)
        go_wp2_with fail
        go_ret
        exact ⟨ret_bool H.out.symm, rfl⟩
      · by_cases hhi : (122 : Int) < (s[k].toNat : Int)
        · have H : Hid (nvB s = false) := nvB_not hlt (by rw [← Bool.not_eq_true, ltr_iff]; omega)
          go_wp2_with fail
          go_ret
          exact ⟨ret_bool H.out.symm, rfl⟩
        · go_wp2_with fail
          go_round
          case rel =>
            refine ⟨k + 1, by omega, by go_num, fun j hj hjk => ?_⟩
            by_cases e : j = k
            · subst e; rw [ltr_iff]; omega
            · exact ha.out j hj (by omega)
          case measure => simp [intOf]; omega
    · have H : Hid (nvB s = inB s.size 1 4) := by
        by_cases h1 : 1 ≤ s.size
        · by_cases h4 : s.size ≤ 4
          · show nvB s = _
            rw [inB_t (by omega) (by omega)]
            exact nvB_of h1 h4 (fun j hj => ha.out j hj (by omega))
          · show nvB s = _
            rw [inB_f (by omega)]; unfold nvB; simp; omega
        · show nvB s = _
          rw [inB_f (by omega)]; unfold nvB; simp; omega
      go_wp2_with fail
      refine (s_in _ _ _ _).mono ?_
      rintro e w' ⟨rfl, rfl⟩
      go_wp2_with fail
      go_ret
      exact ⟨ret_bool H.out.symm, rfl⟩
theorem s_NV {s : ByteArray} {b : Bool} (h : nvB s = b) (w : World) (hs : s.size ≤ maxLen) :
    Calls Tryz.prog 62 #[.string s] w fun e w' => e = .returned (.bool b) ∧ w = w' := by
  subst h; exact s_NameValid s w hs
theorem i_NV {s : ByteArray} {b : Bool} (h : nvB s = b) (w : World) (hs : s.size ≤ maxLen) :
    Calls Tryz.prog 135 #[.string s] w fun e w' => e = .returned (.bool b) ∧ w = w' := by
  subst h; exact i_NameValid s w hs
end Go.Proofs.YtmofnmklodmkmaaGreatDoor
