/- slices.Contains at both types. -/
import Derived.Test.YtohodhogbdcdmabAw
import Derived.Test.YtohodhogbdcdmabNs2
import Derived.Test.YtohodhogbdcdmabNs3
namespace Go.Proofs.Ytohodhogbdcdmab
open Go.RowKit
set_option maxHeartbeats 1000000 in
theorem c_has_idx (A : Option Addr) (n c : Nat) (L : List ByteArray) (s : ByteArray) (w : World) (hL : Strs w w.heap.size A n L) (hn : n ≤ maxLen) :
    Calls Try.prog 79 #[.slice A n c, .string s] w fun e w' => e = .returned (.int .i64 (atI L s)) ∧ w = w' := by
  unfold maxLen at hn
  have hl := hide hL.1
  have hL := hide hL.2
  go_enter Try.func79, Try.ntmps79
  go_wp2_with fail
  go_loop [8] (fun i => ∃ k : Nat, k ≤ n ∧ i = .int .i64 k ∧ Hid (∀ j, j < k → L[j]? ≠ some s)) (fun i => n - (intOf i).toNat)
  case atStart => exact ⟨0, Nat.zero_le _, rfl, fun j h => absurd h (by omega)⟩
  case round =>
    obtain ⟨k, hk, rfl, hu⟩ := hrel
    by_cases hlt : k < n
    · obtain ⟨g, off, rfl, hb, hc⟩ := hL.out (by omega)
      obtain ⟨t, ht⟩ : ∃ t, L[k]? = some t := ⟨L[k]'(by have := hl.out; omega), List.getElem?_eq_getElem _⟩
      have hck := hc k t ht
      by_cases e : t = s
      · subst e
        have H : Hid (atI L t = k) := atI_of ht hu.out
        clear ht hc
        go_wp2_with fail
        go_ret
        exact ⟨ret_int H.out.symm, rfl⟩
      · have hne := beq_of_ne (Ne.symm e)
        have H : Hid (∀ j, j < k + 1 → L[j]? ≠ some s) := fun j hj hs => by
          by_cases ej : j = k
          · subst ej; rw [ht] at hs; cases hs; exact e rfl
          · exact hu.out j (by omega) hs
        clear ht hc e
        go_wp2_with fail
        go_round
        case rel => exact ⟨k + 1, by omega, by go_num, H⟩
        case measure => simp [intOf]; omega
    · have H : Hid (atI L s = -1) := atI_no (not_mem_of fun j hj => hu.out j (by have := hl.out; omega))
      go_wp2_with fail
      go_ret
      exact ⟨ret_int H.out.symm, rfl⟩

set_option maxHeartbeats 1000000 in
theorem c_has (A : Option Addr) (n c : Nat) (L : List ByteArray) (s : ByteArray) (w : World) (hL : Strs w w.heap.size A n L) (hn : n ≤ maxLen) :
    Calls Try.prog 69 #[.slice A n c, .string s] w fun e w' => e = .returned (.bool (memB L s)) ∧ w = w' := by
  have hL := hide hL
  have hn := hide hn
  go_enter Try.func69, Try.ntmps69
  go_wp2_with fail
  refine (c_has_idx A n c L s _ hL.out hn.out).mono ?_
  rintro e w' ⟨rfl, rfl⟩
  cases hm : memB L s
  · have h1 : atI L s = -1 := by unfold atI; rw [hm]; rfl
    rw [h1]
    go_wp2_with fail
    go_ret
    exact ⟨ret_bool (by simp [hm]), rfl⟩
  · obtain ⟨k, h1⟩ : ∃ k : Nat, atI L s = k := ⟨L.findIdx (fun t => decide (t = s)), by unfold atI; rw [hm]; rfl⟩
    rw [h1]
    clear h1
    go_wp2_with fail
    go_ret
    exact ⟨ret_bool (by simp [hm]), rfl⟩

set_option maxHeartbeats 1000000 in
theorem c_hasN_idx (A : Option Addr) (n c : Nat) (L : List ByteArray) (s : ByteArray) (w : World) (hL : Strs w w.heap.size A n L) (hn : n ≤ maxLen) :
    Calls Try.prog 77 #[.slice A n c, .string s] w fun e w' => e = .returned (.int .i64 (atI L s)) ∧ w = w' := by
  unfold maxLen at hn
  have hl := hide hL.1
  have hL := hide hL.2
  go_enter Try.func77, Try.ntmps77
  go_wp2_with fail
  go_loop [8] (fun i => ∃ k : Nat, k ≤ n ∧ i = .int .i64 k ∧ Hid (∀ j, j < k → L[j]? ≠ some s)) (fun i => n - (intOf i).toNat)
  case atStart => exact ⟨0, Nat.zero_le _, rfl, fun j h => absurd h (by omega)⟩
  case round =>
    obtain ⟨k, hk, rfl, hu⟩ := hrel
    by_cases hlt : k < n
    · obtain ⟨g, off, rfl, hb, hc⟩ := hL.out (by omega)
      obtain ⟨t, ht⟩ : ∃ t, L[k]? = some t := ⟨L[k]'(by have := hl.out; omega), List.getElem?_eq_getElem _⟩
      have hck := hc k t ht
      by_cases e : t = s
      · subst e
        have H : Hid (atI L t = k) := atI_of ht hu.out
        clear ht hc
        go_wp2_with fail
        go_ret
        exact ⟨ret_int H.out.symm, rfl⟩
      · have hne := beq_of_ne (Ne.symm e)
        have H : Hid (∀ j, j < k + 1 → L[j]? ≠ some s) := fun j hj hs => by
          by_cases ej : j = k
          · subst ej; rw [ht] at hs; cases hs; exact e rfl
          · exact hu.out j (by omega) hs
        clear ht hc e
        go_wp2_with fail
        go_round
        case rel => exact ⟨k + 1, by omega, by go_num, H⟩
        case measure => simp [intOf]; omega
    · have H : Hid (atI L s = -1) := atI_no (not_mem_of fun j hj => hu.out j (by have := hl.out; omega))
      go_wp2_with fail
      go_ret
      exact ⟨ret_int H.out.symm, rfl⟩

set_option maxHeartbeats 1000000 in
theorem c_hasN (A : Option Addr) (n c : Nat) (L : List ByteArray) (s : ByteArray) (w : World) (hL : Strs w w.heap.size A n L) (hn : n ≤ maxLen) :
    Calls Try.prog 63 #[.slice A n c, .string s] w fun e w' => e = .returned (.bool (memB L s)) ∧ w = w' := by
  have hL := hide hL
  have hn := hide hn
  go_enter Try.func63, Try.ntmps63
  go_wp2_with fail
  refine (c_hasN_idx A n c L s _ hL.out hn.out).mono ?_
  rintro e w' ⟨rfl, rfl⟩
  cases hm : memB L s
  · have h1 : atI L s = -1 := by unfold atI; rw [hm]; rfl
    rw [h1]
    go_wp2_with fail
    go_ret
    exact ⟨ret_bool (by simp [hm]), rfl⟩
  · obtain ⟨k, h1⟩ : ∃ k : Nat, atI L s = k := ⟨L.findIdx (fun t => decide (t = s)), by unfold atI; rw [hm]; rfl⟩
    rw [h1]
    clear h1
    go_wp2_with fail
    go_ret
    exact ⟨ret_bool (by simp [hm]), rfl⟩
end Go.Proofs.Ytohodhogbdcdmab
