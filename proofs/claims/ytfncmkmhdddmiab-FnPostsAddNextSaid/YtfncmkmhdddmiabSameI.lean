/- sameInts, hasInt. -/
import Derived.Test.YtfncmkmhdddmiabIw
import Derived.LoopTactic
import Derived.Deep.QuietTactic
set_option linter.unusedVariables false
set_option linter.unusedSimpArgs false
namespace Go.Proofs.Ytfncmkmhdddmiab
open Go.RowKit

set_option maxHeartbeats 1000000 in
theorem l_sameI (A : Option Addr) (n c : Nat) (B : Option Addr) (m d : Nat) (X : List Int) (w : World) (hL : Ints w w.heap.size A n X) (hM : Ints w w.heap.size B m X) (hn : n ≤ maxLen) :
    Calls Try.prog 22 #[.slice A n c, .slice B m d] w fun e w' => e = .returned (.bool true) ∧ ∃ q, w' = w.drewN q := by
  unfold maxLen at hn
  have hnm : n = m := hL.1.symm.trans hM.1
  subst hnm
  have hl := hide hL.1
  have HL := hide hL
  have HM := hide hM
  clear hL hM
  go_enter Try.func22, Try.ntmps22
  go_wp2_with fail
  go_loopw [5] (fun i wr => ∃ k q : Nat, k ≤ n ∧ i = .int .i64 k ∧ wr = w.drewN q) (fun i _ => n - (intOf i).toNat)
  case atStart => exact ⟨0, 0, Nat.zero_le _, rfl, rfl⟩
  case round =>
    obtain ⟨k, q, hk, rfl, rfl⟩ := hrel
    by_cases hlt : k < n
    · obtain ⟨a, ha⟩ : ∃ a, X[k]? = some a := ⟨X[k]'(by have := hl.out; omega), List.getElem?_eq_getElem _⟩
      obtain ⟨g, off, rfl, hg, hc⟩ := HL.out.at' ha
      obtain ⟨g2, off2, rfl, hg2, hd⟩ := HM.out.at' ha
      skip
      clear ha
      go_wp2_with fail
      go_quiet (fail)
      go_wp2_with fail
      go_roundw
      case rel => exact ⟨k + 1, _, by omega, by go_num, by first | rfl | exact World.drewN_drewN _ _ _⟩
      case measure => simp [intOf]; omega
    · go_wp2_with fail
      go_ret
      exact ⟨rfl, _, rfl⟩

set_option maxHeartbeats 1000000 in
theorem l_hasI (A : Option Addr) (n c : Nat) (L : List Int) (i : Int) (w : World) (hL : Ints w w.heap.size A n L) (hi : i ∈ L) (hn : n ≤ maxLen) :
    Calls Try.prog 29 #[.slice A n c, .int .i64 i] w fun e w' => e = .returned (.bool true) ∧ w = w' := by
  unfold maxLen at hn
  have hl := hide hL.1
  have HL := hide hL
  have Hi := hide hi
  clear hL hi
  go_enter Try.func29, Try.ntmps29
  go_wp2_with fail
  go_loop [5] (fun v => ∃ k : Nat, k ≤ n ∧ v = .int .i64 k ∧ Hid (i ∉ L.take k)) (fun v => n - (intOf v).toNat)
  case atStart => exact ⟨0, Nat.zero_le _, rfl, by simp [Hid]⟩
  case round =>
    obtain ⟨k, hk, rfl, hu⟩ := hrel
    by_cases hlt : k < n
    · obtain ⟨t, ht⟩ : ∃ t, L[k]? = some t := ⟨L[k]'(by have := hl.out; omega), List.getElem?_eq_getElem _⟩
      obtain ⟨g, off, rfl, hb, hc⟩ := HL.out.at' ht
      by_cases e : t = i
      · subst e
        clear ht
        go_wp2_with fail
        go_ret
        exact ⟨rfl, rfl⟩
      · have H : Hid (i ∉ L.take (k + 1)) := fun hm => by
          rw [List.take_add_one, ht] at hm
          rcases List.mem_append.1 hm with h | h
          · exact hu.out h
          · simp at h; exact e h.symm
        clear ht
        go_wp2_with fail
        go_round
        case rel => exact ⟨k + 1, by omega, by go_num, H⟩
        case measure => simp [intOf]; omega
    · exact absurd Hi.out (by have h := hu.out; rw [List.take_of_length_le (by have := hl.out; omega)] at h; exact h)
end Go.Proofs.Ytfncmkmhdddmiab
