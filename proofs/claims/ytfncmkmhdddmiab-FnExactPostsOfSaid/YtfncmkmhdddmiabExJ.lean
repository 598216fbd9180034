/- Words of the exact laws: numbers. -/
import Derived.Test.YtfncmkmhdddmiabMk
import Derived.Test.YtfncmkmhdddmiabSameI
set_option linter.unusedVariables false
set_option linter.unusedSimpArgs false
namespace Go.Proofs.Ytfncmkmhdddmiab
open Go.RowKit

set_option maxHeartbeats 1000000 in
theorem e_eqI' (A : Option Addr) (n c : Nat) (B : Option Addr) (m d : Nat) (X : List Int) (w : World) (hL : Ints w w.heap.size A n X) (hM : Ints w w.heap.size B m X) (hn : n ≤ maxLen) :
    Calls Try.prog 36 #[.slice A n c, .slice B m d] w fun e w' => e = .returned (.bool true) ∧ ∃ q, w' = w.drewN q := by
  unfold maxLen at hn
  have hnm : n = m := hL.1.symm.trans hM.1
  subst hnm
  have hl := hide hL.1
  have HL := hide hL
  have HM := hide hM
  clear hL hM
  go_enter Try.func36, Try.ntmps36
  go_wp2_with fail
  go_loopw [5] (fun i wr => ∃ k q : Nat, k ≤ n ∧ i = .int .i64 k ∧ wr = w.drewN q) (fun i _ => n - (intOf i).toNat)
  case atStart => exact ⟨0, 0, Nat.zero_le _, rfl, rfl⟩
  case round =>
    obtain ⟨k, q, hk, rfl, rfl⟩ := hrel
    by_cases hlt : k < n
    · obtain ⟨a, ha⟩ : ∃ a, X[k]? = some a := ⟨X[k]'(by have := hl.out; omega), List.getElem?_eq_getElem _⟩
      obtain ⟨g, off, rfl, hg, hc⟩ := HL.out.at' ha
      obtain ⟨g2, off2, rfl, hg2, hd⟩ := HM.out.at' ha
      skip
      clear ha
      go_wp2_with fail
      go_quiet (fail)
      go_wp2_with fail
      go_roundw
      case rel => exact ⟨k + 1, _, by omega, by go_num, by first | rfl | exact World.drewN_drewN _ _ _⟩
      case measure => simp [intOf]; omega
    · go_wp2_with fail
      go_ret
      exact ⟨rfl, _, rfl⟩
theorem e_eqI (A : Option Addr) (n c : Nat) (B : Option Addr) (m d : Nat) (X : List Int) (w : World) (hL : Ints w w.heap.size A n X) (hM : Ints w w.heap.size B m X) (hn : n ≤ maxLen) :
    Calls Try.prog 36 #[.slice A n c, .slice B m d] w fun e w' => e = .returned (.bool true) ∧ Below w.heap.size w w' :=
  (e_eqI' A n c B m d X w hL hM hn).mono fun _ _ ⟨h, q, e⟩ => ⟨h, e ▸ below_drewN' _ _ q⟩

def marksI (k n : Nat) : List Int := (List.range n).map fun j => ((k + j : Nat) : Int)
theorem marksI_len (k n : Nat) : (marksI k n).length = n := by simp [marksI]
theorem marksI_at {k n j : Nat} (h : j < n) : (marksI k n)[j]? = some ((k + j : Nat) : Int) := by simp [marksI, h]
set_option maxHeartbeats 1000000 in
theorem e_marksI (base : Nat) (A : Option Addr) (n c k : Nat) (L : List Int) (w : World) (own : w.ownsRow base 3 1 (.slice A n c) n (L.map (Value.int .i64))) (hk : 1 ≤ k) (hk2 : k ≤ 1500000) (hn : n ≤ 2000000) :
    Calls Try.prog 37 #[.slice A n c, .int .i64 k] w fun e w' => e = .returned (.int .i64 ((k + n : Nat) : Int)) ∧ w'.ownsRow base 3 1 (.slice A n c) n ((marksI k n).map (Value.int .i64)) ∧ w.grownBy w' (Value.slice A n c).ownBlock := by
  rcases own_form own with ⟨rfl, rfl⟩ | ⟨b, rfl⟩
  · go_enter Try.func37, Try.ntmps37
    go_wp2_with fail
    go_loopw [1, 5] (fun r i wr => r = .int .i64 k ∧ i = .int .i64 0 ∧ wr = w) (fun _ _ _ => 0)
    case atStart => exact ⟨rfl, rfl, rfl⟩
    case round =>
      obtain ⟨rfl, rfl, rfl⟩ := hrel
      go_wp2_with fail
      go_ret
      have hL0 : L = [] := List.eq_nil_of_length_eq_zero (by have h := own.1; rw [List.length_map] at h; omega)
      rw [hL0] at own
      exact ⟨rfl, own, World.grownBy.refl _ _⟩
  · have Own := hide own
    clear own
    go_enter Try.func37, Try.ntmps37
    go_wp2_with fail
    go_loopw [1, 5] (fun r i wr => ∃ (j : Nat) (Z : List Value), j ≤ n ∧ r = .int .i64 ((k + j : Nat) : Int) ∧ i = .int .i64 j ∧ wr.ownsRow base 3 1 (.slice (some ⟨b, 0, none⟩) n c) n Z ∧ Hid (∀ i, i < j → Z[i]? = some (.int .i64 ((k + i : Nat) : Int))) ∧ Hid (w.grownBy wr (some b))) (fun _ i _ => n - (intOf i).toNat)
    case atStart => exact ⟨0, _, Nat.zero_le _, rfl, rfl, Own.out, fun i h => absurd h (by omega), World.grownBy.refl _ _⟩
    case round =>
      obtain ⟨j, Z, hj, rfl, rfl, hown, hu, hgr⟩ := hrel
      have hz := hide hown.1
      have Hown := hide hown
      clear hown
      by_cases hlt : j < n
      · obtain ⟨z, hzk⟩ : ∃ z, Z[j]? = some z := ⟨Z[j]'(by have := hz.out; omega), List.getElem?_eq_getElem _⟩
        have hcz : wr.cell? ⟨b, j, none⟩ = some z := (Hown.out.cellAt j (by omega)).trans hzk
        have hfz : wr.frozen? ⟨b, j, none⟩ = false := Hown.out.frozenAt j
        have hst := hide (Hown.out.stored j (.int .i64 ((k + j : Nat) : Int)))
        have H : Hid (∀ i, i < j + 1 → (Z.set j (.int .i64 ((k + j : Nat) : Int)))[i]? = some (.int .i64 ((k + i : Nat) : Int))) := fun i hi => by
          by_cases e : i = j
          · subst e; exact List.getElem?_set_self (by have := hz.out; omega)
          · rw [List.getElem?_set_ne (by omega)]; exact hu.out i (by omega)
        clear hzk
        go_wp2_with fail
        go_roundw
        case rel => exact ⟨j + 1, _, by omega, by go_num, by go_num, hst.out.1, H, grown_tr hgr.out hst.out.2⟩
        case measure => simp [intOf]; omega
      · obtain rfl : j = n := by omega
        have HZ : Hid (Z = (marksI k j).map (Value.int .i64)) := by
          have h1 := hz.out
          have h3 := hu.out
          apply List.ext_getElem? ; intro i
          rcases Nat.lt_or_ge i j with hi | hi
          · rw [h3 i hi, List.getElem?_map, marksI_at hi]; rfl
          · rw [List.getElem?_eq_none (by omega), List.getElem?_eq_none (by rw [List.length_map, marksI_len]; omega)]
        go_wp2_with fail
        go_ret
        exact ⟨rfl, by rw [← HZ.out]; exact Hown.out, hgr.out⟩
set_option maxHeartbeats 1000000 in
theorem e_heldI (A : Option Addr) (n c k : Nat) (w : World) (hL : Ints w w.heap.size A n (marksI k n)) (hk : 1 ≤ k) (hk2 : k ≤ 1500000) (hn : n ≤ 2000000) :
    Calls Try.prog 38 #[.slice A n c, .int .i64 k] w fun e w' => e = .returned (.int .i64 ((k + n : Nat) : Int)) ∧ Below w.heap.size w w' := by
  have HL := hide hL
  clear hL
  go_enter Try.func38, Try.ntmps38
  go_wp2_with fail
  go_loopw [1, 5] (fun r i wr => ∃ (j : Nat), j ≤ n ∧ r = .int .i64 ((k + j : Nat) : Int) ∧ i = .int .i64 j ∧ wr = w) (fun _ i _ => n - (intOf i).toNat)
  case atStart => exact ⟨0, Nat.zero_le _, rfl, rfl, rfl⟩
  case round =>
    obtain ⟨j, hj, rfl, rfl, rfl⟩ := hrel
    by_cases hlt : j < n
    · obtain ⟨g, off, rfl, hgb, hc0⟩ := HL.out.at' (marksI_at hlt)
      go_wp2_with fail
      go_roundw
      case rel => exact ⟨j + 1, by omega, by go_num, by go_num, by first | trivial | rfl⟩
      case measure => simp [intOf]; omega
    · obtain rfl : j = n := by omega
      go_wp2_with fail
      go_ret
      exact ⟨rfl, Below.refl _ _⟩

theorem own1I_row {w w' : World} {L : List Int} {e : Ending} (h : Own1I w L e w') : ∃ A n c, ∃ z : Int, e = .returned (.slice A n c) ∧ Hid (z = 0) ∧ w'.ownsRow w.heap.size 3 1 (.slice A n c) n (L.map (Value.int .i64)) ∧ Below w.heap.size w w' := by
  obtain ⟨v, rfl, ⟨A, n, c, rfl, h1⟩, hb⟩ := h
  exact ⟨A, n, c, 0, rfl, rfl, h1, hb⟩
end Go.Proofs.Ytfncmkmhdddmiab
