/- sameRecords. -/
import Derived.Test.YtmofnmklodmkmaaGreatDoorRw
import Derived.LoopTactic
import Derived.Deep.QuietTactic
import Derived.BigQuiet
set_option linter.unusedVariables false
set_option linter.unusedSimpArgs false
namespace Go.Proofs.YtmofnmklodmkmaaGreatDoor
open Go.RowKit

set_option maxHeartbeats 1000000 in
theorem l_sameRs (A : Option Addr) (n c : Nat) (B : Option Addr) (m d : Nat) (X : List Rec) (w : World) (hL : Rcs w w.heap.size A n X) (hM : Rcs w w.heap.size B m X) (hn : n ≤ maxLen) :
    Calls Tryz.prog 15 #[.slice A n c, .slice B m d] w fun e w' => e = .returned (.bool true) ∧ ∃ q, w' = w.drewN q := by
  unfold maxLen at hn
  have hnm : n = m := hL.1.symm.trans hM.1
  subst hnm
  have hl := hide hL.1
  have HL := hide hL
  have HM := hide hM
  clear hL hM
  go_enter Tryz.func15, Tryz.ntmps15
  go_wp2_with fail
  go_loopw [5] (fun i wr => ∃ k q : Nat, k ≤ n ∧ i = .int .i64 k ∧ wr = w.drewN q) (fun i _ => n - (intOf i).toNat)
  case atStart => exact ⟨0, 0, Nat.zero_le _, rfl, rfl⟩
  case round =>
    obtain ⟨k, q, hk, rfl, rfl⟩ := hrel
    by_cases hlt : k < n
    · obtain ⟨a, ha⟩ : ∃ a, X[k]? = some a := ⟨X[k]'(by have := hl.out; omega), List.getElem?_eq_getElem _⟩
      obtain ⟨g, off, rfl, hg, hc⟩ := HL.out.at' ha
      obtain ⟨g2, off2, rfl, hg2, hd⟩ := HM.out.at' ha
      obtain ⟨r1, r2, r3, r4, r5⟩ := a; obtain ⟨c0, c1, c2, c3, c4⟩ := hc; obtain ⟨d0, d1, d2, d3, d4⟩ := hd; simp only at c0 c1 c2 c3 c4 d0 d1 d2 d3 d4
      clear ha
      go_wp2_with fail
      go_quiet (fail)
      go_wp2_with fail
      go_roundw
      case rel => exact ⟨k + 1, _, by omega, by go_num, by first | rfl | exact World.drewN_drewN _ _ _⟩
      case measure => simp [intOf]; omega
    · go_wp2_with fail
      go_ret
      exact ⟨rfl, _, rfl⟩
theorem l_sameR {A B : Option Addr} {n c m d : Nat} {X : List Rec} (w : World) (hA : Rcs w w.heap.size A n X) (hB : Rcs w w.heap.size B m X) (hn : n ≤ maxLen) :
    Calls Tryz.prog 15 #[.slice A n c, .slice B m d] w fun e w' => e = .returned (.bool true) ∧ Below w.heap.size w w' :=
  (l_sameRs A n c B m d X w hA hB hn).mono fun e w' ⟨h1, q, h2⟩ => ⟨h1, h2 ▸ below_drewN' _ w q⟩
end Go.Proofs.YtmofnmklodmkmaaGreatDoor
