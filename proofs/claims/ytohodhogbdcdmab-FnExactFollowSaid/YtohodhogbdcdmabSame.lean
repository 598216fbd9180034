/- sameNames of a list and itself. -/
import Derived.Test.YtohodhogbdcdmabNs3
namespace Go.Proofs.Ytohodhogbdcdmab
open Go.RowKit

theorem l_same_t (A : Option Addr) (n c : Nat) (B : Option Addr) (m d : Nat) (L : List ByteArray) (w : World) (hL : Strs w w.heap.size A n L) (hM : Strs w w.heap.size B m L) (hn : n ≤ maxLen) (hm : m ≤ maxLen) :
    Calls Try.prog 24 #[.slice A n c, .slice B m d] w fun e w' => e = .returned (.bool true) ∧ ∃ q, w' = w.drewN q := by
  refine (l_same A n c L B m d L w hL hM hn hm).mono fun e w' h => ?_
  rw [decide_eq_true (rfl : L = L)] at h
  exact h
end Go.Proofs.Ytohodhogbdcdmab
