/- AccountsValid of both, l2At. -/
import Derived.Test.YtohodhogbdcdmabCon
import Derived.Outline
namespace Go.Proofs.Ytohodhogbdcdmab
open Go.RowKit

set_option maxHeartbeats 1000000 in
theorem a_valid (s : ByteArray) (A : Option Addr) (n c : Nat) (F : List ByteArray) (w : World) (hF : Strs w w.heap.size A n F) (hS : Small F) (hn : n ≤ maxLen) (hs : s.size ≤ maxLen) :
    Calls Try.prog 47 #[.agg #[.string s, .slice A n c]] w fun e w' => e = .returned (.bool (accB (s, F))) ∧ Below w.heap.size w w' := by
  have HF := hide hF
  have HS := hide hS
  have HN := hide hn
  have Hs := hide hs
  clear hF hS hn hs
  have HF' : ∀ T, Hid (Strs (w.alloc (.cells #[.string s, .slice A n c] T)) (w.alloc (.cells #[.string s, .slice A n c] T)).heap.size A n F) := fun T => hide (HF.out.on ((Below.refl _ _).alloc (Nat.le_refl _) _))
  go_enter Try.func47, Try.ntmps47
  go_wp2_with fail
  refine (i_NameValid s _ Hs.out).mono ?_
  rintro e w' ⟨rfl, rfl⟩
  cases h1 : nvB s
  · have H : Hid (accB (s, F) = false) := by show _ = _; unfold accB; rw [h1]; rfl
    go_wp2_with fail
    go_ret
    exact ⟨ret_bool H.out.symm, (Below.refl _ _).alloc (Nat.le_refl _) _⟩
  go_wp2_with fail
  refine (i_NamesValid A n c F _ (HF' _).out HS.out HN.out).mono ?_
  rintro e w' ⟨rfl, rfl⟩
  cases h2 : nsB F
  · have H : Hid (accB (s, F) = false) := by show _ = _; unfold accB; rw [h2, Bool.and_false]; rfl
    go_wp2_with fail
    go_ret
    exact ⟨ret_bool H.out.symm, (Below.refl _ _).alloc (Nat.le_refl _) _⟩
  go_wp2_with fail
  refine (c_has A n c F s _ (HF' _).out HN.out).mono ?_
  rintro e w' ⟨rfl, rfl⟩
  have H : Hid (accB (s, F) = !memB F s) := by show _ = _; unfold accB; rw [h1, h2]; rfl
  go_wp2_with fail
  go_ret
  exact ⟨ret_bool H.out.symm, (Below.refl _ _).alloc (Nat.le_refl _) _⟩
end Go.Proofs.Ytohodhogbdcdmab
