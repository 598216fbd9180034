/- Lists of names: NamesValid of both, l1At, sameNames, hasName. -/
import Derived.Test.YtohodhogbdcdmabNs
namespace Go.Proofs.Ytohodhogbdcdmab
open Go.RowKit

set_option maxHeartbeats 400000 in
theorem i_NamesValid (A : Option Addr) (n c : Nat) (L : List ByteArray) (w : World) (hL : Strs w w.heap.size A n L) (hS : Small L) (hn : n ≤ maxLen) :
    Calls Try.prog 50 #[.slice A n c] w fun e w' => e = .returned (.bool (nsB L)) ∧ w = w' := by
  have hL := hide hL
  have hS := hide hS
  have hn := hide hn
  go_enter Try.func50, Try.ntmps50
  go_wp2_with fail
  refine (nl_valid A n c L _ hL.out hS.out hn.out).mono ?_
  rintro e w' ⟨rfl, rfl⟩
  go_wp2_with fail
  go_ret
  exact ⟨rfl, rfl⟩

def leB (n m : Nat) : Bool := decide (n ≤ m)
set_option maxHeartbeats 1000000 in
theorem s_NamesValid (A : Option Addr) (n c : Nat) (L : List ByteArray) (w : World) (hL : Strs w w.heap.size A n L) (hS : Small L) (hn : n ≤ maxLen) :
    Calls Try.prog 55 #[.slice A n c] w fun e w' => e = .returned (.bool (nsB L)) ∧ ∃ q, w' = w.drewN q := by
  unfold maxLen at hn
  have hl := hide hL.1
  have hL := hide hL.2
  have hS := hide hS
  go_enter Try.func55, Try.ntmps55
  go_wp2_with fail
  go_loopw [3] (fun i wr => ∃ k q : Nat, k ≤ n ∧ i = .int .i64 k ∧ Hid (Upto L k) ∧ wr = w.drewN q) (fun i _ => n - (intOf i).toNat)
  case atStart => exact ⟨0, 0, Nat.zero_le _, rfl, Upto.zero L, rfl⟩
  case round =>
    obtain ⟨k, q, hk, rfl, hu, rfl⟩ := hrel
    by_cases hlt : k < n
    · obtain ⟨g, off, rfl, hb, hc⟩ := hL.out (by omega)
      obtain ⟨s, hs⟩ : ∃ s, L[k]? = some s := ⟨L[k]'(by have := hl.out; omega), List.getElem?_eq_getElem _⟩
      have hck := hc k s hs
      have hsz := hS.out s (List.mem_of_getElem? hs)
      cases hv : nvB s
      · have H : Hid (nsB L = false) := nsB_bad hs hv
        have HV := hide hv
        clear hs hc hv
        go_wp2_with fail
        go_quiet ((go_at_call 54; exact quiet_add_left (s_NV HV.out _ hsz)))
        go_wp2_with fail
        go_ret
        exact ⟨ret_bool H.out.symm, _, World.drewN_drewN _ _ _⟩
      · rcases k with _ | k
        · have H : Hid (Upto L 1) := Upto.one hs hv
          rw [Nat.add_zero] at hck
          have HV := hide hv
          clear hs hc hv
          go_wp2_with fail
          go_quiet ((go_at_call 54; exact quiet_add_left (s_NV HV.out _ hsz)))
          go_wp2_with fail
          go_roundw
          case rel => exact ⟨1, _, by omega, by go_num, H, rfl⟩
          case measure => simp [intOf]; omega
        · obtain ⟨r, hr⟩ : ∃ r, L[k]? = some r := ⟨L[k]'(by have := hl.out; omega), List.getElem?_eq_getElem _⟩
          have hcr := hc k r hr
          have hk1 : (k : Int) + 1 < (n : Int) := by omega
          cases hrs : blt r s
          · have H : Hid (nsB L = false) := nsB_turn hr hs hrs
            have hrs' : Op.bytesLess r.toList s.toList = false := hrs
            have HV := hide hv
            clear hs hr hc hrs hv
            go_wp2_with fail
            go_quiet ((go_at_call 54; exact quiet_add_left (s_NV HV.out _ hsz)))
            go_wp2_with fail
            go_ret
            exact ⟨ret_bool H.out.symm, _, World.drewN_drewN _ _ _⟩
          · have H : Hid (Upto L (k + 2)) := hu.out.more hr hs hv hrs
            have hrs' : Op.bytesLess r.toList s.toList = true := hrs
            have HV := hide hv
            clear hs hr hc hrs hv
            go_wp2_with fail
            go_quiet ((go_at_call 54; exact quiet_add_left (s_NV HV.out _ hsz)))
            go_wp2_with fail
            go_roundw
            case rel => exact ⟨k + 2, _, by omega, by go_num, H, rfl⟩
            case measure => simp [intOf]; omega
    · have H : Hid (nsB L = decide ((n : Int) ≤ 10)) := by
        have h1 := hu.out
        have h2 := hl.out
        rw [show k = n by omega, ← h2] at h1
        by_cases h10 : L.length ≤ 10
        · exact (h1.all h10).trans (by simp; omega)
        · exact (Upto.long h10).trans (by simp; omega)
      go_wp2_with fail
      go_ret
      exact ⟨ret_bool H.out.symm, _, rfl⟩
end Go.Proofs.Ytohodhogbdcdmab
