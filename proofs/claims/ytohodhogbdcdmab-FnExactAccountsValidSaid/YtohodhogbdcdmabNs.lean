/- Lists of names: what the program and its model say of them. -/
import Derived.Test.YtohodhogbdcdmabOrd
import Derived.Test.YtohodhogbdcdmabBase
import Derived.Test.YtohodhogbdcdmabNv
import Derived.Deep.QuietTactic
import Derived.BigQuiet
import Derived.WalkLawsBesides
namespace Go.Proofs.Ytohodhogbdcdmab
open Go.RowKit

theorem nsB_len {L : List ByteArray} (h : 10 < L.length) : nsB L = false := nsB_f (fun hh => by omega)
theorem nsB_bad {L : List ByteArray} {k : Nat} {s : ByteArray} (hs : L[k]? = some s) (h : nvB s = false) : nsB L = false :=
  nsB_f (fun hh => by rw [hh.2.1 s (List.mem_of_getElem? hs)] at h; cases h)
theorem nsB_turn {L : List ByteArray} {k : Nat} {s t : ByteArray} (hs : L[k]? = some s) (ht : L[k + 1]? = some t) (h : blt s t = false) : nsB L = false :=
  nsB_f (fun hh => by rw [asc_iff.1 hh.2.2 k s t hs ht] at h; cases h)
/-- The first k names are valid and ascend. -/
def Upto (L : List ByteArray) (k : Nat) : Prop := ∀ j s, j < k → L[j]? = some s → nvB s = true ∧ ∀ t, j + 1 < k → L[j + 1]? = some t → blt s t = true
theorem Upto.zero (L : List ByteArray) : Upto L 0 := fun j _ h => absurd h (by omega)
theorem Upto.one {L : List ByteArray} {s : ByteArray} (hs : L[0]? = some s) (h : nvB s = true) : Upto L 1 := fun j t hj ht => by
  obtain rfl : j = 0 := by omega
  rw [hs] at ht; cases ht
  exact ⟨h, fun _ hh => absurd hh (by omega)⟩
theorem Upto.more {L : List ByteArray} {k : Nat} {r s : ByteArray} (hu : Upto L (k + 1)) (hr : L[k]? = some r) (hs : L[k + 1]? = some s) (h : nvB s = true) (hl : blt r s = true) : Upto L (k + 2) := fun j t hj ht => by
  by_cases e : j = k + 1
  · subst e; rw [hs] at ht; cases ht; exact ⟨h, fun _ hh => absurd hh (by omega)⟩
  · refine ⟨(hu j t (by omega) ht).1, fun u hju hu2 => ?_⟩
    by_cases e2 : j = k
    · subst e2; rw [hr] at ht; rw [hs] at hu2; cases ht; cases hu2; exact hl
    · exact (hu j t (by omega) ht).2 u (by omega) hu2
theorem Upto.all {L : List ByteArray} (h : Upto L L.length) (hl : L.length ≤ 10) : nsB L = true := by
  rw [nsB_iff]
  refine ⟨hl, fun s hs => ?_, asc_iff.2 fun k a b ha hb => ?_⟩
  · obtain ⟨j, hj, rfl⟩ := List.mem_iff_getElem.1 hs
    exact (h j _ hj (List.getElem?_eq_getElem hj)).1
  · have := (List.getElem?_eq_some_iff.1 hb).1
    exact (h k a (by omega) ha).2 b this hb
theorem Upto.long {L : List ByteArray} (hl : ¬ L.length ≤ 10) : nsB L = false := nsB_len (by omega)
/-- The names of a list are short. -/
def Small (L : List ByteArray) : Prop := ∀ s ∈ L, s.size ≤ maxLen

set_option maxHeartbeats 1000000 in
theorem nl_valid (A : Option Addr) (n c : Nat) (L : List ByteArray) (w : World) (hL : Strs w w.heap.size A n L) (hS : Small L) (hn : n ≤ maxLen) :
    Calls Try.prog 68 #[.slice A n c] w fun e w' => e = .returned (.bool (nsB L)) ∧ w = w' := by
  unfold maxLen at hn
  have hl := hide hL.1
  by_cases h10 : 10 < n
  · have H : Hid (nsB L = false) := nsB_len (by have := hl.out; omega)
    clear hL hS
    go_enter Try.func68, Try.ntmps68
    go_wp2_with fail
    go_ret
    exact ⟨ret_bool H.out.symm, rfl⟩
  have hL := hide hL.2
  have hS := hide hS
  go_enter Try.func68, Try.ntmps68
  go_wp2_with fail
  go_loop [3, 4, 10] (fun _ _ i => ∃ k : Nat, k ≤ n ∧ i = .int .i64 k ∧ Hid (Upto L k)) (fun _ _ i => n - (intOf i).toNat)
  case atStart => exact ⟨0, Nat.zero_le _, rfl, Upto.zero L⟩
  case round =>
    obtain ⟨k, hk, rfl, hu⟩ := hrel
    by_cases hlt : k < n
    · obtain ⟨g, off, rfl, hb, hc⟩ := hL.out (by omega)
      obtain ⟨s, hs⟩ : ∃ s, L[k]? = some s := ⟨L[k]'(by have := hl.out; omega), List.getElem?_eq_getElem _⟩
      have hck := hc k s hs
      have hsz := hS.out s (List.mem_of_getElem? hs)
      cases hv : nvB s
      · have H : Hid (nsB L = false) := nsB_bad hs hv
        clear hs hc
        go_wp2_with fail
        refine (nt_valid s _ hsz).mono ?_
        rintro e w' ⟨rfl, rfl⟩
        rw [hv]
        go_wp2_with fail
        go_ret
        exact ⟨ret_bool H.out.symm, rfl⟩
      · rcases k with _ | k
        · have H : Hid (Upto L 1) := Upto.one hs hv
          rw [Nat.add_zero] at hck
          clear hs hc
          go_wp2_with fail
          refine (nt_valid s _ hsz).mono ?_
          rintro e w' ⟨rfl, rfl⟩
          rw [hv]
          go_wp2_with fail
          go_round
          case rel => exact ⟨1, by omega, by go_num, H⟩
          case measure => simp [intOf]; omega
        · obtain ⟨r, hr⟩ : ∃ r, L[k]? = some r := ⟨L[k]'(by have := hl.out; omega), List.getElem?_eq_getElem _⟩
          have hcr := hc k r hr
          cases hrs : blt r s
          · have H : Hid (nsB L = false) := nsB_turn hr hs hrs
            have hrs' : Op.bytesLess r.toList s.toList = false := hrs
            clear hs hr hc hrs
            go_wp2_with fail
            refine (nt_valid s _ hsz).mono ?_
            rintro e w' ⟨rfl, rfl⟩
            rw [hv]
            go_wp2_with fail
            go_ret
            exact ⟨ret_bool H.out.symm, rfl⟩
          · have H : Hid (Upto L (k + 2)) := hu.out.more hr hs hv hrs
            have hrs' : Op.bytesLess r.toList s.toList = true := hrs
            clear hs hr hc hrs
            go_wp2_with fail
            refine (nt_valid s _ hsz).mono ?_
            rintro e w' ⟨rfl, rfl⟩
            rw [hv]
            go_wp2_with fail
            go_round
            case rel => exact ⟨k + 2, by omega, by go_num, H⟩
            case measure => simp [intOf]; omega
    · have H : Hid (nsB L = true) := Upto.all (by have h1 := hu.out; have h2 := hl.out; rw [h2]; rw [show n = k by omega]; exact h1) (by have := hl.out; omega)
      go_wp2_with fail
      go_ret
      exact ⟨ret_bool H.out.symm, rfl⟩

end Go.Proofs.Ytohodhogbdcdmab
