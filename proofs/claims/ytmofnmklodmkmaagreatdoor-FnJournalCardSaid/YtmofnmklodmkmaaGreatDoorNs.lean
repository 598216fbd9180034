/- Lists of names: what the program and its model say of them. -/
import Derived.Test.YtmofnmklodmkmaaGreatDoorOrd
import Derived.Test.YtmofnmklodmkmaaGreatDoorBase
import Derived.Test.YtmofnmklodmkmaaGreatDoorNv
import Derived.Deep.QuietTactic
import Derived.BigQuiet
import Derived.WalkLawsBesides
namespace Go.Proofs.YtmofnmklodmkmaaGreatDoor
open Go.RowKit

theorem nsB_len {L : List ByteArray} (h : 10 < L.length) : nsB L = false := nsB_f (fun hh => by omega)
theorem nsB_bad {L : List ByteArray} {k : Nat} {s : ByteArray} (hs : L[k]? = some s) (h : nvB s = false) : nsB L = false :=
  nsB_f (fun hh => by rw [hh.2.1 s (List.mem_of_getElem? hs)] at h; cases h)
theorem nsB_turn {L : List ByteArray} {k : Nat} {s t : ByteArray} (hs : L[k]? = some s) (ht : L[k + 1]? = some t) (h : blt s t = false) : nsB L = false :=
  nsB_f (fun hh => by rw [asc_iff.1 hh.2.2 k s t hs ht] at h; cases h)
/-- The first k names are valid and ascend. -/
def Upto (L : List ByteArray) (k : Nat) : Prop := ∀ j s, j < k → L[j]? = some s → nvB s = true ∧ ∀ t, j + 1 < k → L[j + 1]? = some t → blt s t = true
theorem Upto.zero (L : List ByteArray) : Upto L 0 := fun j _ h => absurd h (by omega)
theorem Upto.one {L : List ByteArray} {s : ByteArray} (hs : L[0]? = some s) (h : nvB s = true) : Upto L 1 := fun j t hj ht => by
  obtain rfl : j = 0 := by omega
  rw [hs] at ht; cases ht
  exact ⟨h, fun _ hh => absurd hh (by omega)⟩
theorem Upto.more {L : List ByteArray} {k : Nat} {r s : ByteArray} (hu : Upto L (k + 1)) (hr : L[k]? = some r) (hs : L[k + 1]? = some s) (h : nvB s = true) (hl : blt r s = true) : Upto L (k + 2) := fun j t hj ht => by
  by_cases e : j = k + 1
  · subst e; rw [hs] at ht; cases ht; exact ⟨h, fun _ hh => absurd hh (by omega)⟩
  · refine ⟨(hu j t (by omega) ht).1, fun u hju hu2 => ?_⟩
    by_cases e2 : j = k
    · subst e2; rw [hr] at ht; rw [hs] at hu2; cases ht; cases hu2; exact hl
    · exact (hu j t (by omega) ht).2 u (by omega) hu2
theorem Upto.all {L : List ByteArray} (h : Upto L L.length) (hl : L.length ≤ 10) : nsB L = true := by
  rw [nsB_iff]
  refine ⟨hl, fun s hs => ?_, asc_iff.2 fun k a b ha hb => ?_⟩
  · obtain ⟨j, hj, rfl⟩ := List.mem_iff_getElem.1 hs
    exact (h j _ hj (List.getElem?_eq_getElem hj)).1
  · have := (List.getElem?_eq_some_iff.1 hb).1
    exact (h k a (by omega) ha).2 b this hb
theorem Upto.long {L : List ByteArray} (hl : ¬ L.length ≤ 10) : nsB L = false := nsB_len (by omega)
/-- The names of a list are short. -/
def Small (L : List ByteArray) : Prop := ∀ s ∈ L, s.size ≤ maxLen

end Go.Proofs.YtmofnmklodmkmaaGreatDoor
