/- Lists of names: l1At, sameNames, hasName. -/
import Derived.Test.YtmofnmklodmkmaaGreatDoorNs
import Derived.LoopTactic
namespace Go.Proofs.YtmofnmklodmkmaaGreatDoor
open Go.RowKit

theorem beq_of_ne {s t : ByteArray} (h : s ≠ t) : (s.toList == t.toList) = false := by
  rw [beq_eq_false_iff_ne]; exact fun e => h (toList_inj e)

/-- The first place of s, or -1. -/
def atI (L : List ByteArray) (s : ByteArray) : Int := if memB L s = true then (L.findIdx (fun t => decide (t = s)) : Int) else -1
theorem atI_of {L : List ByteArray} {s : ByteArray} {k : Nat} (h : L[k]? = some s) (hn : ∀ j, j < k → L[j]? ≠ some s) : atI L s = k := by
  unfold atI
  rw [if_pos (memB_t (List.mem_of_getElem? h))]
  obtain ⟨hk, e⟩ := List.getElem?_eq_some_iff.1 h
  have : L.findIdx (fun t => decide (t = s)) = k := by
    rw [List.findIdx_eq hk]
    refine ⟨by simp [e], fun j hj => ?_⟩
    have := hn j hj
    rw [List.getElem?_eq_getElem (by omega)] at this
    simpa using this
  rw [this]
theorem atI_no {L : List ByteArray} {s : ByteArray} (h : s ∉ L) : atI L s = -1 := by unfold atI; rw [memB_f h]; rfl
theorem not_mem_of {L : List ByteArray} {s : ByteArray} (h : ∀ j, j < L.length → L[j]? ≠ some s) : s ∉ L := fun hm => by
  obtain ⟨j, hj, e⟩ := List.mem_iff_getElem.1 hm
  exact h j hj (by rw [List.getElem?_eq_getElem hj, e])

def Agree (L M : List ByteArray) (k : Nat) : Prop := ∀ j, j < k → L[j]? = M[j]?
theorem Agree.all {L M : List ByteArray} (h : Agree L M L.length) (hl : L.length = M.length) : L = M := by
  apply List.ext_getElem? ; intro j
  rcases Nat.lt_or_ge j L.length with h1 | h1
  · exact h j h1
  · rw [List.getElem?_eq_none h1, List.getElem?_eq_none (by omega)]

end Go.Proofs.YtmofnmklodmkmaaGreatDoor
