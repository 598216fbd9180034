/- Names as lists of bytes: what a valid name is; plain mathematics, no program. -/
import Derived.Below
import Derived.Lib.Strings
namespace Go.Proofs.YtmofnmklodmkmaaGreatDoor
open Go.RowKit

theorem hide {p : Prop} (h : p) : Hid p := h
theorem ret_bool {a b : Bool} (h : a = b) : Ending.returned (.bool a) = .returned (.bool b) := by rw [h]
theorem ret_int {k : IntKind} {a b : Int} (h : a = b) : Ending.returned (.int k a) = .returned (.int k b) := by rw [h]

/-- A small letter. -/
def ltr (c : UInt8) : Bool := 97 ≤ c && c ≤ 122
theorem ltr_iff (c : UInt8) : ltr c = true ↔ (97 : Int) ≤ (c.toNat : Int) ∧ (c.toNat : Int) ≤ 122 := by
  unfold ltr; simp [UInt8.le_iff_toNat_le]; omega
/-- A valid name. -/
def nvB (s : ByteArray) : Bool := decide (1 ≤ s.size) && decide (s.size ≤ 4) && s.data.toList.all ltr
theorem nvB_size {s : ByteArray} (h : nvB s = true) : 1 ≤ s.size ∧ s.size ≤ 4 := by
  unfold nvB at h; simp at h; omega
theorem nvB_of {s : ByteArray} (h1 : 1 ≤ s.size) (h4 : s.size ≤ 4) (ha : ∀ k (h : k < s.size), ltr s[k] = true) : nvB s = true := by
  unfold nvB
  simp only [decide_eq_true h1, decide_eq_true h4, Bool.true_and]
  rw [List.all_eq_true]
  intro x hx
  obtain ⟨k, hk, rfl⟩ := List.mem_iff_getElem.1 hx
  exact ha k (by simpa using hk)
theorem nvB_not {s : ByteArray} {k : Nat} (h : k < s.size) (hl : ltr s[k] = false) : nvB s = false := by
  unfold nvB
  have : s.data.toList.all ltr = false := by
    rw [List.all_eq_false]
    exact ⟨s[k], by exact List.mem_iff_getElem.2 ⟨k, by simpa using h, rfl⟩, by simp [hl]⟩
  simp [this]
theorem nvB_digit (s : ByteArray) : nvB (s ++ { data := #[49] }) = false := by
  unfold nvB
  have : (s ++ { data := #[49] } : ByteArray).data.toList.all ltr = false := by
    rw [ByteArray.data_append, Array.toList_append, List.all_append]
    have : (({ data := #[49] } : ByteArray).data.toList.all ltr) = false := by decide
    rw [this, Bool.and_false]
  rw [this, Bool.and_false]
theorem nvB_four (s : ByteArray) (h : 1 ≤ s.size) : nvB (s ++ { data := #[97, 97, 97, 97] }) = false := by
  unfold nvB
  have : ¬ (s ++ { data := #[97, 97, 97, 97] } : ByteArray).size ≤ 4 := by
    rw [ByteArray.size_append]; show ¬ s.size + 4 ≤ 4; omega
  rw [decide_eq_false this, Bool.and_false, Bool.false_and]
theorem nvB_first (s : ByteArray) (h : nvB s = true) : nvB (s.extract 0 1) = true := by
  have hz := nvB_size h
  have hsz : (s.extract 0 1).size = 1 := by rw [ByteArray.size_extract]; omega
  refine nvB_of (by omega) (by omega) (fun k hk => ?_)
  unfold nvB at h
  simp only [Bool.and_eq_true, List.all_eq_true] at h
  have e : (s.extract 0 1)[k] = s[0] := by
    have : k = 0 := by omega
    subst this
    rw [ByteArray.getElem_extract]
  rw [e]
  exact h.2 _ (List.mem_iff_getElem.2 ⟨0, by simp; omega, rfl⟩)
end Go.Proofs.YtmofnmklodmkmaaGreatDoor
