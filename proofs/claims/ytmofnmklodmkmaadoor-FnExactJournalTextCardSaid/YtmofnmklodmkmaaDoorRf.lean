/- Lines read: the spec's functions. -/
import Derived.Test.YtmofnmklodmkmaaDoorRt
import Derived.Test.YtmofnmklodmkmaaDoorWith
set_option linter.unusedVariables false
set_option linter.unusedSimpArgs false
namespace Go.Proofs.YtmofnmklodmkmaaDoor
open Go.RowKit

theorem ext_tb (s : ByteArray) (a b : Nat) : s.extract a b = tb ((s.data.toList.take b).drop a) := by
  apply ba_ext
  rw [tb_data]
  simp only [ByteArray.data_extract, Array.toList_extract, List.extract_eq_take_drop]
  rw [List.drop_take]
theorem valL_snoc (l : Txt) (c : UInt8) : valL (l ++ [c]) = 10 * valL l + (c.toNat - 48) := by unfold valL; rw [List.foldl_append]; rfl
theorem valL_lt (l : Txt) (h : ∀ c ∈ l, isDg c = true) : l.length ≤ 3 → valL l < 1000 := by
  intro hl
  have : ∀ (l : Txt) (n : Nat), (∀ c ∈ l, isDg c = true) → l.foldl (fun n c => 10 * n + (c.toNat - 48)) n < (n + 1) * 10 ^ l.length := by
    intro l
    induction l with
    | nil => intro n _; simp
    | cons a l ih =>
      intro n h
      have h1 := ih (10 * n + (a.toNat - 48)) fun c hc => h c (List.mem_cons_of_mem _ hc)
      have h2 := isDg_iff.1 (h a (List.mem_cons_self ..))
      rw [List.foldl_cons, List.length_cons, Nat.pow_succ]
      refine Nat.lt_of_lt_of_le h1 ?_
      rw [Nat.mul_comm (10 ^ l.length) 10, ← Nat.mul_assoc]
      exact Nat.mul_le_mul_right _ (by omega)
  have h1 := this l 0 h
  unfold valL
  have h2 : 10 ^ l.length ≤ 10 ^ 3 := Nat.pow_le_pow_right (by omega) hl
  omega

theorem take_snoc (s : ByteArray) (k : Nat) (h : k < s.size) : s.data.toList.take (k + 1) = s.data.toList.take k ++ [s[k]] := by
  rw [List.take_succ_eq_append_getElem (by simpa using h)]; rfl
theorem cutF_snoc (l : Txt) (c : UInt8) : cutF (l ++ [c]) = cstep (cutF l) c := by unfold cutF; rw [List.foldl_append]; rfl

/-- The words so far, and where the word at hand began. -/
structure Cut (s : ByteArray) (k a : Nat) (O : List Txt) : Prop where
  le : a ≤ k
  ks : k ≤ s.size
  cut : cutF (s.data.toList.take k) = (O, (s.data.toList.take k).drop a)
  len : O.length ≤ k
theorem Cut.zero (s : ByteArray) : Cut s 0 0 [] := ⟨Nat.le_refl _, Nat.zero_le _, rfl, Nat.le_refl _⟩
theorem Cut.blank {s : ByteArray} {k a : Nat} {O : List Txt} (h : Cut s k a O) (hk : k < s.size) (hc : s[k] = 32) : Cut s (k + 1) (k + 1) (O ++ [(s.data.toList.take k).drop a]) := by
  refine ⟨Nat.le_refl _, hk, ?_, by have := h.len; simp; omega⟩
  rw [take_snoc s k hk, cutF_snoc, h.cut, hc]
  unfold cstep
  rw [if_pos rfl]
  congr 1
  rw [List.drop_of_length_le]
  simp; omega
theorem Cut.more {s : ByteArray} {k a : Nat} {O : List Txt} (h : Cut s k a O) (hk : k < s.size) (hc : s[k] ≠ 32) : Cut s (k + 1) a O := by
  have := h.le
  refine ⟨by omega, hk, ?_, by have := h.len; omega⟩
  rw [take_snoc s k hk, cutF_snoc, h.cut]
  unfold cstep
  rw [if_neg hc, List.drop_append_of_le_length (by simp; omega)]
theorem Cut.end' {s : ByteArray} {k a : Nat} {O : List Txt} (h : Cut s k a O) (hk : ¬ k < s.size) : O.map tb ++ [s.extract a s.size] = (cutL s.data.toList).map tb := by
  have e : s.data.toList.take k = s.data.toList := List.take_of_length_le (by simp; omega)
  have h1 := h.cut
  rw [e] at h1
  unfold cutL
  rw [h1, List.map_append, ext_tb, List.take_of_length_le (by simp)]
  rfl
theorem tb_strs (O : List Txt) (x : Txt) : (O.map tb).map Value.string ++ [Value.string (tb x)] = ((O ++ [x]).map tb).map Value.string := by simp

theorem row_slice {w : World} {base : Nat} {e : TypeId} {size m : Nat} {v : Value} {xs : List Value} (h : w.ownsRow base e size v m xs) : ∃ A c, v = .slice A m c := by
  rcases h.2 with ⟨rfl, rfl⟩ | ⟨g, cap, cur, rfl, _⟩
  · exact ⟨_, _, rfl⟩
  · exact ⟨_, _, rfl⟩

end Go.Proofs.YtmofnmklodmkmaaDoor
