/- Walk of FnRecordDamage. -/
import Derived.Test.YtiejbliadegcdaaDrR3
import Derived.Test.YtiejbliadegcdaaIrb
import Derived.Laws.IdiomStrings
set_option linter.unusedVariables false
set_option linter.unusedSimpArgs false
namespace Go.Proofs.Ytiejbliadegcdaa
open Go.RowKit Go.BigFrame

/-- The bytes of a text in a block of their own. -/
structure Byt (w W : World) (l : Txt) (c : Nat) : Prop where
  below : Below w.heap.size w W
  size : W.heap.size = w.heap.size + 1
  cell : ∀ j b, l[j]? = some b → W.cell? ⟨w.heap.size, j, none⟩ = some (.int .u8 (b.toNat : Int))
  free : ∀ j, j < l.length → W.frozen? ⟨w.heap.size, j, none⟩ = false
theorem bytes_of (w : World) (s : ByteArray) : ∃ c W, (convert 9 22 (.string s)).run Try.prog w = .ok (.slice (some ⟨w.heap.size, 0, none⟩) s.size c) W ∧ Byt w W s.data.toList c := by
  refine ⟨_, _, run_bytes_of_string w _ _ 5 s (by kernel_rfl) Try.underlying22 (by kernel_rfl), ?_⟩
  generalize grownCap w s.size 0 5 = cap
  refine ⟨(Below.refl _ w).drew.alloc (Nat.le_refl _) _, by simp, ?_, ?_⟩
  · intro j b hj
    have h := World.cell?_alloc_mark w.drew (bytesRow s cap) 5 ((bytesRow s cap).size, (bytesRow s cap).size + 1) j
    refine h.trans ?_
    have hj1 := (List.getElem?_eq_some_iff.1 hj).1
    unfold bytesRow
    rw [Array.getElem?_append_left (by simpa using hj1), Array.getElem?_map]
    rw [Array.getElem?_toList] at hj
    rw [hj]
    rfl
  · intro j hj
    refine (World.frozen?_alloc_mark w.drew (bytesRow s cap) 5 _ _ j).trans ?_
    have : j < (bytesRow s cap).size := by unfold bytesRow; simp at hj ⊢; omega
    simp; omega
theorem bytes_back {w W : World} {l : Txt} {c q : Nat} {x : UInt8} {v : Int} (h : Byt w W l c) (hq : l[q]? = some x) (hv : v = ((x + 1).toNat : Int)) :
    (convert 22 9 (.slice (some ⟨w.heap.size, 0, none⟩) l.length c)).run Try.prog (W.setCell ⟨w.heap.size, q, none⟩ (.int .u8 v)) = .ok (.string (tb (l.set q (x + 1)))) (W.setCell ⟨w.heap.size, q, none⟩ (.int .u8 v)) := by
  subst hv
  have := run_convert_bytes_back (P := Try.prog) (W.setCell ⟨w.heap.size, q, none⟩ (.int .u8 ((x + 1).toNat : Int))) 22 9 5 ⟨w.heap.size, 0, none⟩ c (l.set q (x + 1)) Try.underlying22 (by kernel_rfl) (by kernel_rfl) ?_
  · rw [List.length_set] at this
    exact this
  · intro j hj
    rw [List.length_set] at hj
    rw [add_at, Nat.zero_add]
    have hcq := h.cell q x hq
    by_cases e : j = q
    · subst e
      rw [List.getElem_set_self]
      exact World.cell?_setCell_same' _ _ _ (by rw [hcq]; rfl)
    · rw [List.getElem_set_ne (fun e' => e e'.symm)]
      have hc := h.cell j l[j] (List.getElem?_eq_getElem _)
      rw [← hc]
      exact World.cell?_setCell_other _ _ _ _ (by intro e'; injection e' with _ e2 _; exact e e2.symm)

end Go.Proofs.Ytiejbliadegcdaa
