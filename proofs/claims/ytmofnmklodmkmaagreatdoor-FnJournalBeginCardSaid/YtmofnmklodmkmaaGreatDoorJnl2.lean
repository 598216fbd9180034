/- Journals, cut and gone on with: plain mathematics. -/
import Derived.Test.YtmofnmklodmkmaaGreatDoorJt
set_option linter.unusedVariables false
set_option linter.unusedSimpArgs false
namespace Go.Proofs.YtmofnmklodmkmaaGreatDoor
open Go.RowKit

theorem jf_begin {X : List Rec} (h : jl X ≠ []) {k : Nat} (hk : k < (jl X).length) : ∃ j n why, jf ((jl X).take k) = (X.take j, n, why) ∧ j < X.length ∧ why ≠ jBad := by
  obtain ⟨hb, _⟩ := jl_ne h
  obtain ⟨h1, h2⟩ := jB_iff.1 hb
  rw [jl_t hb] at hk ⊢
  obtain ⟨j, why, n, g1, g2, g3, _⟩ := jg_begin (L := X) (out := []) (n := 0) (t := (jls 0 X).take k) (u := (jls 0 X).drop k) h1 (by simpa using h2) (List.take_append_drop _ _).symm (by
    intro e
    have := congrArg List.length e
    rw [List.length_drop] at this
    simp at this
    omega)
  exact ⟨j, n, why, g1, g2, g3⟩
theorem jf_torn {X : List Rec} (h : jl X ≠ []) : ∃ n, jf (jl X).dropLast = (X.take (X.length - 1), n, jTorn) := by
  obtain ⟨hb, hne⟩ := jl_ne h
  obtain ⟨h1, h2⟩ := jB_iff.1 hb
  rw [jl_t hb] at h ⊢
  have hl := jls_last (L := X) (k := 0) hne
  have e : jls 0 X = (jls 0 X).dropLast ++ [10] := by
    have := List.dropLast_concat_getLast h
    rw [List.getLast?_eq_some_getLast h] at hl
    injection hl with hl
    rw [hl] at this
    exact this.symm
  obtain ⟨j, why, n, g1, g2, _, g4⟩ := jg_begin (L := X) (out := []) (n := 0) (t := (jls 0 X).dropLast) (u := [10]) h1 (by simpa using h2) e (by simp)
  obtain ⟨e1, e2⟩ := g4 rfl
  subst e1
  refine ⟨n, ?_⟩
  rw [show X.length - 1 = j by omega]
  exact g1
/-- A fine journal goes on with a line. -/
theorem jf_more {s : Txt} {X : List Rec} {n : Nat} {r : Rec} (h : jf s = (X, n, jFine)) (ht : textL ((X.length : Int) + 1) r ≠ []) : ∃ m, jf (s ++ (textL ((X.length : Int) + 1) r ++ [10])) = (X ++ [r], m, jFine) := by
  obtain ⟨Y, rest, why, g1, g2, g3, g4, _⟩ := jf_sound s
  rw [h] at g1
  injection g1 with e1 e2
  injection e2 with e2 e3
  subst e1
  have hr : rest = [] := g4.1 e3.symm
  subst hr
  rw [List.append_nil] at g2
  rw [g2, jf_on g3]
  refine ⟨(jl X).length + ((textL ((X.length : Int) + 1) r).length + 1), ?_⟩
  rw [show textL ((X.length : Int) + 1) r ++ [10] = textL ((X.length : Int) + 1) r ++ 10 :: [] from rfl, jg_line (text_free _ _), fromL_text ht]
  show (if _ then _ else _) = _
  rw [if_pos rfl, jg_nil]
/-- What is read is the beginning of the text. -/
theorem jf_text {s : Txt} {X : List Rec} {n : Nat} {why : Int} (h : jf s = (X, n, why)) : n ≤ s.length ∧ s.take n = jl X ∧ (why = jFine ↔ n = s.length) ∧ (why = 0 ∨ why = 1 ∨ why = 2) ∧ X.length ≤ 30 ∧ jB X = true := by
  obtain ⟨Y, rest, w, g1, g2, g3, g4, g5⟩ := jf_sound s
  rw [h] at g1
  injection g1 with e1 e2
  injection e2 with e2 e3
  subst e1 e2 e3
  refine ⟨by rw [g2]; simp, ?_, ?_, g5, (jB_iff.1 g3).2, g3⟩
  · have : s.take (jl X).length = (jl X ++ rest).take (jl X).length := by rw [← g2]
    rw [this]; simp
  · rw [g4]
    constructor
    · rintro rfl; rw [g2]; simp
    · intro e
      have := congrArg List.length g2
      rw [List.length_append] at this
      exact List.eq_nil_of_length_eq_zero (by omega)
theorem jl_take {X : List Rec} (h : jl X ≠ []) (k : Nat) : jl (X.take k) = (jl X).take (jl (X.take k)).length ∧ (jl (X.take k)).length ≤ (jl X).length := by
  obtain ⟨hb, _⟩ := jl_ne h
  obtain ⟨h1, h2⟩ := jB_iff.1 hb
  have hb2 : jB (X.take k) = true := jB_iff.2 ⟨fun r hr => h1 r (List.mem_of_mem_take hr), by rw [List.length_take]; omega⟩
  rw [jl_t hb, jl_t hb2]
  have e : jls 0 X = jls 0 (X.take k) ++ jls (0 + (X.take k).length) (X.drop k) := by rw [← jls_app, List.take_append_drop]
  constructor
  · have : (jls 0 X).take (jls 0 (X.take k)).length = (jls 0 (X.take k) ++ jls (0 + (X.take k).length) (X.drop k)).take (jls 0 (X.take k)).length := by rw [← e]
    rw [this]; simp
  · rw [e]; simp
theorem jl_size {X : List Rec} (h : X.length ≤ 30) : (tb (jl X)).size ≤ 1230 := by
  rw [tb_size]
  cases hj : jB X
  · rw [jl_f hj]; simp
  · rw [jl_t hj]
    have := @jls_len X 0
    omega
end Go.Proofs.YtmofnmklodmkmaaGreatDoor
