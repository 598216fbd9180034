/- Arguments that are slices of structs of two fields, opened to the words of posts and of accounts. No program. -/
import Derived.Test.YtfncmkmhdddmiabPw
import Derived.Deep.SlicePairs
import Derived.SliceStrings
import Derived.ChangeArms
set_option linter.unusedVariables false
set_option linter.unusedSimpArgs false
namespace Go.Proofs.Ytfncmkmhdddmiab
open Go.RowKit Go.ChangeShapes Go.WideShapes

theorem psts_of_cells {w : World} {x : Addr} {len : Nat} (q : Nat → Pst) (hq : ∀ i, i < len → w.cell? (x.add (i * 2)) = some (.int .i64 (q i).1) ∧ w.cell? (x.add (i * 2 + 1)) = some (.string (q i).2)) : Psts w w.heap.size (some x) len ((List.range len).map q) := by
  refine ⟨by simp, fun h0 => ?_⟩
  obtain ⟨b, off, spot⟩ := x
  have h := (hq 0 h0).1
  have hspot : spot = none := by simpa [Addr.add] using World.cell?_spot h
  subst hspot
  refine ⟨b, off, rfl, ?_, fun j a ha => ?_⟩
  · have := World.block_lt_of_cell? w _ h
    simpa [Addr.add] using this
  · have hj : j < len := by have := (List.getElem?_eq_some_iff.1 ha).1; simpa using this
    rw [List.getElem?_map, List.getElem?_range hj] at ha
    cases ha
    have h2 := hq j hj
    rw [add_at, add_at] at h2
    exact ⟨h2.1, by rw [Nat.add_assoc]; exact h2.2⟩
section
variable {H : Type} {enc : TypeId × Value → H} {P : Program} {w : World} {base : Nat} {spare : Nat → Bool} {held : Bool}
theorem psts_open {t e : TypeId} {f0 f1 : Field} {fuel : Nat} {A : Option Addr} {n c : Nat} {x : DataW H × List MemPlace} (ht : P.underlying t = some (.slice e)) (he : P.underlying e = some (.struct #[f0, f1]))
    (ce : P.cellsOf e = 2) (o0 : f0.offset = 0) (o1 : f1.offset = 1) (c0 : P.cellsOf f0.type = 1) (c1 : P.cellsOf f1.type = 1) (h0 : P.underlying f0.type = some (.int .i64)) (h1 : P.underlying f1.type = some .string)
    (h : DataW.trod enc P w base spare held fuel t [.slice A n c] = some x) : ∃ X, Psts w w.heap.size A n X ∧ PSmall X ∧ n ≤ c ∧ n ≤ maxLen := by
  rcases Go.Deep.open_slice_pairs ht he ce o0 o1 c0 c1 h with ⟨hcs, _⟩ | ⟨a, len, cap, m, k, V0, V1, D0, D1, P0, P1, hcs, _, hl, hm, hmm, _, hx⟩
  · injection hcs with hcs
    injection hcs with e1 e2 e3
    subst e1 e2 e3
    exact ⟨[], ⟨rfl, fun h => absurd h (by omega)⟩, fun _ h => (by cases h), Nat.le_refl _, Nat.zero_le _⟩
  · injection hcs with hcs
    injection hcs with e1 e2 e3
    subst e1 e2 e3
    have hlm : n ≤ m := by rw [hmm]; split <;> omega
    have each : ∀ i, i < n → ∃ q : Pst, (w.cell? (a.add (i * 2)) = some (.int .i64 q.1) ∧ w.cell? (a.add (i * 2 + 1)) = some (.string q.2)) ∧ q.2.size ≤ maxLen := by
      intro i hi
      obtain ⟨g0, g1, g2, g3⟩ := hx i (by omega)
      obtain ⟨z, hz, _⟩ := DataW.trod_int h0 g2
      obtain ⟨s, hs, _, hm⟩ := DataW.trod_string h1 g3
      injection hz with hz
      injection hs with hs
      exact ⟨(z, s), ⟨g0.trans (by rw [hz]), g1.trans (by rw [hs])⟩, hm⟩
    obtain ⟨q, hq⟩ := Go.Deep.choose_lt each
    refine ⟨_, psts_of_cells q fun i hi => (hq i hi).1, fun b hb => ?_, hl, by omega⟩
    obtain ⟨i, hi, rfl⟩ := List.mem_map.1 hb
    exact (hq i (List.mem_range.1 hi)).2
end
end Go.Proofs.Ytfncmkmhdddmiab
