/- Arguments that are slices of accounts, opened. No program. -/
import Derived.Test.YtimpmlmkhjeajaaZm
import Derived.Test.YtimpmlmkhjeajaaZc
import Derived.Deep.SlicePairs
import Derived.SliceStrings
import Derived.ChangeArms
set_option linter.unusedVariables false
set_option linter.unusedSimpArgs false
namespace Go.Proofs.Ytimpmlmkhjeajaa
open Go.RowKit Go.ChangeShapes Go.WideShapes

theorem accs_of_cells {w : World} {x : Addr} {len : Nat} (q : Nat → Acc) (hq : ∀ i, i < len → w.cell? (x.add (i * 2)) = some (.string (q i).1) ∧ ∃ u, w.cell? (x.add (i * 2 + 1)) = some u ∧ Fls w (· < w.heap.size) u (q i).2) : Accs w w.heap.size (some x) len ((List.range len).map q) := by
  refine ⟨by simp, fun h0 => ?_⟩
  obtain ⟨b, off, spot⟩ := x
  have h := (hq 0 h0).1
  have hspot : spot = none := by simpa [Addr.add] using World.cell?_spot h
  subst hspot
  refine ⟨b, off, rfl, ?_, fun j a ha => ?_⟩
  · have := World.block_lt_of_cell? w _ h
    simpa [Addr.add] using this
  · have hj : j < len := by have := (List.getElem?_eq_some_iff.1 ha).1; simpa using this
    rw [List.getElem?_map, List.getElem?_range hj] at ha
    cases ha
    obtain ⟨h2, u, h3, h4⟩ := hq j hj
    rw [add_at] at h2 h3
    exact ⟨h2, u, by rw [Nat.add_assoc]; exact h3, h4⟩
section
variable {H : Type} {enc : TypeId × Value → H} {P : Program} {w : World} {base : Nat} {spare : Nat → Bool} {held : Bool}
theorem accs_open {t e es : TypeId} {f0 f1 : Field} {fuel : Nat} {A : Option Addr} {n c : Nat} {x : DataW H × List MemPlace} (ht : P.underlying t = some (.slice e)) (he : P.underlying e = some (.struct #[f0, f1]))
    (ce : P.cellsOf e = 2) (o0 : f0.offset = 0) (o1 : f1.offset = 1) (c0 : P.cellsOf f0.type = 1) (c1 : P.cellsOf f1.type = 1) (h0 : P.underlying f0.type = some .string) (h1 : P.underlying f1.type = some (.slice es)) (h2 : P.underlying es = some .string) (h3 : P.cellsOf es = 1)
    (h : DataW.trod enc P w base spare held fuel t [.slice A n c] = some x) : ∃ X, Accs w w.heap.size A n X ∧ ASmall X ∧ n ≤ c ∧ n ≤ maxLen := by
  rcases Go.Deep.open_slice_pairs ht he ce o0 o1 c0 c1 h with ⟨hcs, _⟩ | ⟨a, len, cap, m, k, V0, V1, D0, D1, P0, P1, hcs, _, hl, hm, hmm, _, hx⟩
  · injection hcs with hcs
    injection hcs with e1 e2 e3
    subst e1 e2 e3
    exact ⟨[], ⟨rfl, fun h => absurd h (by omega)⟩, fun _ h => (by cases h), Nat.le_refl _, Nat.zero_le _⟩
  · injection hcs with hcs
    injection hcs with e1 e2 e3
    subst e1 e2 e3
    have hlm : n ≤ m := by rw [hmm]; split <;> omega
    have each : ∀ i, i < n → ∃ q : Acc, (w.cell? (a.add (i * 2)) = some (.string q.1) ∧ ∃ u, w.cell? (a.add (i * 2 + 1)) = some u ∧ Fls w (· < w.heap.size) u q.2) ∧ q.1.size ≤ maxLen ∧ ∀ s ∈ q.2, s.size ≤ maxLen := by
      intro i hi
      obtain ⟨g0, g1, g2, g3⟩ := hx i (by omega)
      obtain ⟨s, hs, _, hm'⟩ := DataW.trod_string h0 g2
      injection hs with hs
      rcases open_strings h1 h2 h3 g3 with ⟨hcs, _⟩ | ⟨y, l, c', ss, hcs, _, hl', hm2, hz, _, hcell, hws⟩
      · injection hcs with hcs
        exact ⟨(s, []), ⟨g0.trans (by rw [hs]), _, g1, by rw [hcs]; exact ⟨_, _, _, rfl, Nat.le_refl _, Nat.zero_le _, rfl, fun h => absurd h (by omega)⟩⟩, hm', fun _ h => (by cases h)⟩
      · injection hcs with hcs
        have hst : Strs w w.heap.size (some y) l (ss.take l) := Strs.of_open (cap := ss.length) (by rw [hz]; split <;> omega) rfl hcell
        exact ⟨(s, ss.take l), ⟨g0.trans (by rw [hs]), _, g1, by rw [hcs]; exact ⟨_, _, _, rfl, hl', by omega, hst.1, hst.2⟩⟩, hm', fun r hr => hws r (List.mem_of_mem_take hr)⟩
    obtain ⟨q, hq⟩ := Go.Deep.choose_lt each
    refine ⟨_, accs_of_cells q fun i hi => (hq i hi).1, fun b hb => ?_, hl, by omega⟩
    obtain ⟨i, hi, rfl⟩ := List.mem_map.1 hb
    exact (hq i (List.mem_range.1 hi)).2
end
end Go.Proofs.Ytimpmlmkhjeajaa
