/- An argument that is a slice of records, opened. -/
import Derived.Test.YtmofnmklodmkmaaDoorOpnR
import Derived.Test.YtmofnmklodmkmaaDoorRw
import Derived.Deep.SlicePairs
import Derived.ChangeArms
set_option linter.unusedVariables false
set_option linter.unusedSimpArgs false
namespace Go.Proofs.YtmofnmklodmkmaaDoor
open Go.RowKit Go.ChangeShapes Go.WideShapes Go.Joins Go.Deep Go.WideElems Go.Maps

theorem rcs_of_cells {w : World} {x : Addr} {len : Nat} (q : Nat → Rec) (hq : ∀ i, i < len → ∀ k, k < 5 → w.cell? (x.add (i * 5 + k)) = (rvals (q i))[k]?) : Rcs w w.heap.size (some x) len ((List.range len).map q) := by
  refine ⟨by simp, fun h0 => ?_⟩
  obtain ⟨b, off, spot⟩ := x
  have h : w.cell? ((⟨b, off, spot⟩ : Addr).add (0 * 5 + 0)) = some (.int .i64 (q 0).1) := hq 0 h0 0 (by omega)
  have hspot : spot = none := by simpa [Addr.add] using World.cell?_spot h
  subst hspot
  refine ⟨b, off, rfl, ?_, fun j a ha => ?_⟩
  · have := World.block_lt_of_cell? w _ h
    simpa [Addr.add] using this
  · have hj : j < len := by have := (List.getElem?_eq_some_iff.1 ha).1; simpa using this
    rw [List.getElem?_map, List.getElem?_range hj] at ha
    cases ha
    have g := fun k hk => hq j hj k hk
    simp only [add_at] at g
    refine ⟨(g 0 (by omega)).trans rfl, ?_, ?_, ?_, ?_⟩
    · rw [Nat.add_assoc]; exact (g 1 (by omega)).trans rfl
    · rw [Nat.add_assoc]; exact (g 2 (by omega)).trans rfl
    · rw [Nat.add_assoc]; exact (g 3 (by omega)).trans rfl
    · rw [Nat.add_assoc]; exact (g 4 (by omega)).trans rfl
theorem rcs_open {H : Type} {enc : TypeId × Value → H} {P : Program} {w : World} {base : Nat} {spare : Nat → Bool} {held : Bool} {t e : TypeId} {f0 f1 f2 f3 f4 : Field} {fuel : Nat} {A : Option Addr} {n c : Nat} {x : DataW H × List MemPlace}
    (ht : P.underlying t = some (.slice e)) (hs : P.underlying e = some (.struct #[f0, f1, f2, f3, f4])) (hone : oneCellFields P #[f0, f1, f2, f3, f4] = true) (hC : P.cellsOf e = 5)
    (h0 : P.underlying f0.type = some (.int .i64)) (h1 : P.underlying f1.type = some (.int .i64)) (h2 : P.underlying f2.type = some (.int .i64)) (h3 : P.underlying f3.type = some .string) (h4 : P.underlying f4.type = some .string)
    (h : DataW.trod enc P w base spare held fuel t [.slice A n c] = some x) : ∃ X, Rcs w w.heap.size A n X ∧ RSmall X ∧ n ≤ c ∧ n ≤ maxLen := by
  rcases Go.Deep.open_slice ht h with ⟨hcs, _⟩ | ⟨a, len, cap, m, k, D, Pl, hcs, _, hl, hm, hmm, _, hx⟩
  · injection hcs with hcs
    injection hcs with e1 e2 e3
    subst e1 e2 e3
    exact ⟨[], ⟨rfl, fun h => absurd h (by omega)⟩, fun _ h => (by cases h), Nat.le_refl _, Nat.zero_le _⟩
  · injection hcs with hcs
    injection hcs with e1 e2 e3
    subst e1 e2 e3
    have hlm : n ≤ m := by rw [hmm]; split <;> omega
    have each : ∀ i, i < n → ∃ q : Rec, (∀ k, k < 5 → w.cell? (a.add (i * 5 + k)) = (rvals q)[k]?) ∧ q.2.2.2.1.size ≤ maxLen ∧ q.2.2.2.2.size ≤ maxLen := by
      intro i hi
      obtain ⟨cs', g, hf⟩ := hx i (by omega)
      rw [hC] at g
      obtain ⟨_, hlen, hcell⟩ := World.cells?_some g
      obtain ⟨xs, n', _, _, _, hxl, hfs⟩ := DataW.trod_struct hs hf
      match xs, hxl, cs', hlen with
      | [y0, y1, y2, y3, y4], _, [v0, v1, v2, v3, v4], _ =>
        have g0 := hfs 0 f0 rfl
        have g1 := hfs 1 f1 rfl
        have g2 := hfs 2 f2 rfl
        have g3 := hfs 3 f3 rfl
        have g4 := hfs 4 f4 rfl
        obtain ⟨o0, k0⟩ := hone_of hone 0 f0 rfl
        obtain ⟨o1, k1⟩ := hone_of hone 1 f1 rfl
        obtain ⟨o2, k2⟩ := hone_of hone 2 f2 rfl
        obtain ⟨o3, k3⟩ := hone_of hone 3 f3 rfl
        obtain ⟨o4, k4⟩ := hone_of hone 4 f4 rfl
        simp only [o0, k0, o1, k1, o2, k2, o3, k3, o4, k4, List.drop_succ_cons, List.drop_zero, List.take_succ_cons, List.take_zero] at g0 g1 g2 g3 g4
        obtain ⟨i0, e0, _, _⟩ := DataW.trod_int h0 g0
        obtain ⟨j0, e1, _, _⟩ := DataW.trod_int h1 g1
        obtain ⟨d0, e2, _, _⟩ := DataW.trod_int h2 g2
        obtain ⟨s, e3, hs3⟩ := DataW.trod_string h3 g3
        obtain ⟨u, e4, hs4⟩ := DataW.trod_string h4 g4
        injection e0 with e0
        injection e1 with e1
        injection e2 with e2
        injection e3 with e3
        injection e4 with e4
        subst e0 e1 e2 e3 e4
        refine ⟨(i0, j0, d0, s, u), fun k hk => ?_, hs3.2, hs4.2⟩
        have hq := hcell k hk
        rw [Go.Deep.add_add] at hq
        rw [hq]
        rfl
    obtain ⟨q, hq⟩ := Go.Deep.choose_lt each
    refine ⟨_, rcs_of_cells q fun i hi => (hq i hi).1, fun b hb => ?_, hl, by omega⟩
    obtain ⟨i, hi, rfl⟩ := List.mem_map.1 hb
    exact (hq i (List.mem_range.1 hi)).2
end Go.Proofs.YtmofnmklodmkmaaDoor
