/- Lines drawn. -/
import Derived.Test.YtmofnmklodmkmaaDoorDrR2
import Derived.Deep.RegionWith
set_option linter.unusedVariables false
set_option linter.unusedSimpArgs false
namespace Go.Proofs.YtmofnmklodmkmaaDoor
open Go.RowKit

theorem text_len (p : Int) (r : Rec) : (textL p r).length ≤ 40 := by
  by_cases h : textL p r = []
  · rw [h]; simp
  obtain ⟨h1, h2, h3⟩ := textL_ne h
  rw [h3]
  have d1 := (@decL_len p.toNat).2
  have d2 := (@decL_len (chk (join4 p.toNat r))).2
  have hj : (lineL p.toNat r).length = (decL p.toNat).length + (wds r).1.length + (wds r).2.1.length + (wds r).2.2.length + (decL (chk (join4 p.toNat r))).length + 4 := by
    unfold lineL
    rw [List.length_append, List.length_cons]
    generalize (decL (chk (join4 p.toNat r))).length = z
    unfold join4
    simp only [List.length_append, List.length_cons]
    omega
  rw [hj]
  have hw : (wds r).1.length ≤ 8 ∧ (wds r).2.1.length ≤ 5 ∧ (wds r).2.2.length ≤ 5 := by
    rcases re_ways h2 with ⟨i, s, rfl, hi, hs⟩ | ⟨i, d, rfl, hi, hd⟩ | ⟨s, t, rfl | rfl, hs, ht, _⟩
    · have e1 := (@decL_len i.toNat).2
      have e2 := (nvB_size hs).2
      exact ⟨by show 4 ≤ 8; omega, by show (decL i.toNat).length ≤ 5; omega, by show s.data.toList.length ≤ 5; simp; omega⟩
    · have e1 := (@decL_len i.toNat).2
      have e2 := (@decL_len d.toNat).2
      exact ⟨by show 5 ≤ 8; omega, by show (decL i.toNat).length ≤ 5; omega, by show (decL d.toNat).length ≤ 5; omega⟩
    · have e1 := (nvB_size hs).2
      have e2 := (nvB_size ht).2
      exact ⟨by show 6 ≤ 8; omega, by show s.data.toList.length ≤ 5; simp; omega, by show t.data.toList.length ≤ 5; simp; omega⟩
    · have e1 := (nvB_size hs).2
      have e2 := (nvB_size ht).2
      exact ⟨by show 8 ≤ 8; omega, by show s.data.toList.length ≤ 5; simp; omega, by show t.data.toList.length ≤ 5; simp; omega⟩
  omega
theorem rtxt_size (p : Int) (r : Rec) : (rtxt p r).size ≤ 40 := by unfold rtxt; rw [tb_size]; exact text_len p r

end Go.Proofs.YtmofnmklodmkmaaDoor
