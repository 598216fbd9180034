/- The heap of a box: its methods, called through the interface. -/
import Derived.Test.YtfncmkmhdddmiaaHp
import Derived.Test.YtfncmkmhdddmiaaBxw
import Derived.Test.YtfncmkmhdddmiaaLater
import Derived.Outline
import Derived.WalkKit
import Derived.Deep.DeepMust
import Derived.Deep.RegionLaw
set_option linter.unusedVariables false
set_option linter.unusedSimpArgs false
namespace Go.Proofs.Ytfncmkmhdddmiaa
open Go.RowKit Go.BigFrame

theorem h_len (A : Option Addr) (n c : Nat) (w : World) (hn : n ≤ maxLen) :
    Calls Try.prog 71 #[.slice A n c] w fun e w' => e = .returned (.int .i64 (n : Int)) ∧ w = w' := by
  unfold maxLen at hn
  go_enter Try.func71, Try.ntmps71
  go_wp2_with fail
  go_ret
  exact ⟨rfl, rfl⟩

/-- A row of numbers, all of it. -/
abbrev Row (w : World) (base g m c : Nat) (L : List Int) : Prop := w.ownsRow base 3 1 (.slice (some ⟨g, 0, none⟩) m c) m (L.map (Value.int .i64))
theorem Row.len {w : World} {base g m c : Nat} {L : List Int} (h : Row w base g m c L) : L.length = m := by have := h.1; rw [List.length_map] at this; omega
theorem Row.cell {w : World} {base g m c : Nat} {L : List Int} (h : Row w base g m c L) {k : Nat} {a : Int} (hk : L[k]? = some a) : w.cell? ⟨g, k, none⟩ = some (.int .i64 a) := by
  have hl := h.len
  have hlt := (List.getElem?_eq_some_iff.1 hk).1
  rw [h.cellAt k (by omega), List.getElem?_map, hk]; rfl

set_option maxHeartbeats 400000 in
theorem h_less (base g m c i j : Nat) (a b : Int) (L : List Int) (w : World) (h : Row w base g m c L) (ha : L[i]? = some a) (hb : L[j]? = some b) (hm : m ≤ 1000) :
    Calls Try.prog 102 #[.slice (some ⟨g, 0, none⟩) m c, .int .i64 i, .int .i64 j] w fun e w' => e = .returned (.bool (decide (b < a))) ∧ ∃ q, w' = w.drewN q := by
  have ca := h.cell ha
  have cb := h.cell hb
  have hi : (i : Int) < (m : Int) := by have := (List.getElem?_eq_some_iff.1 ha).1; have := h.len; omega
  have hj : (j : Int) < (m : Int) := by have := (List.getElem?_eq_some_iff.1 hb).1; have := h.len; omega
  have hi' : i < m := by omega
  have hj' : j < m := by omega
  clear ha hb h
  go_enter Try.func102, Try.ntmps102
  go_wp2_with fail
  go_quiet (fail)
  go_wp2_with fail
  go_ret
  exact ⟨rfl, _, rfl⟩

theorem sw_own {w : World} {base g m c i j : Nat} {a b : Int} {L : List Int} (h : Row w base g m c L) (ha : L[i]? = some a) (hb : L[j]? = some b) :
    Row ((w.setCell ⟨g, i, none⟩ (.int .i64 b)).setCell ⟨g, j, none⟩ (.int .i64 a)) base g m c (sw L i j a b) ∧ w.grownBy ((w.setCell ⟨g, i, none⟩ (.int .i64 b)).setCell ⟨g, j, none⟩ (.int .i64 a)) (some g) := by
  have s1 := h.stored i (.int .i64 b)
  have s2 := s1.1.stored j (.int .i64 a)
  refine ⟨?_, s1.2.trans s2.2⟩
  have e : ((L.map (Value.int .i64)).set i (.int .i64 b)).set j (.int .i64 a) = (sw L i j a b).map (Value.int .i64) := by simp [sw, List.map_set]
  have h2 := s2.1
  rw [e] at h2
  exact h2

set_option maxHeartbeats 1000000 in
theorem h_swap (base g m c i j : Nat) (a b : Int) (L : List Int) (w : World) (h : Row w base g m c L) (ha : L[i]? = some a) (hb : L[j]? = some b) (hm : m ≤ 1000) :
    Calls Try.prog 105 #[.slice (some ⟨g, 0, none⟩) m c, .int .i64 i, .int .i64 j] w fun e w' => e = .returned (.tuple #[]) ∧ Row w' base g m c (sw L i j a b) ∧ w.grownBy w' (some g) := by
  have ca := h.cell ha
  have cb := h.cell hb
  have fa := h.frozenAt i
  have fb := h.frozenAt j
  have hi : (i : Int) < (m : Int) := by have := (List.getElem?_eq_some_iff.1 ha).1; have := h.len; omega
  have hj : (j : Int) < (m : Int) := by have := (List.getElem?_eq_some_iff.1 hb).1; have := h.len; omega
  have hi' : i < m := by omega
  have hj' : j < m := by omega
  have Hsw := hide (sw_own h ha hb)
  have cij : (w.setCell ⟨g, i, none⟩ (.int .i64 b)).cell? ⟨g, j, none⟩ = some (.int .i64 b) := by
    by_cases e : i = j
    · subst e
      have s1 := (h.stored i (.int .i64 b)).1
      rw [s1.cellAt i (by omega), List.getElem?_set_self (by rw [List.length_map, h.len]; omega)]
    · have s1 := (h.stored i (.int .i64 b)).1
      rw [s1.cellAt j (by omega), List.getElem?_set_ne e, List.getElem?_map, hb]; rfl
  clear ha hb h
  go_enter Try.func105, Try.ntmps105
  go_wp2_with fail
  go_region
  all_goals
    go_wp2_with fail
    go_end0
    exact ⟨rfl, Hsw.out.1, Hsw.out.2.trans ⟨rfl, rfl, rfl, Nat.le_refl _, fun _ _ _ => rfl⟩⟩
theorem h_less_t (base g m c i j : Nat) (z1 z2 a b : Int) (L : List Int) (t : Bool) (w : World) (h : Row w base g m c L) (ha : L[i]? = some a) (hb : L[j]? = some b) (hm : m ≤ 1000) (e1 : z1 = (i : Int)) (e2 : z2 = (j : Int)) (ht : decide (b < a) = t) :
    Calls Try.prog 102 #[.slice (some ⟨g, 0, none⟩) m c, .int .i64 z1, .int .i64 z2] w fun e w' => e = .returned (.bool t) ∧ ∃ q, w' = w.drewN q := by
  subst e1 e2 ht; exact h_less base g m c i j a b L w h ha hb hm
theorem h_swap_t (base g m c i j : Nat) (z1 z2 a b : Int) (L : List Int) (w : World) (h : Row w base g m c L) (ha : L[i]? = some a) (hb : L[j]? = some b) (hm : m ≤ 1000) (e1 : z1 = (i : Int)) (e2 : z2 = (j : Int)) :
    Calls Try.prog 105 #[.slice (some ⟨g, 0, none⟩) m c, .int .i64 z1, .int .i64 z2] w fun e w' => e = .returned (.tuple #[]) ∧ Row w' base g m c (sw L i j a b) ∧ w.grownBy w' (some g) := by
  subst e1 e2; exact h_swap base g m c i j a b L w h ha hb hm
theorem grown_drewN (w : World) (k : Nat) (r : Option Nat) : w.grownBy (w.drewN k) r := ⟨rfl, rfl, rfl, Nat.le_refl _, fun _ _ _ => rfl⟩
theorem Row.drewN {w : World} {base g m c : Nat} {L : List Int} (h : Row w base g m c L) (k : Nat) : Row (w.drewN k) base g m c L := h
/-- The cell of the heap's variable. -/
theorem Blk.cell0 {w : World} {p : Nat} {t : TypeId} {v : Value} (h : Blk w p t #[v]) : w.cell? ⟨p, 0, none⟩ = some v := (h.cell 0).trans rfl
end Go.Proofs.Ytfncmkmhdddmiaa
