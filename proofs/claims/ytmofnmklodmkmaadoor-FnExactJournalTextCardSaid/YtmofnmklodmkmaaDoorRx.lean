/- Records in memory, changed. -/
import Derived.Test.YtmofnmklodmkmaaDoorRw
set_option linter.unusedVariables false
set_option linter.unusedSimpArgs false
namespace Go.Proofs.YtmofnmklodmkmaaDoor
open Go.RowKit

theorem set_at (L M : List Value) (o q : Nat) (v : Value) (h : L.length = o) : (L ++ M).set (o + q) v = L ++ M.set q v := by
  subst h
  rw [List.set_append_right _ _ (by omega), Nat.add_sub_cancel_left]
/-- Five cells of a row, stored anew. -/
theorem set5_take {Z : List Value} {o : Nat} (h : o + 5 ≤ Z.length) (a b d s t : Value) : (((((Z.set o a).set (o + 1) b).set (o + 2) d).set (o + 3) s).set (o + 4) t).take (o + 5) = Z.take o ++ [a, b, d, s, t] := by
  obtain ⟨L, M, hL, rfl⟩ : ∃ L M, L.length = o ∧ Z = L ++ M := ⟨Z.take o, Z.drop o, by rw [List.length_take]; omega, (List.take_append_drop _ _).symm⟩
  have hM : 5 ≤ M.length := by rw [List.length_append, hL] at h; omega
  rcases M with _ | ⟨x0, _ | ⟨x1, _ | ⟨x2, _ | ⟨x3, _ | ⟨x4, r⟩⟩⟩⟩⟩
  all_goals try (simp at hM; done)
  have e0 : (L ++ x0 :: x1 :: x2 :: x3 :: x4 :: r).set o a = L ++ (x0 :: x1 :: x2 :: x3 :: x4 :: r).set 0 a := set_at L _ o 0 a hL
  rw [e0, set_at _ _ _ _ _ hL, set_at _ _ _ _ _ hL, set_at _ _ _ _ _ hL, set_at _ _ _ _ _ hL]
  subst hL
  simp [List.take_append, List.take_of_length_le]
theorem rcells_set : ∀ {Z : List Rec} {j q : Nat} {a b : Rec} {v : Value}, Z[j]? = some a → q < 5 → (rvals a).set q v = rvals b → (rcells Z).set (j * 5 + q) v = rcells (Z.set j b)
  | [], j, q, a, b, v, h, _, _ => by simp at h
  | x :: Z, 0, q, a, b, v, h, hq, hb => by
    simp at h
    subst h
    rw [rcells_cons, List.set_cons_zero, rcells_cons, Nat.zero_mul, Nat.zero_add, List.set_append_left _ _ (by simp [rvals]; omega), hb]
  | x :: Z, j + 1, q, a, b, v, h, hq, hb => by
    have h' : Z[j]? = some a := by simpa using h
    rw [rcells_cons, List.set_cons_succ, rcells_cons, List.set_append_right _ _ (by simp [rvals]; omega), show (j + 1) * 5 + q - (rvals x).length = j * 5 + q by simp [rvals]; omega, rcells_set h' hq hb]
/-- A cell of a record of the call's own, stored anew. -/
theorem OwnR.put {base b n c j q : Nat} {w : World} {Z : List Rec} {a r : Rec} {v : Value} (h : w.ownsRow base 41 5 (.slice (some ⟨b, 0, none⟩) n c) n (rcells Z)) (ha : Z[j]? = some a) (hq : q < 5) (hr : (rvals a).set q v = rvals r) :
    (w.setCell ⟨b, j * 5 + q, none⟩ v).ownsRow base 41 5 (.slice (some ⟨b, 0, none⟩) n c) n (rcells (Z.set j r)) ∧ w.grownBy (w.setCell ⟨b, j * 5 + q, none⟩ v) (some b) := by
  have s := h.stored (j * 5 + q) v
  rw [rcells_set ha hq hr] at s
  exact s
/-- Its cells, and that they may be stored into. -/
theorem OwnR.cells {base b n c j : Nat} {w : World} {Z : List Rec} {a : Rec} (h : w.ownsRow base 41 5 (.slice (some ⟨b, 0, none⟩) n c) n (rcells Z)) (ha : Z[j]? = some a) :
    (w.cell? ⟨b, j * 5, none⟩ = some (.int .i64 a.1) ∧ w.cell? ⟨b, j * 5 + 1, none⟩ = some (.int .i64 a.2.1) ∧ w.cell? ⟨b, j * 5 + 2, none⟩ = some (.int .i64 a.2.2.1) ∧ w.cell? ⟨b, j * 5 + 3, none⟩ = some (.string a.2.2.2.1) ∧ w.cell? ⟨b, j * 5 + 4, none⟩ = some (.string a.2.2.2.2)) ∧
    (w.frozen? ⟨b, j * 5, none⟩ = false ∧ w.frozen? ⟨b, j * 5 + 1, none⟩ = false ∧ w.frozen? ⟨b, j * 5 + 2, none⟩ = false ∧ w.frozen? ⟨b, j * 5 + 3, none⟩ = false ∧ w.frozen? ⟨b, j * 5 + 4, none⟩ = false) := by
  have hj := (List.getElem?_eq_some_iff.1 ha).1
  have hl : (rcells Z).length = n * 5 := h.1
  have hz : Z.length = n := by rw [rcells_len] at hl; omega
  have hc := fun q (hq : q < 5) => (h.cellAt (j * 5 + q) (by omega)).trans (rcells_at ha hq)
  exact ⟨⟨hc 0 (by omega), hc 1 (by omega), hc 2 (by omega), hc 3 (by omega), hc 4 (by omega)⟩, h.frozenAt _, h.frozenAt _, h.frozenAt _, h.frozenAt _, h.frozenAt _⟩
end Go.Proofs.YtmofnmklodmkmaaDoor
