/- Drawing posts: words. -/
import Derived.Test.YtfncmkmhdddmiabPw
import Derived.Deep.RegionWith
set_option linter.unusedVariables false
set_option linter.unusedSimpArgs false
namespace Go.Proofs.Ytfncmkmhdddmiab
open Go.RowKit

theorem pcells_set0 : ∀ {X : List Pst} {k : Nat} {a : Pst} (v : Int), X[k]? = some a → (pcells X).set (k * 2) (.int .i64 v) = pcells (X.set k (v, a.2))
  | [], k, a, v, h => by simp at h
  | b :: X, 0, a, v, h => by simp at h; subst h; rw [pcells_cons, List.set_cons_zero, pcells_cons]; rfl
  | b :: X, k + 1, a, v, h => by
    have h' : X[k]? = some a := by simpa using h
    rw [pcells_cons, List.set_cons_succ, pcells_cons, ← pcells_set0 v h', show (k + 1) * 2 = k * 2 + 1 + 1 by omega]
    rfl
theorem pcells_set1 : ∀ {X : List Pst} {k : Nat} {a : Pst} (s : ByteArray), X[k]? = some a → (pcells X).set (k * 2 + 1) (.string s) = pcells (X.set k (a.1, s))
  | [], k, a, v, h => by simp at h
  | b :: X, 0, a, v, h => by simp at h; subst h; rw [pcells_cons, List.set_cons_zero, pcells_cons]; rfl
  | b :: X, k + 1, a, v, h => by
    have h' : X[k]? = some a := by simpa using h
    rw [pcells_cons, List.set_cons_succ, pcells_cons, ← pcells_set1 v h', show (k + 1) * 2 + 1 = k * 2 + 1 + 1 + 1 by omega]
    rfl

/-- What is drawn is small. -/
def PDrawn (M : Nat) (X : List Pst) : Prop := X.length ≤ M ∧ ∀ a ∈ X, 0 ≤ a.1 ∧ a.1 ≤ 1000 ∧ a.2.size ≤ 5
theorem PDrawn.nil (M : Nat) : PDrawn M [] := ⟨Nat.zero_le _, fun a h => by cases h⟩
theorem PDrawn.more {M M' : Nat} {X : List Pst} (h : PDrawn M X) (hm : M ≤ M') : PDrawn M' X := ⟨Nat.le_trans h.1 hm, h.2⟩
theorem PDrawn.snoc {M : Nat} {X : List Pst} {i : Int} {s : ByteArray} (h : PDrawn M X) (h0 : 0 ≤ i) (h1 : i ≤ 1000) (hs : s.size ≤ 5) : PDrawn (M + 1) (X ++ [(i, s)]) := by
  refine ⟨by have := h.1; simp; omega, fun a ha => ?_⟩
  rcases List.mem_append.1 ha with h2 | h2
  · exact h.2 a h2
  · rw [List.mem_singleton.1 h2]; exact ⟨h0, h1, hs⟩
theorem PDrawn.set0 {M : Nat} {X : List Pst} {k : Nat} {a : Pst} {i : Int} (h : PDrawn M X) (ha : X[k]? = some a) (h0 : 0 ≤ i) (h1 : i ≤ 1000) : PDrawn M (X.set k (i, a.2)) := by
  refine ⟨by rw [List.length_set]; exact h.1, fun b hb => ?_⟩
  rcases List.mem_or_eq_of_mem_set hb with h2 | rfl
  · exact h.2 b h2
  · exact ⟨h0, h1, (h.2 a (List.mem_of_getElem? ha)).2.2⟩
theorem PDrawn.small {M : Nat} {X : List Pst} (h : PDrawn M X) : PSmall X := fun a ha => by have := (h.2 a ha).2.2; unfold maxLen; omega

/-- Posts were drawn. -/
def DrawnP (w : World) (v : Value) (X : List Pst) (w' : World) : Prop := ∃ A n c, v = .slice A n c ∧ Psts w' w'.heap.size A n X ∧ n ≤ c ∧ c ≤ maxLen ∧ PDrawn 13 X ∧ Below w.heap.size w w'
def DrawnP0 (w : World) (e : Ending) (w' : World) : Prop := ∃ v X, e = .returned v ∧ DrawnP w v X w'
def DrawnP1 (w : World) (e : Ending) (w' : World) : Prop := ∃ v X s, e = .returned (.tuple #[v, .string s]) ∧ DrawnP w v X w' ∧ s.size ≤ 5
def DrawnP2 (w : World) (e : Ending) (w' : World) : Prop := ∃ v X i, e = .returned (.tuple #[v, .int .i64 i]) ∧ DrawnP w v X w' ∧ 0 ≤ i ∧ i ≤ 1000
theorem DrawnP.mk {w w1 w2 : World} {v : Value} {X : List Pst} (h : OwnP w1.heap.size w2 v X) (hd : PDrawn 13 X) (hb : Below w.heap.size w w1) (hb2 : But w1.heap.size w.heap.size w1 w2) (hg : w.heap.size < w1.heap.size) : DrawnP w v X w2 := by
  obtain ⟨A, n, c, e, _, h1, h2, h3⟩ := h.psts
  exact ⟨A, n, c, e, h3, h1, h2, hd, hb.trans (hb2.below.mono (by omega))⟩
/-- The number of a post is set. -/
theorem OwnP.set0 {base : Nat} {w : World} {g n c k : Nat} {X : List Pst} {a : Pst} (h : w.ownsRow base 31 2 (.slice (some ⟨g, 0, none⟩) n c) n (pcells X)) (ha : X[k]? = some a) (i : Int) :
    (w.setCell ⟨g, k * 2, none⟩ (.int .i64 i)).ownsRow base 31 2 (.slice (some ⟨g, 0, none⟩) n c) n (pcells (X.set k (i, a.2))) ∧ w.grownBy (w.setCell ⟨g, k * 2, none⟩ (.int .i64 i)) (some g) := by
  have h1 := h.stored (k * 2) (.int .i64 i)
  rw [pcells_set0 i ha] at h1
  exact h1
end Go.Proofs.Ytfncmkmhdddmiab
