/- Drawing accounts: DrawAccountsValid, DrawFollowersOf, DrawFollowedBy, DrawFollow, DrawUnfollow. -/
import Derived.Test.YtohodhogbdcdmabDrawA2
import Derived.Deep.RegionWith
set_option linter.unusedVariables false
set_option linter.unusedSimpArgs false
namespace Go.Proofs.Ytohodhogbdcdmab
open Go.RowKit

/-- Accounts were drawn. -/
def DrawnA (w : World) (v : Value) (X : List Acc) (w' : World) : Prop := ∃ A n c, v = .slice A n c ∧ Accs w' w'.heap.size A n X ∧ n ≤ c ∧ ADrawn 8 X ∧ 0 < X.length ∧ OwnA w.heap.size w' v X ∧ Below w.heap.size w w'
def DrawnA0 (w : World) (e : Ending) (w' : World) : Prop := ∃ v X, e = .returned v ∧ DrawnA w v X w'
def DrawnA1 (w : World) (e : Ending) (w' : World) : Prop := ∃ v X s, e = .returned (.tuple #[v, .string s]) ∧ DrawnA w v X w' ∧ s.size ≤ 5
/-- .. with two names, of which the second one is that of an account. -/
def DrawnA2 (w : World) (e : Ending) (w' : World) : Prop := ∃ v X who s, e = .returned (.tuple #[v, .string who, .string s]) ∧ DrawnA w v X w' ∧ who.size ≤ 5 ∧ s.size ≤ 3
theorem DrawnA.mk {w w1 w2 : World} {v : Value} {X : List Acc} (h : OwnA w1.heap.size w2 v X) (hd : ADrawn 8 X) (h0 : 0 < X.length) (hb : Below w.heap.size w w1) (hb2 : But w1.heap.size w.heap.size w1 w2) (hg : w.heap.size < w1.heap.size) : DrawnA w v X w2 := by
  obtain ⟨A, n, c, e, h1, h2, h3, _⟩ := h.accs
  have hs := hb2.size
  refine ⟨A, n, c, e, h3, h1, hd, h0, ?_, hb.trans (hb2.below.mono (by omega))⟩
  obtain ⟨A, n, c, xs, rfl, g1, g2⟩ := h
  exact ⟨A, n, c, xs, rfl, ⟨g1.1, by
    rcases g1.2 with h | ⟨g, cap, cur, e1, e2, e3⟩
    · exact .inl h
    · exact .inr ⟨g, cap, cur, e1, by omega, e3⟩⟩, g2.more fun b hb => ⟨by omega, hb.2⟩⟩




end Go.Proofs.Ytohodhogbdcdmab
