/- Walks of FnRecordFrom, FnRecordCut. -/
import Derived.Test.YtiejbliadegcdaaDrR3
import Derived.Test.YtiejbliadegcdaaIrb
set_option linter.unusedVariables false
set_option linter.unusedSimpArgs false
namespace Go.Proofs.Ytiejbliadegcdaa
open Go.RowKit Go.BigFrame

theorem from_ok {s : ByteArray} {p k i d : Int} {t u : ByteArray} (h : fromL s.data.toList = some (p, k, i, d, t, u)) : rtxt p (k, i, d, t, u) = s ∧ reB (k, i, d, t, u) = true ∧ t.size ≤ maxLen ∧ u.size ≤ maxLen := by
  obtain ⟨h1, h2⟩ := fromL_some h
  obtain ⟨_, h3, _⟩ := textL_ne (p := p) (r := (k, i, d, t, u)) (by rw [h2]; exact h1)
  have h0 : (ByteArray.mk #[]).size = 0 := rfl
  refine ⟨by unfold rtxt; rw [h2, tb_list], h3, ?_⟩
  rcases re_ways h3 with ⟨i, s, e, hi, hs⟩ | ⟨i, d, e, hi, hd⟩ | ⟨s, t, e | e, hs, ht, _⟩
  · injection e with e1 e
    injection e with e1 e
    injection e with e1 e
    injection e with e1 e
    subst e1 e
    have := (nvB_size hs).2
    unfold maxLen
    exact ⟨by omega, by omega⟩
  · injection e with e1 e
    injection e with e1 e
    injection e with e1 e
    injection e with e1 e
    subst e1 e
    unfold maxLen
    exact ⟨by omega, by omega⟩
  · injection e with e1 e
    injection e with e1 e
    injection e with e1 e
    injection e with e1 e
    subst e1 e
    have := (nvB_size hs).2
    have := (nvB_size ht).2
    unfold maxLen
    exact ⟨by omega, by omega⟩
  · injection e with e1 e
    injection e with e1 e
    injection e with e1 e
    injection e with e1 e
    subst e1 e
    have := (nvB_size hs).2
    have := (nvB_size ht).2
    unfold maxLen
    exact ⟨by omega, by omega⟩

end Go.Proofs.Ytiejbliadegcdaa
