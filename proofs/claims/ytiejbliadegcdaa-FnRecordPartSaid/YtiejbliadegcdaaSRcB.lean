/- Laws of records: for every input the law returns true and the input reads as before. No condition. -/
import Derived.Test.YtiejbliadegcdaaRows
import Derived.Test.YtiejbliadegcdaaLRt
import Derived.Test.YtiejbliadegcdaaLRc
import Derived.Test.YtiejbliadegcdaaLRp
import Derived.Test.YtiejbliadegcdaaLRd
import Derived.Test.YtiejbliadegcdaaBandP
import Derived.ProofKit
import Derived.OpenShut
import Derived.ShutString
import Derived.ChangeOld
set_option linter.unusedVariables false
set_option linter.unusedSimpArgs false
namespace Go.Proofs.Ytiejbliadegcdaa
open Go.ChangeShapes Go.WideShapes Go.ChangeAt Go.RowKit
open Go.ChangeMaps (open_string shut_string)



set_option maxRecDepth 100000 in
theorem FnRecordPart_lifted (os : Os) (started : os.Started) (H : Type) (enc : TypeId × Value → H) :
    ReturnsInHanded {} Try.checked os 3 .any (Rows.fnRecordPartSpec.pre6 enc Try.prog Try.f3 Rows.fnRecordPartRow.domain false) (Rows.fnRecordPartSpec.post enc Try.prog Try.f3 false true false false) := by
  refine returnsInHanded_of_change (C := Try.checked) (by kernel_rfl : ownKnob Try.prog.godebug = none) started (by kernel_rfl) Try.func3
    (ChangeSpec.witness6 (enc := enc) (C := Try.checked) false ⟨#[], #[.slice none 0 0], []⟩ 8 (by kernel_rfl) (by kernel_rfl) (by kernel_rfl) (by kernel_rfl)) ?_
  intro W base args ds gs before hval0 hW hcnd _
  have hval : ∀ (j : Nat) t v, Try.f3.params[j]? = some t → args[j]? = some v → Value.okWide Try.prog W .any base t v := hval0
  have hW' := hW
  obtain ⟨p, q, hA0, hV, rfl, hfz, hnd⟩ := hW
  have hA : DataW.TrodAll enc Try.prog W 0 (fun _ => true) true Try.f3.params.toList args.toList ds p := hA0
  rw [Try.params3] at hA hval
  obtain ⟨v0, vs0, d0, ds0, p0, q0, hargs, rfl, rfl, h0, r0⟩ := trodAll_cons hA
  obtain ⟨rfl, rfl, rfl⟩ := trodAll_nil r0
  obtain rfl : args = #[v0] := by cases args; simp_all
  obtain ⟨rfl, rfl⟩ := trodVars_none hV
  obtain ⟨a0, len0, cap0, rfl⟩ := okWide_slice Try.underlying22 (hval 0 22 v0 rfl rfl)
  have k0 := h0
  have lt0 : ∀ x ∈ p0, x.block < W.heap.size := by obtain ⟨m, hm⟩ := k0; exact DataW.trod_lt m _ _ _ hm
  have w0 : Code W W.heap.size a0 len0 ∧ len0 ≤ cap0 ∧ len0 ≤ maxLen := by
    obtain ⟨fuel, hf⟩ := h0
    rcases open_ints Try.underlying22 Try.underlying5 (by kernel_rfl) hf with ⟨hcs, _⟩ | ⟨x, l, c, zs, hcs, _, hl, hm, hz, _, hcell, hwz⟩
    · simp [Value.cells] at hcs
      obtain ⟨rfl, rfl, rfl⟩ := hcs
      exact ⟨fun h => absurd h (by omega), Nat.le_refl _, Nat.zero_le _⟩
    · simp [Value.cells] at hcs
      obtain ⟨rfl, rfl, rfl⟩ := hcs
      exact ⟨Code.of_ints hl (by simpa using hz) hcell hwz, hl, Nat.le_trans hl hm⟩
  clear hA0 hval0
  refine (FnRecordPart_walk W a0 len0 cap0 w0.1 w0.2.1 w0.2.2).mono fun e W' ⟨he, bel⟩ => ?_
  subst he
  exact ⟨_, rfl, _, _, _, [], _, [], hW', trodAll_mk1 (shut_bool Try.underlying4 _), (trodAll_cons_mk (Below.trod (by kernel_rfl : laidOutB Try.prog = true) (by kernel_rfl) (of_decide_eq_true (by kernel_rfl)) k0 bel lt0) trodAll_mk0), rfl, bel.frame _, fun h => by cases h⟩

set_option maxHeartbeats 4000000 in
theorem FnRecordPart_holds : Rows.FnRecordPartSaid :=
  OpenClaim.holds_of_wide 3 Try.f3 rfl rfl rfl rfl rfl rfl rfl ⟨rfl, rfl, rfl, rfl, rfl⟩ rfl rfl rfl rfl rfl (by kernel_rfl) Try.func3 (by show joinedFacts Try.prog 3 Try.f3 Rows.fnRecordPartSpec Rows.fnRecordPartRow = true; unfold joinedFacts; exact band (band (band (band (band (band (band (band (band (band (band (band (band (band (band (band (band (band (band (band (band (band (band (band (band (band (band (band (band (band (band (by first | (with_reducible exact head_enter) | (rw [head_lifts]; as_aux_lemma => kernel_rfl) | (rw [head_make]; as_aux_lemma => kernel_rfl) | (as_aux_lemma => kernel_rfl)) (by first | (with_reducible exact head_enter) | (rw [head_lifts]; as_aux_lemma => kernel_rfl) | (rw [head_make]; as_aux_lemma => kernel_rfl) | (as_aux_lemma => kernel_rfl))) (by first | (with_reducible exact head_enter) | (rw [head_lifts]; as_aux_lemma => kernel_rfl) | (rw [head_make]; as_aux_lemma => kernel_rfl) | (as_aux_lemma => kernel_rfl))) (by first | (with_reducible exact head_enter) | (rw [head_lifts]; as_aux_lemma => kernel_rfl) | (rw [head_make]; as_aux_lemma => kernel_rfl) | (as_aux_lemma => kernel_rfl))) (by first | (with_reducible exact head_enter) | (rw [head_lifts]; as_aux_lemma => kernel_rfl) | (rw [head_make]; as_aux_lemma => kernel_rfl) | (as_aux_lemma => kernel_rfl))) (by first | (with_reducible exact head_enter) | (rw [head_lifts]; as_aux_lemma => kernel_rfl) | (rw [head_make]; as_aux_lemma => kernel_rfl) | (as_aux_lemma => kernel_rfl))) (by first | (with_reducible exact head_enter) | (rw [head_lifts]; as_aux_lemma => kernel_rfl) | (rw [head_make]; as_aux_lemma => kernel_rfl) | (as_aux_lemma => kernel_rfl))) (by first | (with_reducible exact head_enter) | (rw [head_lifts]; as_aux_lemma => kernel_rfl) | (rw [head_make]; as_aux_lemma => kernel_rfl) | (as_aux_lemma => kernel_rfl))) (by first | (with_reducible exact head_enter) | (rw [head_lifts]; as_aux_lemma => kernel_rfl) | (rw [head_make]; as_aux_lemma => kernel_rfl) | (as_aux_lemma => kernel_rfl))) (by first | (with_reducible exact head_enter) | (rw [head_lifts]; as_aux_lemma => kernel_rfl) | (rw [head_make]; as_aux_lemma => kernel_rfl) | (as_aux_lemma => kernel_rfl))) (by first | (with_reducible exact head_enter) | (rw [head_lifts]; as_aux_lemma => kernel_rfl) | (rw [head_make]; as_aux_lemma => kernel_rfl) | (as_aux_lemma => kernel_rfl))) (by first | (with_reducible exact head_enter) | (rw [head_lifts]; as_aux_lemma => kernel_rfl) | (rw [head_make]; as_aux_lemma => kernel_rfl) | (as_aux_lemma => kernel_rfl))) (by first | (with_reducible exact head_enter) | (rw [head_lifts]; as_aux_lemma => kernel_rfl) | (rw [head_make]; as_aux_lemma => kernel_rfl) | (as_aux_lemma => kernel_rfl))) (by first | (with_reducible exact head_enter) | (rw [head_lifts]; as_aux_lemma => kernel_rfl) | (rw [head_make]; as_aux_lemma => kernel_rfl) | (as_aux_lemma => kernel_rfl))) (by first | (with_reducible exact head_enter) | (rw [head_lifts]; as_aux_lemma => kernel_rfl) | (rw [head_make]; as_aux_lemma => kernel_rfl) | (as_aux_lemma => kernel_rfl))) (by first | (with_reducible exact head_enter) | (rw [head_lifts]; as_aux_lemma => kernel_rfl) | (rw [head_make]; as_aux_lemma => kernel_rfl) | (as_aux_lemma => kernel_rfl))) (by first | (with_reducible exact head_enter) | (rw [head_lifts]; as_aux_lemma => kernel_rfl) | (rw [head_make]; as_aux_lemma => kernel_rfl) | (as_aux_lemma => kernel_rfl))) (by first | (with_reducible exact head_enter) | (rw [head_lifts]; as_aux_lemma => kernel_rfl) | (rw [head_make]; as_aux_lemma => kernel_rfl) | (as_aux_lemma => kernel_rfl))) (by first | (with_reducible exact head_enter) | (rw [head_lifts]; as_aux_lemma => kernel_rfl) | (rw [head_make]; as_aux_lemma => kernel_rfl) | (as_aux_lemma => kernel_rfl))) (by first | (with_reducible exact head_enter) | (rw [head_lifts]; as_aux_lemma => kernel_rfl) | (rw [head_make]; as_aux_lemma => kernel_rfl) | (as_aux_lemma => kernel_rfl))) (by first | (with_reducible exact head_enter) | (rw [head_lifts]; as_aux_lemma => kernel_rfl) | (rw [head_make]; as_aux_lemma => kernel_rfl) | (as_aux_lemma => kernel_rfl))) (by first | (with_reducible exact head_enter) | (rw [head_lifts]; as_aux_lemma => kernel_rfl) | (rw [head_make]; as_aux_lemma => kernel_rfl) | (as_aux_lemma => kernel_rfl))) (by first | (with_reducible exact head_enter) | (rw [head_lifts]; as_aux_lemma => kernel_rfl) | (rw [head_make]; as_aux_lemma => kernel_rfl) | (as_aux_lemma => kernel_rfl))) (by first | (with_reducible exact head_enter) | (rw [head_lifts]; as_aux_lemma => kernel_rfl) | (rw [head_make]; as_aux_lemma => kernel_rfl) | (as_aux_lemma => kernel_rfl))) (by first | (with_reducible exact head_enter) | (rw [head_lifts]; as_aux_lemma => kernel_rfl) | (rw [head_make]; as_aux_lemma => kernel_rfl) | (as_aux_lemma => kernel_rfl))) (by first | (with_reducible exact head_enter) | (rw [head_lifts]; as_aux_lemma => kernel_rfl) | (rw [head_make]; as_aux_lemma => kernel_rfl) | (as_aux_lemma => kernel_rfl))) (by first | (with_reducible exact head_enter) | (rw [head_lifts]; as_aux_lemma => kernel_rfl) | (rw [head_make]; as_aux_lemma => kernel_rfl) | (as_aux_lemma => kernel_rfl))) (by first | (with_reducible exact head_enter) | (rw [head_lifts]; as_aux_lemma => kernel_rfl) | (rw [head_make]; as_aux_lemma => kernel_rfl) | (as_aux_lemma => kernel_rfl))) (by first | (with_reducible exact head_enter) | (rw [head_lifts]; as_aux_lemma => kernel_rfl) | (rw [head_make]; as_aux_lemma => kernel_rfl) | (as_aux_lemma => kernel_rfl))) (by first | (with_reducible exact head_enter) | (rw [head_lifts]; as_aux_lemma => kernel_rfl) | (rw [head_make]; as_aux_lemma => kernel_rfl) | (as_aux_lemma => kernel_rfl))) (by first | (with_reducible exact head_enter) | (rw [head_lifts]; as_aux_lemma => kernel_rfl) | (rw [head_make]; as_aux_lemma => kernel_rfl) | (as_aux_lemma => kernel_rfl))) (by first | (with_reducible exact head_enter) | (rw [head_lifts]; as_aux_lemma => kernel_rfl) | (rw [head_make]; as_aux_lemma => kernel_rfl) | (as_aux_lemma => kernel_rfl)))
    (of_decide_eq_true (by kernel_rfl)) (by unfold Func.isWrapper; first | (rw [if_pos (by decide +kernel)]; kernel_rfl) | (rw [if_neg (by decide +kernel)]; exact ⟨rfl, rfl⟩))
    (fun os started H enc _ => FnRecordPart_lifted os started H enc)
#print axioms FnRecordPart_holds

end Go.Proofs.Ytiejbliadegcdaa
