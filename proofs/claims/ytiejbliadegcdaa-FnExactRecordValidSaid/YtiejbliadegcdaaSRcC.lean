/- Exact laws of records: for every input the law returns true and the input reads as before. No condition. -/
import Derived.Test.YtiejbliadegcdaaRows
import Derived.Test.YtiejbliadegcdaaLExR
import Derived.Test.YtiejbliadegcdaaOpnR
import Derived.Test.YtiejbliadegcdaaBandP
import Derived.ProofKit
import Derived.OpenShut
import Derived.ShutString
import Derived.ChangeOld
set_option linter.unusedVariables false
set_option linter.unusedSimpArgs false
namespace Go.Proofs.Ytiejbliadegcdaa
open Go.ChangeShapes Go.WideShapes Go.ChangeAt Go.RowKit
open Go.ChangeMaps (open_string shut_string)

set_option maxRecDepth 100000 in
theorem FnExactRecordValid_lifted (os : Os) (started : os.Started) (H : Type) (enc : TypeId × Value → H) :
    ReturnsInHanded {} Try.checked os 4 .any (Rows.fnExactRecordValidSpec.pre6 enc Try.prog Try.f4 Rows.fnExactRecordValidRow.domain false) (Rows.fnExactRecordValidSpec.post enc Try.prog Try.f4 false true false false) := by
  refine returnsInHanded_of_change (C := Try.checked) (by kernel_rfl : ownKnob Try.prog.godebug = none) started (by kernel_rfl) Try.func4
    (ChangeSpec.witness6 (enc := enc) (C := Try.checked) false ⟨#[], #[.agg #[.int .i64 0, .int .i64 0, .int .i64 0, .string ByteArray.empty, .string ByteArray.empty]], []⟩ 8 (by kernel_rfl) (by kernel_rfl) (by kernel_rfl) (by kernel_rfl)) ?_
  intro W base args ds gs before hval0 hW hcnd _
  have hval : ∀ (j : Nat) t v, Try.f4.params[j]? = some t → args[j]? = some v → Value.okWide Try.prog W .any base t v := hval0
  have hW' := hW
  obtain ⟨p, q, hA0, hV, rfl, hfz, hnd⟩ := hW
  have hA : DataW.TrodAll enc Try.prog W 0 (fun _ => true) true Try.f4.params.toList args.toList ds p := hA0
  rw [Try.params4] at hA hval
  obtain ⟨v0, vs0, d0, ds0, p0, q0, hargs, rfl, rfl, h0, r0⟩ := trodAll_cons hA
  obtain ⟨rfl, rfl, rfl⟩ := trodAll_nil r0
  obtain rfl : args = #[v0] := by cases args; simp_all
  obtain ⟨rfl, rfl⟩ := trodVars_none hV
  have k0 := h0
  have lt0 : ∀ x ∈ p0, x.block < W.heap.size := by obtain ⟨m, hm⟩ := k0; exact DataW.trod_lt m _ _ _ hm
  obtain ⟨rk0, ri0, rd0, rs0, rt0, ev0, w0⟩ := rec_open Try.underlying28 (by kernel_rfl) (by kernel_rfl) Try.underlying3 Try.underlying3 Try.underlying3 Try.underlying9 Try.underlying9 (hval 0 28 v0 rfl rfl) h0
  subst ev0
  clear hA0 hval0
  refine (FnExactRecordValid_walk W rk0 ri0 rd0 rs0 rt0 w0.1 w0.2).mono fun e W' ⟨he, bel⟩ => ?_
  subst he
  exact ⟨_, rfl, _, _, _, [], _, [], hW', trodAll_mk1 (shut_bool Try.underlying4 _), (trodAll_cons_mk (Below.trod (by kernel_rfl : laidOutB Try.prog = true) (by kernel_rfl) (of_decide_eq_true (by kernel_rfl)) k0 bel lt0) trodAll_mk0), rfl, bel.frame _, fun h => by cases h⟩

set_option maxHeartbeats 4000000 in
theorem FnExactRecordValid_holds : Rows.FnExactRecordValidSaid :=
  OpenClaim.holds_of_wide 4 Try.f4 rfl rfl rfl rfl rfl rfl rfl ⟨rfl, rfl, rfl, rfl, rfl⟩ rfl rfl rfl rfl rfl (by kernel_rfl) Try.func4 (by show joinedFacts Try.prog 4 Try.f4 Rows.fnExactRecordValidSpec Rows.fnExactRecordValidRow = true; unfold joinedFacts; exact band (band (band (band (band (band (band (band (band (band (band (band (band (band (band (band (band (band (band (band (band (band (band (band (band (band (band (band (band (band (band (by first | (with_reducible exact head_enter) | (rw [head_lifts]; as_aux_lemma => kernel_rfl) | (rw [head_make]; as_aux_lemma => kernel_rfl) | (as_aux_lemma => kernel_rfl)) (by first | (with_reducible exact head_enter) | (rw [head_lifts]; as_aux_lemma => kernel_rfl) | (rw [head_make]; as_aux_lemma => kernel_rfl) | (as_aux_lemma => kernel_rfl))) (by first | (with_reducible exact head_enter) | (rw [head_lifts]; as_aux_lemma => kernel_rfl) | (rw [head_make]; as_aux_lemma => kernel_rfl) | (as_aux_lemma => kernel_rfl))) (by first | (with_reducible exact head_enter) | (rw [head_lifts]; as_aux_lemma => kernel_rfl) | (rw [head_make]; as_aux_lemma => kernel_rfl) | (as_aux_lemma => kernel_rfl))) (by first | (with_reducible exact head_enter) | (rw [head_lifts]; as_aux_lemma => kernel_rfl) | (rw [head_make]; as_aux_lemma => kernel_rfl) | (as_aux_lemma => kernel_rfl))) (by first | (with_reducible exact head_enter) | (rw [head_lifts]; as_aux_lemma => kernel_rfl) | (rw [head_make]; as_aux_lemma => kernel_rfl) | (as_aux_lemma => kernel_rfl))) (by first | (with_reducible exact head_enter) | (rw [head_lifts]; as_aux_lemma => kernel_rfl) | (rw [head_make]; as_aux_lemma => kernel_rfl) | (as_aux_lemma => kernel_rfl))) (by first | (with_reducible exact head_enter) | (rw [head_lifts]; as_aux_lemma => kernel_rfl) | (rw [head_make]; as_aux_lemma => kernel_rfl) | (as_aux_lemma => kernel_rfl))) (by first | (with_reducible exact head_enter) | (rw [head_lifts]; as_aux_lemma => kernel_rfl) | (rw [head_make]; as_aux_lemma => kernel_rfl) | (as_aux_lemma => kernel_rfl))) (by first | (with_reducible exact head_enter) | (rw [head_lifts]; as_aux_lemma => kernel_rfl) | (rw [head_make]; as_aux_lemma => kernel_rfl) | (as_aux_lemma => kernel_rfl))) (by first | (with_reducible exact head_enter) | (rw [head_lifts]; as_aux_lemma => kernel_rfl) | (rw [head_make]; as_aux_lemma => kernel_rfl) | (as_aux_lemma => kernel_rfl))) (by first | (with_reducible exact head_enter) | (rw [head_lifts]; as_aux_lemma => kernel_rfl) | (rw [head_make]; as_aux_lemma => kernel_rfl) | (as_aux_lemma => kernel_rfl))) (by first | (with_reducible exact head_enter) | (rw [head_lifts]; as_aux_lemma => kernel_rfl) | (rw [head_make]; as_aux_lemma => kernel_rfl) | (as_aux_lemma => kernel_rfl))) (by first | (with_reducible exact head_enter) | (rw [head_lifts]; as_aux_lemma => kernel_rfl) | (rw [head_make]; as_aux_lemma => kernel_rfl) | (as_aux_lemma => kernel_rfl))) (by first | (with_reducible exact head_enter) | (rw [head_lifts]; as_aux_lemma => kernel_rfl) | (rw [head_make]; as_aux_lemma => kernel_rfl) | (as_aux_lemma => kernel_rfl))) (by first | (with_reducible exact head_enter) | (rw [head_lifts]; as_aux_lemma => kernel_rfl) | (rw [head_make]; as_aux_lemma => kernel_rfl) | (as_aux_lemma => kernel_rfl))) (by first | (with_reducible exact head_enter) | (rw [head_lifts]; as_aux_lemma => kernel_rfl) | (rw [head_make]; as_aux_lemma => kernel_rfl) | (as_aux_lemma => kernel_rfl))) (by first | (with_reducible exact head_enter) | (rw [head_lifts]; as_aux_lemma => kernel_rfl) | (rw [head_make]; as_aux_lemma => kernel_rfl) | (as_aux_lemma => kernel_rfl))) (by first | (with_reducible exact head_enter) | (rw [head_lifts]; as_aux_lemma => kernel_rfl) | (rw [head_make]; as_aux_lemma => kernel_rfl) | (as_aux_lemma => kernel_rfl))) (by first | (with_reducible exact head_enter) | (rw [head_lifts]; as_aux_lemma => kernel_rfl) | (rw [head_make]; as_aux_lemma => kernel_rfl) | (as_aux_lemma => kernel_rfl))) (by first | (with_reducible exact head_enter) | (rw [head_lifts]; as_aux_lemma => kernel_rfl) | (rw [head_make]; as_aux_lemma => kernel_rfl) | (as_aux_lemma => kernel_rfl))) (by first | (with_reducible exact head_enter) | (rw [head_lifts]; as_aux_lemma => kernel_rfl) | (rw [head_make]; as_aux_lemma => kernel_rfl) | (as_aux_lemma => kernel_rfl))) (by first | (with_reducible exact head_enter) | (rw [head_lifts]; as_aux_lemma => kernel_rfl) | (rw [head_make]; as_aux_lemma => kernel_rfl) | (as_aux_lemma => kernel_rfl))) (by first | (with_reducible exact head_enter) | (rw [head_lifts]; as_aux_lemma => kernel_rfl) | (rw [head_make]; as_aux_lemma => kernel_rfl) | (as_aux_lemma => kernel_rfl))) (by first | (with_reducible exact head_enter) | (rw [head_lifts]; as_aux_lemma => kernel_rfl) | (rw [head_make]; as_aux_lemma => kernel_rfl) | (as_aux_lemma => kernel_rfl))) (by first | (with_reducible exact head_enter) | (rw [head_lifts]; as_aux_lemma => kernel_rfl) | (rw [head_make]; as_aux_lemma => kernel_rfl) | (as_aux_lemma => kernel_rfl))) (by first | (with_reducible exact head_enter) | (rw [head_lifts]; as_aux_lemma => kernel_rfl) | (rw [head_make]; as_aux_lemma => kernel_rfl) | (as_aux_lemma => kernel_rfl))) (by first | (with_reducible exact head_enter) | (rw [head_lifts]; as_aux_lemma => kernel_rfl) | (rw [head_make]; as_aux_lemma => kernel_rfl) | (as_aux_lemma => kernel_rfl))) (by first | (with_reducible exact head_enter) | (rw [head_lifts]; as_aux_lemma => kernel_rfl) | (rw [head_make]; as_aux_lemma => kernel_rfl) | (as_aux_lemma => kernel_rfl))) (by first | (with_reducible exact head_enter) | (rw [head_lifts]; as_aux_lemma => kernel_rfl) | (rw [head_make]; as_aux_lemma => kernel_rfl) | (as_aux_lemma => kernel_rfl))) (by first | (with_reducible exact head_enter) | (rw [head_lifts]; as_aux_lemma => kernel_rfl) | (rw [head_make]; as_aux_lemma => kernel_rfl) | (as_aux_lemma => kernel_rfl))) (by first | (with_reducible exact head_enter) | (rw [head_lifts]; as_aux_lemma => kernel_rfl) | (rw [head_make]; as_aux_lemma => kernel_rfl) | (as_aux_lemma => kernel_rfl)))
    (of_decide_eq_true (by kernel_rfl)) (by unfold Func.isWrapper; first | (rw [if_pos (by decide +kernel)]; kernel_rfl) | (rw [if_neg (by decide +kernel)]; exact ⟨rfl, rfl⟩))
    (fun os started H enc _ => FnExactRecordValid_lifted os started H enc)
#print axioms FnExactRecordValid_holds


end Go.Proofs.Ytiejbliadegcdaa
