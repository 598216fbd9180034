/- Laws of jobs: for every input the law returns true and the input reads as before. No condition. -/
import Derived.Test.YtimpmlmkhjeajaaRows
import Derived.Test.YtimpmlmkhjeajaaLJr4
import Derived.Test.YtimpmlmkhjeajaaLJr5
import Derived.Test.YtimpmlmkhjeajaaLJr2
import Derived.Test.YtimpmlmkhjeajaaLJr3
import Derived.Test.YtimpmlmkhjeajaaBandP
import Derived.ProofKit
import Derived.OpenShut
import Derived.ShutString
import Derived.ChangeOld
set_option linter.unusedVariables false
set_option linter.unusedSimpArgs false
namespace Go.Proofs.Ytimpmlmkhjeajaa
open Go.ChangeShapes Go.WideShapes Go.ChangeAt Go.RowKit
open Go.ChangeMaps (open_string shut_string)

set_option maxRecDepth 100000 in
theorem FnJobRun_lifted (os : Os) (started : os.Started) (H : Type) (enc : TypeId × Value → H) :
    ReturnsInHanded {} Try.checked os 7 .any (Rows.fnJobRunSpec.pre6 enc Try.prog Try.f7 Rows.fnJobRunRow.domain false) (Rows.fnJobRunSpec.post enc Try.prog Try.f7 false true false false) := by
  refine returnsInHanded_of_change (C := Try.checked) (by kernel_rfl : ownKnob Try.prog.godebug = none) started (by kernel_rfl) Try.func7
    (ChangeSpec.witness6 (enc := enc) (C := Try.checked) false ⟨#[], #[.slice none 0 0], []⟩ 8 (by kernel_rfl) (by kernel_rfl) (by kernel_rfl) (by kernel_rfl)) ?_
  intro W base args ds gs before hval0 hW hcnd _
  have hval : ∀ (j : Nat) t v, Try.f7.params[j]? = some t → args[j]? = some v → Value.okWide Try.prog W .any base t v := hval0
  have hW' := hW
  obtain ⟨p, q, hA0, hV, rfl, hfz, hnd⟩ := hW
  have hA : DataW.TrodAll enc Try.prog W 0 (fun _ => true) true Try.f7.params.toList args.toList ds p := hA0
  rw [Try.params7] at hA hval
  obtain ⟨v0, vs0, d0, ds0, p0, q0, hargs, rfl, rfl, h0, r0⟩ := trodAll_cons hA
  obtain ⟨rfl, rfl, rfl⟩ := trodAll_nil r0
  obtain rfl : args = #[v0] := by cases args; simp_all
  obtain ⟨rfl, rfl⟩ := trodVars_none hV
  obtain ⟨a0, len0, cap0, rfl⟩ := okWide_slice Try.underlying22 (hval 0 22 v0 rfl rfl)
  have k0 := h0
  have lt0 : ∀ x ∈ p0, x.block < W.heap.size := by obtain ⟨m, hm⟩ := k0; exact DataW.trod_lt m _ _ _ hm
  have w0 : Code W W.heap.size a0 len0 ∧ len0 ≤ cap0 ∧ len0 ≤ maxLen := by
    obtain ⟨fuel, hf⟩ := h0
    rcases open_ints Try.underlying22 Try.underlying5 (by kernel_rfl) hf with ⟨hcs, _⟩ | ⟨x, l, c, zs, hcs, _, hl, hm, hz, _, hcell, hwz⟩
    · simp [Value.cells] at hcs
      obtain ⟨rfl, rfl, rfl⟩ := hcs
      exact ⟨fun h => absurd h (by omega), Nat.le_refl _, Nat.zero_le _⟩
    · simp [Value.cells] at hcs
      obtain ⟨rfl, rfl, rfl⟩ := hcs
      exact ⟨Code.of_ints hl (by simpa using hz) hcell hwz, hl, Nat.le_trans hl hm⟩
  clear hA0 hval0
  refine (FnJobRun_walk W a0 len0 cap0 w0.1 w0.2.1 w0.2.2).mono fun e W' ⟨he, bel⟩ => ?_
  subst he
  exact ⟨_, rfl, _, _, _, [], _, [], hW', trodAll_mk1 (shut_bool Try.underlying4 _), (trodAll_cons_mk (Below.trod (by kernel_rfl : laidOutB Try.prog = true) (by kernel_rfl) (of_decide_eq_true (by kernel_rfl)) k0 bel lt0) trodAll_mk0), rfl, bel.frame _, fun h => by cases h⟩

set_option maxHeartbeats 4000000 in
theorem FnJobRun_holds : Rows.FnJobRunSaid :=
  OpenClaim.holds_of_wide 7 Try.f7 rfl rfl rfl rfl rfl rfl rfl ⟨rfl, rfl, rfl, rfl, rfl⟩ rfl rfl rfl rfl rfl (by kernel_rfl) Try.func7 (by show joinedFacts Try.prog 7 Try.f7 Rows.fnJobRunSpec Rows.fnJobRunRow = true; unfold joinedFacts; exact band (band (band (band (band (band (band (band (band (band (band (band (band (band (band (band (band (band (band (band (band (band (band (band (band (band (band (band (band (band (band (by first | (with_reducible exact head_enter) | (rw [head_lifts]; as_aux_lemma => kernel_rfl) | (rw [head_make]; as_aux_lemma => kernel_rfl) | (as_aux_lemma => kernel_rfl)) (by first | (with_reducible exact head_enter) | (rw [head_lifts]; as_aux_lemma => kernel_rfl) | (rw [head_make]; as_aux_lemma => kernel_rfl) | (as_aux_lemma => kernel_rfl))) (by first | (with_reducible exact head_enter) | (rw [head_lifts]; as_aux_lemma => kernel_rfl) | (rw [head_make]; as_aux_lemma => kernel_rfl) | (as_aux_lemma => kernel_rfl))) (by first | (with_reducible exact head_enter) | (rw [head_lifts]; as_aux_lemma => kernel_rfl) | (rw [head_make]; as_aux_lemma => kernel_rfl) | (as_aux_lemma => kernel_rfl))) (by first | (with_reducible exact head_enter) | (rw [head_lifts]; as_aux_lemma => kernel_rfl) | (rw [head_make]; as_aux_lemma => kernel_rfl) | (as_aux_lemma => kernel_rfl))) (by first | (with_reducible exact head_enter) | (rw [head_lifts]; as_aux_lemma => kernel_rfl) | (rw [head_make]; as_aux_lemma => kernel_rfl) | (as_aux_lemma => kernel_rfl))) (by first | (with_reducible exact head_enter) | (rw [head_lifts]; as_aux_lemma => kernel_rfl) | (rw [head_make]; as_aux_lemma => kernel_rfl) | (as_aux_lemma => kernel_rfl))) (by first | (with_reducible exact head_enter) | (rw [head_lifts]; as_aux_lemma => kernel_rfl) | (rw [head_make]; as_aux_lemma => kernel_rfl) | (as_aux_lemma => kernel_rfl))) (by first | (with_reducible exact head_enter) | (rw [head_lifts]; as_aux_lemma => kernel_rfl) | (rw [head_make]; as_aux_lemma => kernel_rfl) | (as_aux_lemma => kernel_rfl))) (by first | (with_reducible exact head_enter) | (rw [head_lifts]; as_aux_lemma => kernel_rfl) | (rw [head_make]; as_aux_lemma => kernel_rfl) | (as_aux_lemma => kernel_rfl))) (by first | (with_reducible exact head_enter) | (rw [head_lifts]; as_aux_lemma => kernel_rfl) | (rw [head_make]; as_aux_lemma => kernel_rfl) | (as_aux_lemma => kernel_rfl))) (by first | (with_reducible exact head_enter) | (rw [head_lifts]; as_aux_lemma => kernel_rfl) | (rw [head_make]; as_aux_lemma => kernel_rfl) | (as_aux_lemma => kernel_rfl))) (by first | (with_reducible exact head_enter) | (rw [head_lifts]; as_aux_lemma => kernel_rfl) | (rw [head_make]; as_aux_lemma => kernel_rfl) | (as_aux_lemma => kernel_rfl))) (by first | (with_reducible exact head_enter) | (rw [head_lifts]; as_aux_lemma => kernel_rfl) | (rw [head_make]; as_aux_lemma => kernel_rfl) | (as_aux_lemma => kernel_rfl))) (by first | (with_reducible exact head_enter) | (rw [head_lifts]; as_aux_lemma => kernel_rfl) | (rw [head_make]; as_aux_lemma => kernel_rfl) | (as_aux_lemma => kernel_rfl))) (by first | (with_reducible exact head_enter) | (rw [head_lifts]; as_aux_lemma => kernel_rfl) | (rw [head_make]; as_aux_lemma => kernel_rfl) | (as_aux_lemma => kernel_rfl))) (by first | (with_reducible exact head_enter) | (rw [head_lifts]; as_aux_lemma => kernel_rfl) | (rw [head_make]; as_aux_lemma => kernel_rfl) | (as_aux_lemma => kernel_rfl))) (by first | (with_reducible exact head_enter) | (rw [head_lifts]; as_aux_lemma => kernel_rfl) | (rw [head_make]; as_aux_lemma => kernel_rfl) | (as_aux_lemma => kernel_rfl))) (by first | (with_reducible exact head_enter) | (rw [head_lifts]; as_aux_lemma => kernel_rfl) | (rw [head_make]; as_aux_lemma => kernel_rfl) | (as_aux_lemma => kernel_rfl))) (by first | (with_reducible exact head_enter) | (rw [head_lifts]; as_aux_lemma => kernel_rfl) | (rw [head_make]; as_aux_lemma => kernel_rfl) | (as_aux_lemma => kernel_rfl))) (by first | (with_reducible exact head_enter) | (rw [head_lifts]; as_aux_lemma => kernel_rfl) | (rw [head_make]; as_aux_lemma => kernel_rfl) | (as_aux_lemma => kernel_rfl))) (by first | (with_reducible exact head_enter) | (rw [head_lifts]; as_aux_lemma => kernel_rfl) | (rw [head_make]; as_aux_lemma => kernel_rfl) | (as_aux_lemma => kernel_rfl))) (by first | (with_reducible exact head_enter) | (rw [head_lifts]; as_aux_lemma => kernel_rfl) | (rw [head_make]; as_aux_lemma => kernel_rfl) | (as_aux_lemma => kernel_rfl))) (by first | (with_reducible exact head_enter) | (rw [head_lifts]; as_aux_lemma => kernel_rfl) | (rw [head_make]; as_aux_lemma => kernel_rfl) | (as_aux_lemma => kernel_rfl))) (by first | (with_reducible exact head_enter) | (rw [head_lifts]; as_aux_lemma => kernel_rfl) | (rw [head_make]; as_aux_lemma => kernel_rfl) | (as_aux_lemma => kernel_rfl))) (by first | (with_reducible exact head_enter) | (rw [head_lifts]; as_aux_lemma => kernel_rfl) | (rw [head_make]; as_aux_lemma => kernel_rfl) | (as_aux_lemma => kernel_rfl))) (by first | (with_reducible exact head_enter) | (rw [head_lifts]; as_aux_lemma => kernel_rfl) | (rw [head_make]; as_aux_lemma => kernel_rfl) | (as_aux_lemma => kernel_rfl))) (by first | (with_reducible exact head_enter) | (rw [head_lifts]; as_aux_lemma => kernel_rfl) | (rw [head_make]; as_aux_lemma => kernel_rfl) | (as_aux_lemma => kernel_rfl))) (by first | (with_reducible exact head_enter) | (rw [head_lifts]; as_aux_lemma => kernel_rfl) | (rw [head_make]; as_aux_lemma => kernel_rfl) | (as_aux_lemma => kernel_rfl))) (by first | (with_reducible exact head_enter) | (rw [head_lifts]; as_aux_lemma => kernel_rfl) | (rw [head_make]; as_aux_lemma => kernel_rfl) | (as_aux_lemma => kernel_rfl))) (by first | (with_reducible exact head_enter) | (rw [head_lifts]; as_aux_lemma => kernel_rfl) | (rw [head_make]; as_aux_lemma => kernel_rfl) | (as_aux_lemma => kernel_rfl))) (by first | (with_reducible exact head_enter) | (rw [head_lifts]; as_aux_lemma => kernel_rfl) | (rw [head_make]; as_aux_lemma => kernel_rfl) | (as_aux_lemma => kernel_rfl)))
    (of_decide_eq_true (by kernel_rfl)) (by unfold Func.isWrapper; first | (rw [if_pos (by decide +kernel)]; kernel_rfl) | (rw [if_neg (by decide +kernel)]; exact ⟨rfl, rfl⟩))
    (fun os started H enc _ => FnJobRun_lifted os started H enc)
#print axioms FnJobRun_holds

set_option maxRecDepth 100000 in
theorem FnJobRunOthers_lifted (os : Os) (started : os.Started) (H : Type) (enc : TypeId × Value → H) :
    ReturnsInHanded {} Try.checked os 8 .any (Rows.fnJobRunOthersSpec.pre6 enc Try.prog Try.f8 Rows.fnJobRunOthersRow.domain false) (Rows.fnJobRunOthersSpec.post enc Try.prog Try.f8 false true false false) := by
  refine returnsInHanded_of_change (C := Try.checked) (by kernel_rfl : ownKnob Try.prog.godebug = none) started (by kernel_rfl) Try.func8
    (ChangeSpec.witness6 (enc := enc) (C := Try.checked) false ⟨#[], #[.slice none 0 0], []⟩ 8 (by kernel_rfl) (by kernel_rfl) (by kernel_rfl) (by kernel_rfl)) ?_
  intro W base args ds gs before hval0 hW hcnd _
  have hval : ∀ (j : Nat) t v, Try.f8.params[j]? = some t → args[j]? = some v → Value.okWide Try.prog W .any base t v := hval0
  have hW' := hW
  obtain ⟨p, q, hA0, hV, rfl, hfz, hnd⟩ := hW
  have hA : DataW.TrodAll enc Try.prog W 0 (fun _ => true) true Try.f8.params.toList args.toList ds p := hA0
  rw [Try.params8] at hA hval
  obtain ⟨v0, vs0, d0, ds0, p0, q0, hargs, rfl, rfl, h0, r0⟩ := trodAll_cons hA
  obtain ⟨rfl, rfl, rfl⟩ := trodAll_nil r0
  obtain rfl : args = #[v0] := by cases args; simp_all
  obtain ⟨rfl, rfl⟩ := trodVars_none hV
  obtain ⟨a0, len0, cap0, rfl⟩ := okWide_slice Try.underlying22 (hval 0 22 v0 rfl rfl)
  have k0 := h0
  have lt0 : ∀ x ∈ p0, x.block < W.heap.size := by obtain ⟨m, hm⟩ := k0; exact DataW.trod_lt m _ _ _ hm
  have w0 : Code W W.heap.size a0 len0 ∧ len0 ≤ cap0 ∧ len0 ≤ maxLen := by
    obtain ⟨fuel, hf⟩ := h0
    rcases open_ints Try.underlying22 Try.underlying5 (by kernel_rfl) hf with ⟨hcs, _⟩ | ⟨x, l, c, zs, hcs, _, hl, hm, hz, _, hcell, hwz⟩
    · simp [Value.cells] at hcs
      obtain ⟨rfl, rfl, rfl⟩ := hcs
      exact ⟨fun h => absurd h (by omega), Nat.le_refl _, Nat.zero_le _⟩
    · simp [Value.cells] at hcs
      obtain ⟨rfl, rfl, rfl⟩ := hcs
      exact ⟨Code.of_ints hl (by simpa using hz) hcell hwz, hl, Nat.le_trans hl hm⟩
  clear hA0 hval0
  refine (FnJobRunOthers_walk W a0 len0 cap0 w0.1 w0.2.1 w0.2.2).mono fun e W' ⟨he, bel⟩ => ?_
  subst he
  exact ⟨_, rfl, _, _, _, [], _, [], hW', trodAll_mk1 (shut_bool Try.underlying4 _), (trodAll_cons_mk (Below.trod (by kernel_rfl : laidOutB Try.prog = true) (by kernel_rfl) (of_decide_eq_true (by kernel_rfl)) k0 bel lt0) trodAll_mk0), rfl, bel.frame _, fun h => by cases h⟩

set_option maxHeartbeats 4000000 in
theorem FnJobRunOthers_holds : Rows.FnJobRunOthersSaid :=
  OpenClaim.holds_of_wide 8 Try.f8 rfl rfl rfl rfl rfl rfl rfl ⟨rfl, rfl, rfl, rfl, rfl⟩ rfl rfl rfl rfl rfl (by kernel_rfl) Try.func8 (by show joinedFacts Try.prog 8 Try.f8 Rows.fnJobRunOthersSpec Rows.fnJobRunOthersRow = true; unfold joinedFacts; exact band (band (band (band (band (band (band (band (band (band (band (band (band (band (band (band (band (band (band (band (band (band (band (band (band (band (band (band (band (band (band (by first | (with_reducible exact head_enter) | (rw [head_lifts]; as_aux_lemma => kernel_rfl) | (rw [head_make]; as_aux_lemma => kernel_rfl) | (as_aux_lemma => kernel_rfl)) (by first | (with_reducible exact head_enter) | (rw [head_lifts]; as_aux_lemma => kernel_rfl) | (rw [head_make]; as_aux_lemma => kernel_rfl) | (as_aux_lemma => kernel_rfl))) (by first | (with_reducible exact head_enter) | (rw [head_lifts]; as_aux_lemma => kernel_rfl) | (rw [head_make]; as_aux_lemma => kernel_rfl) | (as_aux_lemma => kernel_rfl))) (by first | (with_reducible exact head_enter) | (rw [head_lifts]; as_aux_lemma => kernel_rfl) | (rw [head_make]; as_aux_lemma => kernel_rfl) | (as_aux_lemma => kernel_rfl))) (by first | (with_reducible exact head_enter) | (rw [head_lifts]; as_aux_lemma => kernel_rfl) | (rw [head_make]; as_aux_lemma => kernel_rfl) | (as_aux_lemma => kernel_rfl))) (by first | (with_reducible exact head_enter) | (rw [head_lifts]; as_aux_lemma => kernel_rfl) | (rw [head_make]; as_aux_lemma => kernel_rfl) | (as_aux_lemma => kernel_rfl))) (by first | (with_reducible exact head_enter) | (rw [head_lifts]; as_aux_lemma => kernel_rfl) | (rw [head_make]; as_aux_lemma => kernel_rfl) | (as_aux_lemma => kernel_rfl))) (by first | (with_reducible exact head_enter) | (rw [head_lifts]; as_aux_lemma => kernel_rfl) | (rw [head_make]; as_aux_lemma => kernel_rfl) | (as_aux_lemma => kernel_rfl))) (by first | (with_reducible exact head_enter) | (rw [head_lifts]; as_aux_lemma => kernel_rfl) | (rw [head_make]; as_aux_lemma => kernel_rfl) | (as_aux_lemma => kernel_rfl))) (by first | (with_reducible exact head_enter) | (rw [head_lifts]; as_aux_lemma => kernel_rfl) | (rw [head_make]; as_aux_lemma => kernel_rfl) | (as_aux_lemma => kernel_rfl))) (by first | (with_reducible exact head_enter) | (rw [head_lifts]; as_aux_lemma => kernel_rfl) | (rw [head_make]; as_aux_lemma => kernel_rfl) | (as_aux_lemma => kernel_rfl))) (by first | (with_reducible exact head_enter) | (rw [head_lifts]; as_aux_lemma => kernel_rfl) | (rw [head_make]; as_aux_lemma => kernel_rfl) | (as_aux_lemma => kernel_rfl))) (by first | (with_reducible exact head_enter) | (rw [head_lifts]; as_aux_lemma => kernel_rfl) | (rw [head_make]; as_aux_lemma => kernel_rfl) | (as_aux_lemma => kernel_rfl))) (by first | (with_reducible exact head_enter) | (rw [head_lifts]; as_aux_lemma => kernel_rfl) | (rw [head_make]; as_aux_lemma => kernel_rfl) | (as_aux_lemma => kernel_rfl))) (by first | (with_reducible exact head_enter) | (rw [head_lifts]; as_aux_lemma => kernel_rfl) | (rw [head_make]; as_aux_lemma => kernel_rfl) | (as_aux_lemma => kernel_rfl))) (by first | (with_reducible exact head_enter) | (rw [head_lifts]; as_aux_lemma => kernel_rfl) | (rw [head_make]; as_aux_lemma => kernel_rfl) | (as_aux_lemma => kernel_rfl))) (by first | (with_reducible exact head_enter) | (rw [head_lifts]; as_aux_lemma => kernel_rfl) | (rw [head_make]; as_aux_lemma => kernel_rfl) | (as_aux_lemma => kernel_rfl))) (by first | (with_reducible exact head_enter) | (rw [head_lifts]; as_aux_lemma => kernel_rfl) | (rw [head_make]; as_aux_lemma => kernel_rfl) | (as_aux_lemma => kernel_rfl))) (by first | (with_reducible exact head_enter) | (rw [head_lifts]; as_aux_lemma => kernel_rfl) | (rw [head_make]; as_aux_lemma => kernel_rfl) | (as_aux_lemma => kernel_rfl))) (by first | (with_reducible exact head_enter) | (rw [head_lifts]; as_aux_lemma => kernel_rfl) | (rw [head_make]; as_aux_lemma => kernel_rfl) | (as_aux_lemma => kernel_rfl))) (by first | (with_reducible exact head_enter) | (rw [head_lifts]; as_aux_lemma => kernel_rfl) | (rw [head_make]; as_aux_lemma => kernel_rfl) | (as_aux_lemma => kernel_rfl))) (by first | (with_reducible exact head_enter) | (rw [head_lifts]; as_aux_lemma => kernel_rfl) | (rw [head_make]; as_aux_lemma => kernel_rfl) | (as_aux_lemma => kernel_rfl))) (by first | (with_reducible exact head_enter) | (rw [head_lifts]; as_aux_lemma => kernel_rfl) | (rw [head_make]; as_aux_lemma => kernel_rfl) | (as_aux_lemma => kernel_rfl))) (by first | (with_reducible exact head_enter) | (rw [head_lifts]; as_aux_lemma => kernel_rfl) | (rw [head_make]; as_aux_lemma => kernel_rfl) | (as_aux_lemma => kernel_rfl))) (by first | (with_reducible exact head_enter) | (rw [head_lifts]; as_aux_lemma => kernel_rfl) | (rw [head_make]; as_aux_lemma => kernel_rfl) | (as_aux_lemma => kernel_rfl))) (by first | (with_reducible exact head_enter) | (rw [head_lifts]; as_aux_lemma => kernel_rfl) | (rw [head_make]; as_aux_lemma => kernel_rfl) | (as_aux_lemma => kernel_rfl))) (by first | (with_reducible exact head_enter) | (rw [head_lifts]; as_aux_lemma => kernel_rfl) | (rw [head_make]; as_aux_lemma => kernel_rfl) | (as_aux_lemma => kernel_rfl))) (by first | (with_reducible exact head_enter) | (rw [head_lifts]; as_aux_lemma => kernel_rfl) | (rw [head_make]; as_aux_lemma => kernel_rfl) | (as_aux_lemma => kernel_rfl))) (by first | (with_reducible exact head_enter) | (rw [head_lifts]; as_aux_lemma => kernel_rfl) | (rw [head_make]; as_aux_lemma => kernel_rfl) | (as_aux_lemma => kernel_rfl))) (by first | (with_reducible exact head_enter) | (rw [head_lifts]; as_aux_lemma => kernel_rfl) | (rw [head_make]; as_aux_lemma => kernel_rfl) | (as_aux_lemma => kernel_rfl))) (by first | (with_reducible exact head_enter) | (rw [head_lifts]; as_aux_lemma => kernel_rfl) | (rw [head_make]; as_aux_lemma => kernel_rfl) | (as_aux_lemma => kernel_rfl))) (by first | (with_reducible exact head_enter) | (rw [head_lifts]; as_aux_lemma => kernel_rfl) | (rw [head_make]; as_aux_lemma => kernel_rfl) | (as_aux_lemma => kernel_rfl)))
    (of_decide_eq_true (by kernel_rfl)) (by unfold Func.isWrapper; first | (rw [if_pos (by decide +kernel)]; kernel_rfl) | (rw [if_neg (by decide +kernel)]; exact ⟨rfl, rfl⟩))
    (fun os started H enc _ => FnJobRunOthers_lifted os started H enc)
#print axioms FnJobRunOthers_holds

set_option maxRecDepth 100000 in
theorem FnJobRunAgain_lifted (os : Os) (started : os.Started) (H : Type) (enc : TypeId × Value → H) :
    ReturnsInHanded {} Try.checked os 9 .any (Rows.fnJobRunAgainSpec.pre6 enc Try.prog Try.f9 Rows.fnJobRunAgainRow.domain false) (Rows.fnJobRunAgainSpec.post enc Try.prog Try.f9 false true false false) := by
  refine returnsInHanded_of_change (C := Try.checked) (by kernel_rfl : ownKnob Try.prog.godebug = none) started (by kernel_rfl) Try.func9
    (ChangeSpec.witness6 (enc := enc) (C := Try.checked) false ⟨#[], #[.slice none 0 0], []⟩ 8 (by kernel_rfl) (by kernel_rfl) (by kernel_rfl) (by kernel_rfl)) ?_
  intro W base args ds gs before hval0 hW hcnd _
  have hval : ∀ (j : Nat) t v, Try.f9.params[j]? = some t → args[j]? = some v → Value.okWide Try.prog W .any base t v := hval0
  have hW' := hW
  obtain ⟨p, q, hA0, hV, rfl, hfz, hnd⟩ := hW
  have hA : DataW.TrodAll enc Try.prog W 0 (fun _ => true) true Try.f9.params.toList args.toList ds p := hA0
  rw [Try.params9] at hA hval
  obtain ⟨v0, vs0, d0, ds0, p0, q0, hargs, rfl, rfl, h0, r0⟩ := trodAll_cons hA
  obtain ⟨rfl, rfl, rfl⟩ := trodAll_nil r0
  obtain rfl : args = #[v0] := by cases args; simp_all
  obtain ⟨rfl, rfl⟩ := trodVars_none hV
  obtain ⟨a0, len0, cap0, rfl⟩ := okWide_slice Try.underlying22 (hval 0 22 v0 rfl rfl)
  have k0 := h0
  have lt0 : ∀ x ∈ p0, x.block < W.heap.size := by obtain ⟨m, hm⟩ := k0; exact DataW.trod_lt m _ _ _ hm
  have w0 : Code W W.heap.size a0 len0 ∧ len0 ≤ cap0 ∧ len0 ≤ maxLen := by
    obtain ⟨fuel, hf⟩ := h0
    rcases open_ints Try.underlying22 Try.underlying5 (by kernel_rfl) hf with ⟨hcs, _⟩ | ⟨x, l, c, zs, hcs, _, hl, hm, hz, _, hcell, hwz⟩
    · simp [Value.cells] at hcs
      obtain ⟨rfl, rfl, rfl⟩ := hcs
      exact ⟨fun h => absurd h (by omega), Nat.le_refl _, Nat.zero_le _⟩
    · simp [Value.cells] at hcs
      obtain ⟨rfl, rfl, rfl⟩ := hcs
      exact ⟨Code.of_ints hl (by simpa using hz) hcell hwz, hl, Nat.le_trans hl hm⟩
  clear hA0 hval0
  refine (FnJobRunAgain_walk W a0 len0 cap0 w0.1 w0.2.1 w0.2.2).mono fun e W' ⟨he, bel⟩ => ?_
  subst he
  exact ⟨_, rfl, _, _, _, [], _, [], hW', trodAll_mk1 (shut_bool Try.underlying4 _), (trodAll_cons_mk (Below.trod (by kernel_rfl : laidOutB Try.prog = true) (by kernel_rfl) (of_decide_eq_true (by kernel_rfl)) k0 bel lt0) trodAll_mk0), rfl, bel.frame _, fun h => by cases h⟩

set_option maxHeartbeats 4000000 in
theorem FnJobRunAgain_holds : Rows.FnJobRunAgainSaid :=
  OpenClaim.holds_of_wide 9 Try.f9 rfl rfl rfl rfl rfl rfl rfl ⟨rfl, rfl, rfl, rfl, rfl⟩ rfl rfl rfl rfl rfl (by kernel_rfl) Try.func9 (by show joinedFacts Try.prog 9 Try.f9 Rows.fnJobRunAgainSpec Rows.fnJobRunAgainRow = true; unfold joinedFacts; exact band (band (band (band (band (band (band (band (band (band (band (band (band (band (band (band (band (band (band (band (band (band (band (band (band (band (band (band (band (band (band (by first | (with_reducible exact head_enter) | (rw [head_lifts]; as_aux_lemma => kernel_rfl) | (rw [head_make]; as_aux_lemma => kernel_rfl) | (as_aux_lemma => kernel_rfl)) (by first | (with_reducible exact head_enter) | (rw [head_lifts]; as_aux_lemma => kernel_rfl) | (rw [head_make]; as_aux_lemma => kernel_rfl) | (as_aux_lemma => kernel_rfl))) (by first | (with_reducible exact head_enter) | (rw [head_lifts]; as_aux_lemma => kernel_rfl) | (rw [head_make]; as_aux_lemma => kernel_rfl) | (as_aux_lemma => kernel_rfl))) (by first | (with_reducible exact head_enter) | (rw [head_lifts]; as_aux_lemma => kernel_rfl) | (rw [head_make]; as_aux_lemma => kernel_rfl) | (as_aux_lemma => kernel_rfl))) (by first | (with_reducible exact head_enter) | (rw [head_lifts]; as_aux_lemma => kernel_rfl) | (rw [head_make]; as_aux_lemma => kernel_rfl) | (as_aux_lemma => kernel_rfl))) (by first | (with_reducible exact head_enter) | (rw [head_lifts]; as_aux_lemma => kernel_rfl) | (rw [head_make]; as_aux_lemma => kernel_rfl) | (as_aux_lemma => kernel_rfl))) (by first | (with_reducible exact head_enter) | (rw [head_lifts]; as_aux_lemma => kernel_rfl) | (rw [head_make]; as_aux_lemma => kernel_rfl) | (as_aux_lemma => kernel_rfl))) (by first | (with_reducible exact head_enter) | (rw [head_lifts]; as_aux_lemma => kernel_rfl) | (rw [head_make]; as_aux_lemma => kernel_rfl) | (as_aux_lemma => kernel_rfl))) (by first | (with_reducible exact head_enter) | (rw [head_lifts]; as_aux_lemma => kernel_rfl) | (rw [head_make]; as_aux_lemma => kernel_rfl) | (as_aux_lemma => kernel_rfl))) (by first | (with_reducible exact head_enter) | (rw [head_lifts]; as_aux_lemma => kernel_rfl) | (rw [head_make]; as_aux_lemma => kernel_rfl) | (as_aux_lemma => kernel_rfl))) (by first | (with_reducible exact head_enter) | (rw [head_lifts]; as_aux_lemma => kernel_rfl) | (rw [head_make]; as_aux_lemma => kernel_rfl) | (as_aux_lemma => kernel_rfl))) (by first | (with_reducible exact head_enter) | (rw [head_lifts]; as_aux_lemma => kernel_rfl) | (rw [head_make]; as_aux_lemma => kernel_rfl) | (as_aux_lemma => kernel_rfl))) (by first | (with_reducible exact head_enter) | (rw [head_lifts]; as_aux_lemma => kernel_rfl) | (rw [head_make]; as_aux_lemma => kernel_rfl) | (as_aux_lemma => kernel_rfl))) (by first | (with_reducible exact head_enter) | (rw [head_lifts]; as_aux_lemma => kernel_rfl) | (rw [head_make]; as_aux_lemma => kernel_rfl) | (as_aux_lemma => kernel_rfl))) (by first | (with_reducible exact head_enter) | (rw [head_lifts]; as_aux_lemma => kernel_rfl) | (rw [head_make]; as_aux_lemma => kernel_rfl) | (as_aux_lemma => kernel_rfl))) (by first | (with_reducible exact head_enter) | (rw [head_lifts]; as_aux_lemma => kernel_rfl) | (rw [head_make]; as_aux_lemma => kernel_rfl) | (as_aux_lemma => kernel_rfl))) (by first | (with_reducible exact head_enter) | (rw [head_lifts]; as_aux_lemma => kernel_rfl) | (rw [head_make]; as_aux_lemma => kernel_rfl) | (as_aux_lemma => kernel_rfl))) (by first | (with_reducible exact head_enter) | (rw [head_lifts]; as_aux_lemma => kernel_rfl) | (rw [head_make]; as_aux_lemma => kernel_rfl) | (as_aux_lemma => kernel_rfl))) (by first | (with_reducible exact head_enter) | (rw [head_lifts]; as_aux_lemma => kernel_rfl) | (rw [head_make]; as_aux_lemma => kernel_rfl) | (as_aux_lemma => kernel_rfl))) (by first | (with_reducible exact head_enter) | (rw [head_lifts]; as_aux_lemma => kernel_rfl) | (rw [head_make]; as_aux_lemma => kernel_rfl) | (as_aux_lemma => kernel_rfl))) (by first | (with_reducible exact head_enter) | (rw [head_lifts]; as_aux_lemma => kernel_rfl) | (rw [head_make]; as_aux_lemma => kernel_rfl) | (as_aux_lemma => kernel_rfl))) (by first | (with_reducible exact head_enter) | (rw [head_lifts]; as_aux_lemma => kernel_rfl) | (rw [head_make]; as_aux_lemma => kernel_rfl) | (as_aux_lemma => kernel_rfl))) (by first | (with_reducible exact head_enter) | (rw [head_lifts]; as_aux_lemma => kernel_rfl) | (rw [head_make]; as_aux_lemma => kernel_rfl) | (as_aux_lemma => kernel_rfl))) (by first | (with_reducible exact head_enter) | (rw [head_lifts]; as_aux_lemma => kernel_rfl) | (rw [head_make]; as_aux_lemma => kernel_rfl) | (as_aux_lemma => kernel_rfl))) (by first | (with_reducible exact head_enter) | (rw [head_lifts]; as_aux_lemma => kernel_rfl) | (rw [head_make]; as_aux_lemma => kernel_rfl) | (as_aux_lemma => kernel_rfl))) (by first | (with_reducible exact head_enter) | (rw [head_lifts]; as_aux_lemma => kernel_rfl) | (rw [head_make]; as_aux_lemma => kernel_rfl) | (as_aux_lemma => kernel_rfl))) (by first | (with_reducible exact head_enter) | (rw [head_lifts]; as_aux_lemma => kernel_rfl) | (rw [head_make]; as_aux_lemma => kernel_rfl) | (as_aux_lemma => kernel_rfl))) (by first | (with_reducible exact head_enter) | (rw [head_lifts]; as_aux_lemma => kernel_rfl) | (rw [head_make]; as_aux_lemma => kernel_rfl) | (as_aux_lemma => kernel_rfl))) (by first | (with_reducible exact head_enter) | (rw [head_lifts]; as_aux_lemma => kernel_rfl) | (rw [head_make]; as_aux_lemma => kernel_rfl) | (as_aux_lemma => kernel_rfl))) (by first | (with_reducible exact head_enter) | (rw [head_lifts]; as_aux_lemma => kernel_rfl) | (rw [head_make]; as_aux_lemma => kernel_rfl) | (as_aux_lemma => kernel_rfl))) (by first | (with_reducible exact head_enter) | (rw [head_lifts]; as_aux_lemma => kernel_rfl) | (rw [head_make]; as_aux_lemma => kernel_rfl) | (as_aux_lemma => kernel_rfl))) (by first | (with_reducible exact head_enter) | (rw [head_lifts]; as_aux_lemma => kernel_rfl) | (rw [head_make]; as_aux_lemma => kernel_rfl) | (as_aux_lemma => kernel_rfl)))
    (of_decide_eq_true (by kernel_rfl)) (by unfold Func.isWrapper; first | (rw [if_pos (by decide +kernel)]; kernel_rfl) | (rw [if_neg (by decide +kernel)]; exact ⟨rfl, rfl⟩))
    (fun os started H enc _ => FnJobRunAgain_lifted os started H enc)
#print axioms FnJobRunAgain_holds

set_option maxRecDepth 100000 in
theorem FnJobRunOn_lifted (os : Os) (started : os.Started) (H : Type) (enc : TypeId × Value → H) :
    ReturnsInHanded {} Try.checked os 10 .any (Rows.fnJobRunOnSpec.pre6 enc Try.prog Try.f10 Rows.fnJobRunOnRow.domain false) (Rows.fnJobRunOnSpec.post enc Try.prog Try.f10 false true false false) := by
  refine returnsInHanded_of_change (C := Try.checked) (by kernel_rfl : ownKnob Try.prog.godebug = none) started (by kernel_rfl) Try.func10
    (ChangeSpec.witness6 (enc := enc) (C := Try.checked) false ⟨#[], #[.slice none 0 0, .slice none 0 0], []⟩ 8 (by kernel_rfl) (by kernel_rfl) (by kernel_rfl) (by kernel_rfl)) ?_
  intro W base args ds gs before hval0 hW hcnd _
  have hval : ∀ (j : Nat) t v, Try.f10.params[j]? = some t → args[j]? = some v → Value.okWide Try.prog W .any base t v := hval0
  have hW' := hW
  obtain ⟨p, q, hA0, hV, rfl, hfz, hnd⟩ := hW
  have hA : DataW.TrodAll enc Try.prog W 0 (fun _ => true) true Try.f10.params.toList args.toList ds p := hA0
  rw [Try.params10] at hA hval
  obtain ⟨v0, vs0, d0, ds0, p0, q0, hargs, rfl, rfl, h0, r0⟩ := trodAll_cons hA
  obtain ⟨v1, vs1, d1, ds1, p1, q1, rfl, rfl, rfl, h1, r1⟩ := trodAll_cons r0
  obtain ⟨rfl, rfl, rfl⟩ := trodAll_nil r1
  obtain rfl : args = #[v0, v1] := by cases args; simp_all
  obtain ⟨rfl, rfl⟩ := trodVars_none hV
  obtain ⟨a0, len0, cap0, rfl⟩ := okWide_slice Try.underlying22 (hval 0 22 v0 rfl rfl)
  have k0 := h0
  have lt0 : ∀ x ∈ p0, x.block < W.heap.size := by obtain ⟨m, hm⟩ := k0; exact DataW.trod_lt m _ _ _ hm
  have w0 : Code W W.heap.size a0 len0 ∧ len0 ≤ cap0 ∧ len0 ≤ maxLen := by
    obtain ⟨fuel, hf⟩ := h0
    rcases open_ints Try.underlying22 Try.underlying5 (by kernel_rfl) hf with ⟨hcs, _⟩ | ⟨x, l, c, zs, hcs, _, hl, hm, hz, _, hcell, hwz⟩
    · simp [Value.cells] at hcs
      obtain ⟨rfl, rfl, rfl⟩ := hcs
      exact ⟨fun h => absurd h (by omega), Nat.le_refl _, Nat.zero_le _⟩
    · simp [Value.cells] at hcs
      obtain ⟨rfl, rfl, rfl⟩ := hcs
      exact ⟨Code.of_ints hl (by simpa using hz) hcell hwz, hl, Nat.le_trans hl hm⟩
  obtain ⟨a1, len1, cap1, rfl⟩ := okWide_slice Try.underlying22 (hval 1 22 v1 rfl rfl)
  have k1 := h1
  have lt1 : ∀ x ∈ p1, x.block < W.heap.size := by obtain ⟨m, hm⟩ := k1; exact DataW.trod_lt m _ _ _ hm
  have w1 : Code W W.heap.size a1 len1 ∧ len1 ≤ cap1 ∧ len1 ≤ maxLen := by
    obtain ⟨fuel, hf⟩ := h1
    rcases open_ints Try.underlying22 Try.underlying5 (by kernel_rfl) hf with ⟨hcs, _⟩ | ⟨x, l, c, zs, hcs, _, hl, hm, hz, _, hcell, hwz⟩
    · simp [Value.cells] at hcs
      obtain ⟨rfl, rfl, rfl⟩ := hcs
      exact ⟨fun h => absurd h (by omega), Nat.le_refl _, Nat.zero_le _⟩
    · simp [Value.cells] at hcs
      obtain ⟨rfl, rfl, rfl⟩ := hcs
      exact ⟨Code.of_ints hl (by simpa using hz) hcell hwz, hl, Nat.le_trans hl hm⟩
  clear hA0 hval0
  refine (FnJobRunOn_walk W a0 len0 cap0 w0.1 w0.2.1 w0.2.2 a1 len1 cap1 w1.1 w1.2.1 w1.2.2).mono fun e W' ⟨he, bel⟩ => ?_
  subst he
  exact ⟨_, rfl, _, _, _, [], _, [], hW', trodAll_mk1 (shut_bool Try.underlying4 _), (trodAll_cons_mk (Below.trod (by kernel_rfl : laidOutB Try.prog = true) (by kernel_rfl) (of_decide_eq_true (by kernel_rfl)) k0 bel lt0) (trodAll_cons_mk (Below.trod (by kernel_rfl : laidOutB Try.prog = true) (by kernel_rfl) (of_decide_eq_true (by kernel_rfl)) k1 bel lt1) trodAll_mk0)), rfl, bel.frame _, fun h => by cases h⟩

set_option maxHeartbeats 4000000 in
theorem FnJobRunOn_holds : Rows.FnJobRunOnSaid :=
  OpenClaim.holds_of_wide 10 Try.f10 rfl rfl rfl rfl rfl rfl rfl ⟨rfl, rfl, rfl, rfl, rfl⟩ rfl rfl rfl rfl rfl (by kernel_rfl) Try.func10 (by show joinedFacts Try.prog 10 Try.f10 Rows.fnJobRunOnSpec Rows.fnJobRunOnRow = true; unfold joinedFacts; exact band (band (band (band (band (band (band (band (band (band (band (band (band (band (band (band (band (band (band (band (band (band (band (band (band (band (band (band (band (band (band (by first | (with_reducible exact head_enter) | (rw [head_lifts]; as_aux_lemma => kernel_rfl) | (rw [head_make]; as_aux_lemma => kernel_rfl) | (as_aux_lemma => kernel_rfl)) (by first | (with_reducible exact head_enter) | (rw [head_lifts]; as_aux_lemma => kernel_rfl) | (rw [head_make]; as_aux_lemma => kernel_rfl) | (as_aux_lemma => kernel_rfl))) (by first | (with_reducible exact head_enter) | (rw [head_lifts]; as_aux_lemma => kernel_rfl) | (rw [head_make]; as_aux_lemma => kernel_rfl) | (as_aux_lemma => kernel_rfl))) (by first | (with_reducible exact head_enter) | (rw [head_lifts]; as_aux_lemma => kernel_rfl) | (rw [head_make]; as_aux_lemma => kernel_rfl) | (as_aux_lemma => kernel_rfl))) (by first | (with_reducible exact head_enter) | (rw [head_lifts]; as_aux_lemma => kernel_rfl) | (rw [head_make]; as_aux_lemma => kernel_rfl) | (as_aux_lemma => kernel_rfl))) (by first | (with_reducible exact head_enter) | (rw [head_lifts]; as_aux_lemma => kernel_rfl) | (rw [head_make]; as_aux_lemma => kernel_rfl) | (as_aux_lemma => kernel_rfl))) (by first | (with_reducible exact head_enter) | (rw [head_lifts]; as_aux_lemma => kernel_rfl) | (rw [head_make]; as_aux_lemma => kernel_rfl) | (as_aux_lemma => kernel_rfl))) (by first | (with_reducible exact head_enter) | (rw [head_lifts]; as_aux_lemma => kernel_rfl) | (rw [head_make]; as_aux_lemma => kernel_rfl) | (as_aux_lemma => kernel_rfl))) (by first | (with_reducible exact head_enter) | (rw [head_lifts]; as_aux_lemma => kernel_rfl) | (rw [head_make]; as_aux_lemma => kernel_rfl) | (as_aux_lemma => kernel_rfl))) (by first | (with_reducible exact head_enter) | (rw [head_lifts]; as_aux_lemma => kernel_rfl) | (rw [head_make]; as_aux_lemma => kernel_rfl) | (as_aux_lemma => kernel_rfl))) (by first | (with_reducible exact head_enter) | (rw [head_lifts]; as_aux_lemma => kernel_rfl) | (rw [head_make]; as_aux_lemma => kernel_rfl) | (as_aux_lemma => kernel_rfl))) (by first | (with_reducible exact head_enter) | (rw [head_lifts]; as_aux_lemma => kernel_rfl) | (rw [head_make]; as_aux_lemma => kernel_rfl) | (as_aux_lemma => kernel_rfl))) (by first | (with_reducible exact head_enter) | (rw [head_lifts]; as_aux_lemma => kernel_rfl) | (rw [head_make]; as_aux_lemma => kernel_rfl) | (as_aux_lemma => kernel_rfl))) (by first | (with_reducible exact head_enter) | (rw [head_lifts]; as_aux_lemma => kernel_rfl) | (rw [head_make]; as_aux_lemma => kernel_rfl) | (as_aux_lemma => kernel_rfl))) (by first | (with_reducible exact head_enter) | (rw [head_lifts]; as_aux_lemma => kernel_rfl) | (rw [head_make]; as_aux_lemma => kernel_rfl) | (as_aux_lemma => kernel_rfl))) (by first | (with_reducible exact head_enter) | (rw [head_lifts]; as_aux_lemma => kernel_rfl) | (rw [head_make]; as_aux_lemma => kernel_rfl) | (as_aux_lemma => kernel_rfl))) (by first | (with_reducible exact head_enter) | (rw [head_lifts]; as_aux_lemma => kernel_rfl) | (rw [head_make]; as_aux_lemma => kernel_rfl) | (as_aux_lemma => kernel_rfl))) (by first | (with_reducible exact head_enter) | (rw [head_lifts]; as_aux_lemma => kernel_rfl) | (rw [head_make]; as_aux_lemma => kernel_rfl) | (as_aux_lemma => kernel_rfl))) (by first | (with_reducible exact head_enter) | (rw [head_lifts]; as_aux_lemma => kernel_rfl) | (rw [head_make]; as_aux_lemma => kernel_rfl) | (as_aux_lemma => kernel_rfl))) (by first | (with_reducible exact head_enter) | (rw [head_lifts]; as_aux_lemma => kernel_rfl) | (rw [head_make]; as_aux_lemma => kernel_rfl) | (as_aux_lemma => kernel_rfl))) (by first | (with_reducible exact head_enter) | (rw [head_lifts]; as_aux_lemma => kernel_rfl) | (rw [head_make]; as_aux_lemma => kernel_rfl) | (as_aux_lemma => kernel_rfl))) (by first | (with_reducible exact head_enter) | (rw [head_lifts]; as_aux_lemma => kernel_rfl) | (rw [head_make]; as_aux_lemma => kernel_rfl) | (as_aux_lemma => kernel_rfl))) (by first | (with_reducible exact head_enter) | (rw [head_lifts]; as_aux_lemma => kernel_rfl) | (rw [head_make]; as_aux_lemma => kernel_rfl) | (as_aux_lemma => kernel_rfl))) (by first | (with_reducible exact head_enter) | (rw [head_lifts]; as_aux_lemma => kernel_rfl) | (rw [head_make]; as_aux_lemma => kernel_rfl) | (as_aux_lemma => kernel_rfl))) (by first | (with_reducible exact head_enter) | (rw [head_lifts]; as_aux_lemma => kernel_rfl) | (rw [head_make]; as_aux_lemma => kernel_rfl) | (as_aux_lemma => kernel_rfl))) (by first | (with_reducible exact head_enter) | (rw [head_lifts]; as_aux_lemma => kernel_rfl) | (rw [head_make]; as_aux_lemma => kernel_rfl) | (as_aux_lemma => kernel_rfl))) (by first | (with_reducible exact head_enter) | (rw [head_lifts]; as_aux_lemma => kernel_rfl) | (rw [head_make]; as_aux_lemma => kernel_rfl) | (as_aux_lemma => kernel_rfl))) (by first | (with_reducible exact head_enter) | (rw [head_lifts]; as_aux_lemma => kernel_rfl) | (rw [head_make]; as_aux_lemma => kernel_rfl) | (as_aux_lemma => kernel_rfl))) (by first | (with_reducible exact head_enter) | (rw [head_lifts]; as_aux_lemma => kernel_rfl) | (rw [head_make]; as_aux_lemma => kernel_rfl) | (as_aux_lemma => kernel_rfl))) (by first | (with_reducible exact head_enter) | (rw [head_lifts]; as_aux_lemma => kernel_rfl) | (rw [head_make]; as_aux_lemma => kernel_rfl) | (as_aux_lemma => kernel_rfl))) (by first | (with_reducible exact head_enter) | (rw [head_lifts]; as_aux_lemma => kernel_rfl) | (rw [head_make]; as_aux_lemma => kernel_rfl) | (as_aux_lemma => kernel_rfl))) (by first | (with_reducible exact head_enter) | (rw [head_lifts]; as_aux_lemma => kernel_rfl) | (rw [head_make]; as_aux_lemma => kernel_rfl) | (as_aux_lemma => kernel_rfl)))
    (of_decide_eq_true (by kernel_rfl)) (by unfold Func.isWrapper; first | (rw [if_pos (by decide +kernel)]; kernel_rfl) | (rw [if_neg (by decide +kernel)]; exact ⟨rfl, rfl⟩))
    (fun os started H enc _ => FnJobRunOn_lifted os started H enc)
#print axioms FnJobRunOn_holds
end Go.Proofs.Ytimpmlmkhjeajaa
