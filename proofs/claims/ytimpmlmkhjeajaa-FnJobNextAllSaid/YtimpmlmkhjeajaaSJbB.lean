/- Laws of jobs: for every input the law returns true and the input reads as before. No condition. -/
import Derived.Test.YtimpmlmkhjeajaaRows
import Derived.Test.YtimpmlmkhjeajaaLJb2
import Derived.Test.YtimpmlmkhjeajaaLJb3
import Derived.Test.YtimpmlmkhjeajaaLJb5
import Derived.Test.YtimpmlmkhjeajaaLJr
import Derived.Test.YtimpmlmkhjeajaaBandP
import Derived.ProofKit
import Derived.OpenShut
import Derived.ShutString
import Derived.ChangeOld
set_option linter.unusedVariables false
set_option linter.unusedSimpArgs false
namespace Go.Proofs.Ytimpmlmkhjeajaa
open Go.ChangeShapes Go.WideShapes Go.ChangeAt Go.RowKit
open Go.ChangeMaps (open_string shut_string)

set_option maxRecDepth 100000 in
theorem FnJobNextSame_lifted (os : Os) (started : os.Started) (H : Type) (enc : TypeId × Value → H) :
    ReturnsInHanded {} Try.checked os 5 .any (Rows.fnJobNextSameSpec.pre6 enc Try.prog Try.f5 Rows.fnJobNextSameRow.domain false) (Rows.fnJobNextSameSpec.post enc Try.prog Try.f5 false true false false) := by
  refine returnsInHanded_of_change (C := Try.checked) (by kernel_rfl : ownKnob Try.prog.godebug = none) started (by kernel_rfl) Try.func5
    (ChangeSpec.witness6 (enc := enc) (C := Try.checked) false ⟨#[], #[.slice none 0 0], []⟩ 8 (by kernel_rfl) (by kernel_rfl) (by kernel_rfl) (by kernel_rfl)) ?_
  intro W base args ds gs before hval0 hW hcnd _
  have hval : ∀ (j : Nat) t v, Try.f5.params[j]? = some t → args[j]? = some v → Value.okWide Try.prog W .any base t v := hval0
  have hW' := hW
  obtain ⟨p, q, hA0, hV, rfl, hfz, hnd⟩ := hW
  have hA : DataW.TrodAll enc Try.prog W 0 (fun _ => true) true Try.f5.params.toList args.toList ds p := hA0
  rw [Try.params5] at hA hval
  obtain ⟨v0, vs0, d0, ds0, p0, q0, hargs, rfl, rfl, h0, r0⟩ := trodAll_cons hA
  obtain ⟨rfl, rfl, rfl⟩ := trodAll_nil r0
  obtain rfl : args = #[v0] := by cases args; simp_all
  obtain ⟨rfl, rfl⟩ := trodVars_none hV
  obtain ⟨a0, len0, cap0, rfl⟩ := okWide_slice Try.underlying22 (hval 0 22 v0 rfl rfl)
  have k0 := h0
  have lt0 : ∀ x ∈ p0, x.block < W.heap.size := by obtain ⟨m, hm⟩ := k0; exact DataW.trod_lt m _ _ _ hm
  have w0 : Code W W.heap.size a0 len0 ∧ len0 ≤ cap0 ∧ len0 ≤ maxLen := by
    obtain ⟨fuel, hf⟩ := h0
    rcases open_ints Try.underlying22 Try.underlying5 (by kernel_rfl) hf with ⟨hcs, _⟩ | ⟨x, l, c, zs, hcs, _, hl, hm, hz, _, hcell, hwz⟩
    · simp [Value.cells] at hcs
      obtain ⟨rfl, rfl, rfl⟩ := hcs
      exact ⟨fun h => absurd h (by omega), Nat.le_refl _, Nat.zero_le _⟩
    · simp [Value.cells] at hcs
      obtain ⟨rfl, rfl, rfl⟩ := hcs
      exact ⟨Code.of_ints hl (by simpa using hz) hcell hwz, hl, Nat.le_trans hl hm⟩
  clear hA0 hval0
  refine (FnJobNextSame_walk W a0 len0 cap0 w0.1 w0.2.1 w0.2.2).mono fun e W' ⟨he, bel⟩ => ?_
  subst he
  exact ⟨_, rfl, _, _, _, [], _, [], hW', trodAll_mk1 (shut_bool Try.underlying4 _), (trodAll_cons_mk (Below.trod (by kernel_rfl : laidOutB Try.prog = true) (by kernel_rfl) (of_decide_eq_true (by kernel_rfl)) k0 bel lt0) trodAll_mk0), rfl, bel.frame _, fun h => by cases h⟩

set_option maxHeartbeats 4000000 in
theorem FnJobNextSame_holds : Rows.FnJobNextSameSaid :=
  OpenClaim.holds_of_wide 5 Try.f5 rfl rfl rfl rfl rfl rfl rfl ⟨rfl, rfl, rfl, rfl, rfl⟩ rfl rfl rfl rfl rfl (by kernel_rfl) Try.func5 (by show joinedFacts Try.prog 5 Try.f5 Rows.fnJobNextSameSpec Rows.fnJobNextSameRow = true; unfold joinedFacts; exact band (band (band (band (band (band (band (band (band (band (band (band (band (band (band (band (band (band (band (band (band (band (band (band (band (band (band (band (band (band (band (by first | (with_reducible exact head_enter) | (rw [head_lifts]; as_aux_lemma => kernel_rfl) | (rw [head_make]; as_aux_lemma => kernel_rfl) | (as_aux_lemma => kernel_rfl)) (by first | (with_reducible exact head_enter) | (rw [head_lifts]; as_aux_lemma => kernel_rfl) | (rw [head_make]; as_aux_lemma => kernel_rfl) | (as_aux_lemma => kernel_rfl))) (by first | (with_reducible exact head_enter) | (rw [head_lifts]; as_aux_lemma => kernel_rfl) | (rw [head_make]; as_aux_lemma => kernel_rfl) | (as_aux_lemma => kernel_rfl))) (by first | (with_reducible exact head_enter) | (rw [head_lifts]; as_aux_lemma => kernel_rfl) | (rw [head_make]; as_aux_lemma => kernel_rfl) | (as_aux_lemma => kernel_rfl))) (by first | (with_reducible exact head_enter) | (rw [head_lifts]; as_aux_lemma => kernel_rfl) | (rw [head_make]; as_aux_lemma => kernel_rfl) | (as_aux_lemma => kernel_rfl))) (by first | (with_reducible exact head_enter) | (rw [head_lifts]; as_aux_lemma => kernel_rfl) | (rw [head_make]; as_aux_lemma => kernel_rfl) | (as_aux_lemma => kernel_rfl))) (by first | (with_reducible exact head_enter) | (rw [head_lifts]; as_aux_lemma => kernel_rfl) | (rw [head_make]; as_aux_lemma => kernel_rfl) | (as_aux_lemma => kernel_rfl))) (by first | (with_reducible exact head_enter) | (rw [head_lifts]; as_aux_lemma => kernel_rfl) | (rw [head_make]; as_aux_lemma => kernel_rfl) | (as_aux_lemma => kernel_rfl))) (by first | (with_reducible exact head_enter) | (rw [head_lifts]; as_aux_lemma => kernel_rfl) | (rw [head_make]; as_aux_lemma => kernel_rfl) | (as_aux_lemma => kernel_rfl))) (by first | (with_reducible exact head_enter) | (rw [head_lifts]; as_aux_lemma => kernel_rfl) | (rw [head_make]; as_aux_lemma => kernel_rfl) | (as_aux_lemma => kernel_rfl))) (by first | (with_reducible exact head_enter) | (rw [head_lifts]; as_aux_lemma => kernel_rfl) | (rw [head_make]; as_aux_lemma => kernel_rfl) | (as_aux_lemma => kernel_rfl))) (by first | (with_reducible exact head_enter) | (rw [head_lifts]; as_aux_lemma => kernel_rfl) | (rw [head_make]; as_aux_lemma => kernel_rfl) | (as_aux_lemma => kernel_rfl))) (by first | (with_reducible exact head_enter) | (rw [head_lifts]; as_aux_lemma => kernel_rfl) | (rw [head_make]; as_aux_lemma => kernel_rfl) | (as_aux_lemma => kernel_rfl))) (by first | (with_reducible exact head_enter) | (rw [head_lifts]; as_aux_lemma => kernel_rfl) | (rw [head_make]; as_aux_lemma => kernel_rfl) | (as_aux_lemma => kernel_rfl))) (by first | (with_reducible exact head_enter) | (rw [head_lifts]; as_aux_lemma => kernel_rfl) | (rw [head_make]; as_aux_lemma => kernel_rfl) | (as_aux_lemma => kernel_rfl))) (by first | (with_reducible exact head_enter) | (rw [head_lifts]; as_aux_lemma => kernel_rfl) | (rw [head_make]; as_aux_lemma => kernel_rfl) | (as_aux_lemma => kernel_rfl))) (by first | (with_reducible exact head_enter) | (rw [head_lifts]; as_aux_lemma => kernel_rfl) | (rw [head_make]; as_aux_lemma => kernel_rfl) | (as_aux_lemma => kernel_rfl))) (by first | (with_reducible exact head_enter) | (rw [head_lifts]; as_aux_lemma => kernel_rfl) | (rw [head_make]; as_aux_lemma => kernel_rfl) | (as_aux_lemma => kernel_rfl))) (by first | (with_reducible exact head_enter) | (rw [head_lifts]; as_aux_lemma => kernel_rfl) | (rw [head_make]; as_aux_lemma => kernel_rfl) | (as_aux_lemma => kernel_rfl))) (by first | (with_reducible exact head_enter) | (rw [head_lifts]; as_aux_lemma => kernel_rfl) | (rw [head_make]; as_aux_lemma => kernel_rfl) | (as_aux_lemma => kernel_rfl))) (by first | (with_reducible exact head_enter) | (rw [head_lifts]; as_aux_lemma => kernel_rfl) | (rw [head_make]; as_aux_lemma => kernel_rfl) | (as_aux_lemma => kernel_rfl))) (by first | (with_reducible exact head_enter) | (rw [head_lifts]; as_aux_lemma => kernel_rfl) | (rw [head_make]; as_aux_lemma => kernel_rfl) | (as_aux_lemma => kernel_rfl))) (by first | (with_reducible exact head_enter) | (rw [head_lifts]; as_aux_lemma => kernel_rfl) | (rw [head_make]; as_aux_lemma => kernel_rfl) | (as_aux_lemma => kernel_rfl))) (by first | (with_reducible exact head_enter) | (rw [head_lifts]; as_aux_lemma => kernel_rfl) | (rw [head_make]; as_aux_lemma => kernel_rfl) | (as_aux_lemma => kernel_rfl))) (by first | (with_reducible exact head_enter) | (rw [head_lifts]; as_aux_lemma => kernel_rfl) | (rw [head_make]; as_aux_lemma => kernel_rfl) | (as_aux_lemma => kernel_rfl))) (by first | (with_reducible exact head_enter) | (rw [head_lifts]; as_aux_lemma => kernel_rfl) | (rw [head_make]; as_aux_lemma => kernel_rfl) | (as_aux_lemma => kernel_rfl))) (by first | (with_reducible exact head_enter) | (rw [head_lifts]; as_aux_lemma => kernel_rfl) | (rw [head_make]; as_aux_lemma => kernel_rfl) | (as_aux_lemma => kernel_rfl))) (by first | (with_reducible exact head_enter) | (rw [head_lifts]; as_aux_lemma => kernel_rfl) | (rw [head_make]; as_aux_lemma => kernel_rfl) | (as_aux_lemma => kernel_rfl))) (by first | (with_reducible exact head_enter) | (rw [head_lifts]; as_aux_lemma => kernel_rfl) | (rw [head_make]; as_aux_lemma => kernel_rfl) | (as_aux_lemma => kernel_rfl))) (by first | (with_reducible exact head_enter) | (rw [head_lifts]; as_aux_lemma => kernel_rfl) | (rw [head_make]; as_aux_lemma => kernel_rfl) | (as_aux_lemma => kernel_rfl))) (by first | (with_reducible exact head_enter) | (rw [head_lifts]; as_aux_lemma => kernel_rfl) | (rw [head_make]; as_aux_lemma => kernel_rfl) | (as_aux_lemma => kernel_rfl))) (by first | (with_reducible exact head_enter) | (rw [head_lifts]; as_aux_lemma => kernel_rfl) | (rw [head_make]; as_aux_lemma => kernel_rfl) | (as_aux_lemma => kernel_rfl)))
    (of_decide_eq_true (by kernel_rfl)) (by unfold Func.isWrapper; first | (rw [if_pos (by decide +kernel)]; kernel_rfl) | (rw [if_neg (by decide +kernel)]; exact ⟨rfl, rfl⟩))
    (fun os started H enc _ => FnJobNextSame_lifted os started H enc)
#print axioms FnJobNextSame_holds

set_option maxRecDepth 100000 in
theorem FnJobNextAll_lifted (os : Os) (started : os.Started) (H : Type) (enc : TypeId × Value → H) :
    ReturnsInHanded {} Try.checked os 12 .any (Rows.fnJobNextAllSpec.pre6 enc Try.prog Try.f12 Rows.fnJobNextAllRow.domain false) (Rows.fnJobNextAllSpec.post enc Try.prog Try.f12 false true false false) := by
  refine returnsInHanded_of_change (C := Try.checked) (by kernel_rfl : ownKnob Try.prog.godebug = none) started (by kernel_rfl) Try.func12
    (ChangeSpec.witness6 (enc := enc) (C := Try.checked) false ⟨#[], #[.slice none 0 0], []⟩ 8 (by kernel_rfl) (by kernel_rfl) (by kernel_rfl) (by kernel_rfl)) ?_
  intro W base args ds gs before hval0 hW hcnd _
  have hval : ∀ (j : Nat) t v, Try.f12.params[j]? = some t → args[j]? = some v → Value.okWide Try.prog W .any base t v := hval0
  have hW' := hW
  obtain ⟨p, q, hA0, hV, rfl, hfz, hnd⟩ := hW
  have hA : DataW.TrodAll enc Try.prog W 0 (fun _ => true) true Try.f12.params.toList args.toList ds p := hA0
  rw [Try.params12] at hA hval
  obtain ⟨v0, vs0, d0, ds0, p0, q0, hargs, rfl, rfl, h0, r0⟩ := trodAll_cons hA
  obtain ⟨rfl, rfl, rfl⟩ := trodAll_nil r0
  obtain rfl : args = #[v0] := by cases args; simp_all
  obtain ⟨rfl, rfl⟩ := trodVars_none hV
  obtain ⟨a0, len0, cap0, rfl⟩ := okWide_slice Try.underlying22 (hval 0 22 v0 rfl rfl)
  have k0 := h0
  have lt0 : ∀ x ∈ p0, x.block < W.heap.size := by obtain ⟨m, hm⟩ := k0; exact DataW.trod_lt m _ _ _ hm
  have w0 : Code W W.heap.size a0 len0 ∧ len0 ≤ cap0 ∧ len0 ≤ maxLen := by
    obtain ⟨fuel, hf⟩ := h0
    rcases open_ints Try.underlying22 Try.underlying5 (by kernel_rfl) hf with ⟨hcs, _⟩ | ⟨x, l, c, zs, hcs, _, hl, hm, hz, _, hcell, hwz⟩
    · simp [Value.cells] at hcs
      obtain ⟨rfl, rfl, rfl⟩ := hcs
      exact ⟨fun h => absurd h (by omega), Nat.le_refl _, Nat.zero_le _⟩
    · simp [Value.cells] at hcs
      obtain ⟨rfl, rfl, rfl⟩ := hcs
      exact ⟨Code.of_ints hl (by simpa using hz) hcell hwz, hl, Nat.le_trans hl hm⟩
  clear hA0 hval0
  refine (FnJobNextAll_walk W a0 len0 cap0 w0.1 w0.2.1 w0.2.2).mono fun e W' ⟨he, bel⟩ => ?_
  subst he
  exact ⟨_, rfl, _, _, _, [], _, [], hW', trodAll_mk1 (shut_bool Try.underlying4 _), (trodAll_cons_mk (Below.trod (by kernel_rfl : laidOutB Try.prog = true) (by kernel_rfl) (of_decide_eq_true (by kernel_rfl)) k0 bel lt0) trodAll_mk0), rfl, bel.frame _, fun h => by cases h⟩

set_option maxHeartbeats 4000000 in
theorem FnJobNextAll_holds : Rows.FnJobNextAllSaid :=
  OpenClaim.holds_of_wide 12 Try.f12 rfl rfl rfl rfl rfl rfl rfl ⟨rfl, rfl, rfl, rfl, rfl⟩ rfl rfl rfl rfl rfl (by kernel_rfl) Try.func12 (by show joinedFacts Try.prog 12 Try.f12 Rows.fnJobNextAllSpec Rows.fnJobNextAllRow = true; unfold joinedFacts; exact band (band (band (band (band (band (band (band (band (band (band (band (band (band (band (band (band (band (band (band (band (band (band (band (band (band (band (band (band (band (band (by first | (with_reducible exact head_enter) | (rw [head_lifts]; as_aux_lemma => kernel_rfl) | (rw [head_make]; as_aux_lemma => kernel_rfl) | (as_aux_lemma => kernel_rfl)) (by first | (with_reducible exact head_enter) | (rw [head_lifts]; as_aux_lemma => kernel_rfl) | (rw [head_make]; as_aux_lemma => kernel_rfl) | (as_aux_lemma => kernel_rfl))) (by first | (with_reducible exact head_enter) | (rw [head_lifts]; as_aux_lemma => kernel_rfl) | (rw [head_make]; as_aux_lemma => kernel_rfl) | (as_aux_lemma => kernel_rfl))) (by first | (with_reducible exact head_enter) | (rw [head_lifts]; as_aux_lemma => kernel_rfl) | (rw [head_make]; as_aux_lemma => kernel_rfl) | (as_aux_lemma => kernel_rfl))) (by first | (with_reducible exact head_enter) | (rw [head_lifts]; as_aux_lemma => kernel_rfl) | (rw [head_make]; as_aux_lemma => kernel_rfl) | (as_aux_lemma => kernel_rfl))) (by first | (with_reducible exact head_enter) | (rw [head_lifts]; as_aux_lemma => kernel_rfl) | (rw [head_make]; as_aux_lemma => kernel_rfl) | (as_aux_lemma => kernel_rfl))) (by first | (with_reducible exact head_enter) | (rw [head_lifts]; as_aux_lemma => kernel_rfl) | (rw [head_make]; as_aux_lemma => kernel_rfl) | (as_aux_lemma => kernel_rfl))) (by first | (with_reducible exact head_enter) | (rw [head_lifts]; as_aux_lemma => kernel_rfl) | (rw [head_make]; as_aux_lemma => kernel_rfl) | (as_aux_lemma => kernel_rfl))) (by first | (with_reducible exact head_enter) | (rw [head_lifts]; as_aux_lemma => kernel_rfl) | (rw [head_make]; as_aux_lemma => kernel_rfl) | (as_aux_lemma => kernel_rfl))) (by first | (with_reducible exact head_enter) | (rw [head_lifts]; as_aux_lemma => kernel_rfl) | (rw [head_make]; as_aux_lemma => kernel_rfl) | (as_aux_lemma => kernel_rfl))) (by first | (with_reducible exact head_enter) | (rw [head_lifts]; as_aux_lemma => kernel_rfl) | (rw [head_make]; as_aux_lemma => kernel_rfl) | (as_aux_lemma => kernel_rfl))) (by first | (with_reducible exact head_enter) | (rw [head_lifts]; as_aux_lemma => kernel_rfl) | (rw [head_make]; as_aux_lemma => kernel_rfl) | (as_aux_lemma => kernel_rfl))) (by first | (with_reducible exact head_enter) | (rw [head_lifts]; as_aux_lemma => kernel_rfl) | (rw [head_make]; as_aux_lemma => kernel_rfl) | (as_aux_lemma => kernel_rfl))) (by first | (with_reducible exact head_enter) | (rw [head_lifts]; as_aux_lemma => kernel_rfl) | (rw [head_make]; as_aux_lemma => kernel_rfl) | (as_aux_lemma => kernel_rfl))) (by first | (with_reducible exact head_enter) | (rw [head_lifts]; as_aux_lemma => kernel_rfl) | (rw [head_make]; as_aux_lemma => kernel_rfl) | (as_aux_lemma => kernel_rfl))) (by first | (with_reducible exact head_enter) | (rw [head_lifts]; as_aux_lemma => kernel_rfl) | (rw [head_make]; as_aux_lemma => kernel_rfl) | (as_aux_lemma => kernel_rfl))) (by first | (with_reducible exact head_enter) | (rw [head_lifts]; as_aux_lemma => kernel_rfl) | (rw [head_make]; as_aux_lemma => kernel_rfl) | (as_aux_lemma => kernel_rfl))) (by first | (with_reducible exact head_enter) | (rw [head_lifts]; as_aux_lemma => kernel_rfl) | (rw [head_make]; as_aux_lemma => kernel_rfl) | (as_aux_lemma => kernel_rfl))) (by first | (with_reducible exact head_enter) | (rw [head_lifts]; as_aux_lemma => kernel_rfl) | (rw [head_make]; as_aux_lemma => kernel_rfl) | (as_aux_lemma => kernel_rfl))) (by first | (with_reducible exact head_enter) | (rw [head_lifts]; as_aux_lemma => kernel_rfl) | (rw [head_make]; as_aux_lemma => kernel_rfl) | (as_aux_lemma => kernel_rfl))) (by first | (with_reducible exact head_enter) | (rw [head_lifts]; as_aux_lemma => kernel_rfl) | (rw [head_make]; as_aux_lemma => kernel_rfl) | (as_aux_lemma => kernel_rfl))) (by first | (with_reducible exact head_enter) | (rw [head_lifts]; as_aux_lemma => kernel_rfl) | (rw [head_make]; as_aux_lemma => kernel_rfl) | (as_aux_lemma => kernel_rfl))) (by first | (with_reducible exact head_enter) | (rw [head_lifts]; as_aux_lemma => kernel_rfl) | (rw [head_make]; as_aux_lemma => kernel_rfl) | (as_aux_lemma => kernel_rfl))) (by first | (with_reducible exact head_enter) | (rw [head_lifts]; as_aux_lemma => kernel_rfl) | (rw [head_make]; as_aux_lemma => kernel_rfl) | (as_aux_lemma => kernel_rfl))) (by first | (with_reducible exact head_enter) | (rw [head_lifts]; as_aux_lemma => kernel_rfl) | (rw [head_make]; as_aux_lemma => kernel_rfl) | (as_aux_lemma => kernel_rfl))) (by first | (with_reducible exact head_enter) | (rw [head_lifts]; as_aux_lemma => kernel_rfl) | (rw [head_make]; as_aux_lemma => kernel_rfl) | (as_aux_lemma => kernel_rfl))) (by first | (with_reducible exact head_enter) | (rw [head_lifts]; as_aux_lemma => kernel_rfl) | (rw [head_make]; as_aux_lemma => kernel_rfl) | (as_aux_lemma => kernel_rfl))) (by first | (with_reducible exact head_enter) | (rw [head_lifts]; as_aux_lemma => kernel_rfl) | (rw [head_make]; as_aux_lemma => kernel_rfl) | (as_aux_lemma => kernel_rfl))) (by first | (with_reducible exact head_enter) | (rw [head_lifts]; as_aux_lemma => kernel_rfl) | (rw [head_make]; as_aux_lemma => kernel_rfl) | (as_aux_lemma => kernel_rfl))) (by first | (with_reducible exact head_enter) | (rw [head_lifts]; as_aux_lemma => kernel_rfl) | (rw [head_make]; as_aux_lemma => kernel_rfl) | (as_aux_lemma => kernel_rfl))) (by first | (with_reducible exact head_enter) | (rw [head_lifts]; as_aux_lemma => kernel_rfl) | (rw [head_make]; as_aux_lemma => kernel_rfl) | (as_aux_lemma => kernel_rfl))) (by first | (with_reducible exact head_enter) | (rw [head_lifts]; as_aux_lemma => kernel_rfl) | (rw [head_make]; as_aux_lemma => kernel_rfl) | (as_aux_lemma => kernel_rfl)))
    (of_decide_eq_true (by kernel_rfl)) (by unfold Func.isWrapper; first | (rw [if_pos (by decide +kernel)]; kernel_rfl) | (rw [if_neg (by decide +kernel)]; exact ⟨rfl, rfl⟩))
    (fun os started H enc _ => FnJobNextAll_lifted os started H enc)
#print axioms FnJobNextAll_holds

set_option maxRecDepth 100000 in
theorem FnJobNextOn_lifted (os : Os) (started : os.Started) (H : Type) (enc : TypeId × Value → H) :
    ReturnsInHanded {} Try.checked os 6 .any (Rows.fnJobNextOnSpec.pre6 enc Try.prog Try.f6 Rows.fnJobNextOnRow.domain false) (Rows.fnJobNextOnSpec.post enc Try.prog Try.f6 false true false false) := by
  refine returnsInHanded_of_change (C := Try.checked) (by kernel_rfl : ownKnob Try.prog.godebug = none) started (by kernel_rfl) Try.func6
    (ChangeSpec.witness6 (enc := enc) (C := Try.checked) false ⟨#[], #[.slice none 0 0, .slice none 0 0], []⟩ 8 (by kernel_rfl) (by kernel_rfl) (by kernel_rfl) (by kernel_rfl)) ?_
  intro W base args ds gs before hval0 hW hcnd _
  have hval : ∀ (j : Nat) t v, Try.f6.params[j]? = some t → args[j]? = some v → Value.okWide Try.prog W .any base t v := hval0
  have hW' := hW
  obtain ⟨p, q, hA0, hV, rfl, hfz, hnd⟩ := hW
  have hA : DataW.TrodAll enc Try.prog W 0 (fun _ => true) true Try.f6.params.toList args.toList ds p := hA0
  rw [Try.params6] at hA hval
  obtain ⟨v0, vs0, d0, ds0, p0, q0, hargs, rfl, rfl, h0, r0⟩ := trodAll_cons hA
  obtain ⟨v1, vs1, d1, ds1, p1, q1, rfl, rfl, rfl, h1, r1⟩ := trodAll_cons r0
  obtain ⟨rfl, rfl, rfl⟩ := trodAll_nil r1
  obtain rfl : args = #[v0, v1] := by cases args; simp_all
  obtain ⟨rfl, rfl⟩ := trodVars_none hV
  obtain ⟨a0, len0, cap0, rfl⟩ := okWide_slice Try.underlying22 (hval 0 22 v0 rfl rfl)
  have k0 := h0
  have lt0 : ∀ x ∈ p0, x.block < W.heap.size := by obtain ⟨m, hm⟩ := k0; exact DataW.trod_lt m _ _ _ hm
  have w0 : Code W W.heap.size a0 len0 ∧ len0 ≤ cap0 ∧ len0 ≤ maxLen := by
    obtain ⟨fuel, hf⟩ := h0
    rcases open_ints Try.underlying22 Try.underlying5 (by kernel_rfl) hf with ⟨hcs, _⟩ | ⟨x, l, c, zs, hcs, _, hl, hm, hz, _, hcell, hwz⟩
    · simp [Value.cells] at hcs
      obtain ⟨rfl, rfl, rfl⟩ := hcs
      exact ⟨fun h => absurd h (by omega), Nat.le_refl _, Nat.zero_le _⟩
    · simp [Value.cells] at hcs
      obtain ⟨rfl, rfl, rfl⟩ := hcs
      exact ⟨Code.of_ints hl (by simpa using hz) hcell hwz, hl, Nat.le_trans hl hm⟩
  obtain ⟨a1, len1, cap1, rfl⟩ := okWide_slice Try.underlying22 (hval 1 22 v1 rfl rfl)
  have k1 := h1
  have lt1 : ∀ x ∈ p1, x.block < W.heap.size := by obtain ⟨m, hm⟩ := k1; exact DataW.trod_lt m _ _ _ hm
  have w1 : Code W W.heap.size a1 len1 ∧ len1 ≤ cap1 ∧ len1 ≤ maxLen := by
    obtain ⟨fuel, hf⟩ := h1
    rcases open_ints Try.underlying22 Try.underlying5 (by kernel_rfl) hf with ⟨hcs, _⟩ | ⟨x, l, c, zs, hcs, _, hl, hm, hz, _, hcell, hwz⟩
    · simp [Value.cells] at hcs
      obtain ⟨rfl, rfl, rfl⟩ := hcs
      exact ⟨fun h => absurd h (by omega), Nat.le_refl _, Nat.zero_le _⟩
    · simp [Value.cells] at hcs
      obtain ⟨rfl, rfl, rfl⟩ := hcs
      exact ⟨Code.of_ints hl (by simpa using hz) hcell hwz, hl, Nat.le_trans hl hm⟩
  clear hA0 hval0
  refine (FnJobNextOn_walk W a0 len0 cap0 w0.1 w0.2.1 w0.2.2 a1 len1 cap1 w1.1 w1.2.1 w1.2.2).mono fun e W' ⟨he, bel⟩ => ?_
  subst he
  exact ⟨_, rfl, _, _, _, [], _, [], hW', trodAll_mk1 (shut_bool Try.underlying4 _), (trodAll_cons_mk (Below.trod (by kernel_rfl : laidOutB Try.prog = true) (by kernel_rfl) (of_decide_eq_true (by kernel_rfl)) k0 bel lt0) (trodAll_cons_mk (Below.trod (by kernel_rfl : laidOutB Try.prog = true) (by kernel_rfl) (of_decide_eq_true (by kernel_rfl)) k1 bel lt1) trodAll_mk0)), rfl, bel.frame _, fun h => by cases h⟩

set_option maxHeartbeats 4000000 in
theorem FnJobNextOn_holds : Rows.FnJobNextOnSaid :=
  OpenClaim.holds_of_wide 6 Try.f6 rfl rfl rfl rfl rfl rfl rfl ⟨rfl, rfl, rfl, rfl, rfl⟩ rfl rfl rfl rfl rfl (by kernel_rfl) Try.func6 (by show joinedFacts Try.prog 6 Try.f6 Rows.fnJobNextOnSpec Rows.fnJobNextOnRow = true; unfold joinedFacts; exact band (band (band (band (band (band (band (band (band (band (band (band (band (band (band (band (band (band (band (band (band (band (band (band (band (band (band (band (band (band (band (by first | (with_reducible exact head_enter) | (rw [head_lifts]; as_aux_lemma => kernel_rfl) | (rw [head_make]; as_aux_lemma => kernel_rfl) | (as_aux_lemma => kernel_rfl)) (by first | (with_reducible exact head_enter) | (rw [head_lifts]; as_aux_lemma => kernel_rfl) | (rw [head_make]; as_aux_lemma => kernel_rfl) | (as_aux_lemma => kernel_rfl))) (by first | (with_reducible exact head_enter) | (rw [head_lifts]; as_aux_lemma => kernel_rfl) | (rw [head_make]; as_aux_lemma => kernel_rfl) | (as_aux_lemma => kernel_rfl))) (by first | (with_reducible exact head_enter) | (rw [head_lifts]; as_aux_lemma => kernel_rfl) | (rw [head_make]; as_aux_lemma => kernel_rfl) | (as_aux_lemma => kernel_rfl))) (by first | (with_reducible exact head_enter) | (rw [head_lifts]; as_aux_lemma => kernel_rfl) | (rw [head_make]; as_aux_lemma => kernel_rfl) | (as_aux_lemma => kernel_rfl))) (by first | (with_reducible exact head_enter) | (rw [head_lifts]; as_aux_lemma => kernel_rfl) | (rw [head_make]; as_aux_lemma => kernel_rfl) | (as_aux_lemma => kernel_rfl))) (by first | (with_reducible exact head_enter) | (rw [head_lifts]; as_aux_lemma => kernel_rfl) | (rw [head_make]; as_aux_lemma => kernel_rfl) | (as_aux_lemma => kernel_rfl))) (by first | (with_reducible exact head_enter) | (rw [head_lifts]; as_aux_lemma => kernel_rfl) | (rw [head_make]; as_aux_lemma => kernel_rfl) | (as_aux_lemma => kernel_rfl))) (by first | (with_reducible exact head_enter) | (rw [head_lifts]; as_aux_lemma => kernel_rfl) | (rw [head_make]; as_aux_lemma => kernel_rfl) | (as_aux_lemma => kernel_rfl))) (by first | (with_reducible exact head_enter) | (rw [head_lifts]; as_aux_lemma => kernel_rfl) | (rw [head_make]; as_aux_lemma => kernel_rfl) | (as_aux_lemma => kernel_rfl))) (by first | (with_reducible exact head_enter) | (rw [head_lifts]; as_aux_lemma => kernel_rfl) | (rw [head_make]; as_aux_lemma => kernel_rfl) | (as_aux_lemma => kernel_rfl))) (by first | (with_reducible exact head_enter) | (rw [head_lifts]; as_aux_lemma => kernel_rfl) | (rw [head_make]; as_aux_lemma => kernel_rfl) | (as_aux_lemma => kernel_rfl))) (by first | (with_reducible exact head_enter) | (rw [head_lifts]; as_aux_lemma => kernel_rfl) | (rw [head_make]; as_aux_lemma => kernel_rfl) | (as_aux_lemma => kernel_rfl))) (by first | (with_reducible exact head_enter) | (rw [head_lifts]; as_aux_lemma => kernel_rfl) | (rw [head_make]; as_aux_lemma => kernel_rfl) | (as_aux_lemma => kernel_rfl))) (by first | (with_reducible exact head_enter) | (rw [head_lifts]; as_aux_lemma => kernel_rfl) | (rw [head_make]; as_aux_lemma => kernel_rfl) | (as_aux_lemma => kernel_rfl))) (by first | (with_reducible exact head_enter) | (rw [head_lifts]; as_aux_lemma => kernel_rfl) | (rw [head_make]; as_aux_lemma => kernel_rfl) | (as_aux_lemma => kernel_rfl))) (by first | (with_reducible exact head_enter) | (rw [head_lifts]; as_aux_lemma => kernel_rfl) | (rw [head_make]; as_aux_lemma => kernel_rfl) | (as_aux_lemma => kernel_rfl))) (by first | (with_reducible exact head_enter) | (rw [head_lifts]; as_aux_lemma => kernel_rfl) | (rw [head_make]; as_aux_lemma => kernel_rfl) | (as_aux_lemma => kernel_rfl))) (by first | (with_reducible exact head_enter) | (rw [head_lifts]; as_aux_lemma => kernel_rfl) | (rw [head_make]; as_aux_lemma => kernel_rfl) | (as_aux_lemma => kernel_rfl))) (by first | (with_reducible exact head_enter) | (rw [head_lifts]; as_aux_lemma => kernel_rfl) | (rw [head_make]; as_aux_lemma => kernel_rfl) | (as_aux_lemma => kernel_rfl))) (by first | (with_reducible exact head_enter) | (rw [head_lifts]; as_aux_lemma => kernel_rfl) | (rw [head_make]; as_aux_lemma => kernel_rfl) | (as_aux_lemma => kernel_rfl))) (by first | (with_reducible exact head_enter) | (rw [head_lifts]; as_aux_lemma => kernel_rfl) | (rw [head_make]; as_aux_lemma => kernel_rfl) | (as_aux_lemma => kernel_rfl))) (by first | (with_reducible exact head_enter) | (rw [head_lifts]; as_aux_lemma => kernel_rfl) | (rw [head_make]; as_aux_lemma => kernel_rfl) | (as_aux_lemma => kernel_rfl))) (by first | (with_reducible exact head_enter) | (rw [head_lifts]; as_aux_lemma => kernel_rfl) | (rw [head_make]; as_aux_lemma => kernel_rfl) | (as_aux_lemma => kernel_rfl))) (by first | (with_reducible exact head_enter) | (rw [head_lifts]; as_aux_lemma => kernel_rfl) | (rw [head_make]; as_aux_lemma => kernel_rfl) | (as_aux_lemma => kernel_rfl))) (by first | (with_reducible exact head_enter) | (rw [head_lifts]; as_aux_lemma => kernel_rfl) | (rw [head_make]; as_aux_lemma => kernel_rfl) | (as_aux_lemma => kernel_rfl))) (by first | (with_reducible exact head_enter) | (rw [head_lifts]; as_aux_lemma => kernel_rfl) | (rw [head_make]; as_aux_lemma => kernel_rfl) | (as_aux_lemma => kernel_rfl))) (by first | (with_reducible exact head_enter) | (rw [head_lifts]; as_aux_lemma => kernel_rfl) | (rw [head_make]; as_aux_lemma => kernel_rfl) | (as_aux_lemma => kernel_rfl))) (by first | (with_reducible exact head_enter) | (rw [head_lifts]; as_aux_lemma => kernel_rfl) | (rw [head_make]; as_aux_lemma => kernel_rfl) | (as_aux_lemma => kernel_rfl))) (by first | (with_reducible exact head_enter) | (rw [head_lifts]; as_aux_lemma => kernel_rfl) | (rw [head_make]; as_aux_lemma => kernel_rfl) | (as_aux_lemma => kernel_rfl))) (by first | (with_reducible exact head_enter) | (rw [head_lifts]; as_aux_lemma => kernel_rfl) | (rw [head_make]; as_aux_lemma => kernel_rfl) | (as_aux_lemma => kernel_rfl))) (by first | (with_reducible exact head_enter) | (rw [head_lifts]; as_aux_lemma => kernel_rfl) | (rw [head_make]; as_aux_lemma => kernel_rfl) | (as_aux_lemma => kernel_rfl)))
    (of_decide_eq_true (by kernel_rfl)) (by unfold Func.isWrapper; first | (rw [if_pos (by decide +kernel)]; kernel_rfl) | (rw [if_neg (by decide +kernel)]; exact ⟨rfl, rfl⟩))
    (fun os started H enc _ => FnJobNextOn_lifted os started H enc)
#print axioms FnJobNextOn_holds

set_option maxRecDepth 100000 in
theorem FnJobRunNone_lifted (os : Os) (started : os.Started) (H : Type) (enc : TypeId × Value → H) :
    ReturnsInHanded {} Try.checked os 13 .any (Rows.fnJobRunNoneSpec.pre6 enc Try.prog Try.f13 Rows.fnJobRunNoneRow.domain false) (Rows.fnJobRunNoneSpec.post enc Try.prog Try.f13 false true false false) := by
  refine returnsInHanded_of_change (C := Try.checked) (by kernel_rfl : ownKnob Try.prog.godebug = none) started (by kernel_rfl) Try.func13
    (ChangeSpec.witness6 (enc := enc) (C := Try.checked) false ⟨#[], #[.slice none 0 0], []⟩ 8 (by kernel_rfl) (by kernel_rfl) (by kernel_rfl) (by kernel_rfl)) ?_
  intro W base args ds gs before hval0 hW hcnd _
  have hval : ∀ (j : Nat) t v, Try.f13.params[j]? = some t → args[j]? = some v → Value.okWide Try.prog W .any base t v := hval0
  have hW' := hW
  obtain ⟨p, q, hA0, hV, rfl, hfz, hnd⟩ := hW
  have hA : DataW.TrodAll enc Try.prog W 0 (fun _ => true) true Try.f13.params.toList args.toList ds p := hA0
  rw [Try.params13] at hA hval
  obtain ⟨v0, vs0, d0, ds0, p0, q0, hargs, rfl, rfl, h0, r0⟩ := trodAll_cons hA
  obtain ⟨rfl, rfl, rfl⟩ := trodAll_nil r0
  obtain rfl : args = #[v0] := by cases args; simp_all
  obtain ⟨rfl, rfl⟩ := trodVars_none hV
  obtain ⟨a0, len0, cap0, rfl⟩ := okWide_slice Try.underlying22 (hval 0 22 v0 rfl rfl)
  have k0 := h0
  have lt0 : ∀ x ∈ p0, x.block < W.heap.size := by obtain ⟨m, hm⟩ := k0; exact DataW.trod_lt m _ _ _ hm
  have w0 : Code W W.heap.size a0 len0 ∧ len0 ≤ cap0 ∧ len0 ≤ maxLen := by
    obtain ⟨fuel, hf⟩ := h0
    rcases open_ints Try.underlying22 Try.underlying5 (by kernel_rfl) hf with ⟨hcs, _⟩ | ⟨x, l, c, zs, hcs, _, hl, hm, hz, _, hcell, hwz⟩
    · simp [Value.cells] at hcs
      obtain ⟨rfl, rfl, rfl⟩ := hcs
      exact ⟨fun h => absurd h (by omega), Nat.le_refl _, Nat.zero_le _⟩
    · simp [Value.cells] at hcs
      obtain ⟨rfl, rfl, rfl⟩ := hcs
      exact ⟨Code.of_ints hl (by simpa using hz) hcell hwz, hl, Nat.le_trans hl hm⟩
  clear hA0 hval0
  refine (FnJobRunNone_walk W a0 len0 cap0 w0.1 w0.2.1 w0.2.2).mono fun e W' ⟨he, bel⟩ => ?_
  subst he
  exact ⟨_, rfl, _, _, _, [], _, [], hW', trodAll_mk1 (shut_bool Try.underlying4 _), (trodAll_cons_mk (Below.trod (by kernel_rfl : laidOutB Try.prog = true) (by kernel_rfl) (of_decide_eq_true (by kernel_rfl)) k0 bel lt0) trodAll_mk0), rfl, bel.frame _, fun h => by cases h⟩

set_option maxHeartbeats 4000000 in
theorem FnJobRunNone_holds : Rows.FnJobRunNoneSaid :=
  OpenClaim.holds_of_wide 13 Try.f13 rfl rfl rfl rfl rfl rfl rfl ⟨rfl, rfl, rfl, rfl, rfl⟩ rfl rfl rfl rfl rfl (by kernel_rfl) Try.func13 (by show joinedFacts Try.prog 13 Try.f13 Rows.fnJobRunNoneSpec Rows.fnJobRunNoneRow = true; unfold joinedFacts; exact band (band (band (band (band (band (band (band (band (band (band (band (band (band (band (band (band (band (band (band (band (band (band (band (band (band (band (band (band (band (band (by first | (with_reducible exact head_enter) | (rw [head_lifts]; as_aux_lemma => kernel_rfl) | (rw [head_make]; as_aux_lemma => kernel_rfl) | (as_aux_lemma => kernel_rfl)) (by first | (with_reducible exact head_enter) | (rw [head_lifts]; as_aux_lemma => kernel_rfl) | (rw [head_make]; as_aux_lemma => kernel_rfl) | (as_aux_lemma => kernel_rfl))) (by first | (with_reducible exact head_enter) | (rw [head_lifts]; as_aux_lemma => kernel_rfl) | (rw [head_make]; as_aux_lemma => kernel_rfl) | (as_aux_lemma => kernel_rfl))) (by first | (with_reducible exact head_enter) | (rw [head_lifts]; as_aux_lemma => kernel_rfl) | (rw [head_make]; as_aux_lemma => kernel_rfl) | (as_aux_lemma => kernel_rfl))) (by first | (with_reducible exact head_enter) | (rw [head_lifts]; as_aux_lemma => kernel_rfl) | (rw [head_make]; as_aux_lemma => kernel_rfl) | (as_aux_lemma => kernel_rfl))) (by first | (with_reducible exact head_enter) | (rw [head_lifts]; as_aux_lemma => kernel_rfl) | (rw [head_make]; as_aux_lemma => kernel_rfl) | (as_aux_lemma => kernel_rfl))) (by first | (with_reducible exact head_enter) | (rw [head_lifts]; as_aux_lemma => kernel_rfl) | (rw [head_make]; as_aux_lemma => kernel_rfl) | (as_aux_lemma => kernel_rfl))) (by first | (with_reducible exact head_enter) | (rw [head_lifts]; as_aux_lemma => kernel_rfl) | (rw [head_make]; as_aux_lemma => kernel_rfl) | (as_aux_lemma => kernel_rfl))) (by first | (with_reducible exact head_enter) | (rw [head_lifts]; as_aux_lemma => kernel_rfl) | (rw [head_make]; as_aux_lemma => kernel_rfl) | (as_aux_lemma => kernel_rfl))) (by first | (with_reducible exact head_enter) | (rw [head_lifts]; as_aux_lemma => kernel_rfl) | (rw [head_make]; as_aux_lemma => kernel_rfl) | (as_aux_lemma => kernel_rfl))) (by first | (with_reducible exact head_enter) | (rw [head_lifts]; as_aux_lemma => kernel_rfl) | (rw [head_make]; as_aux_lemma => kernel_rfl) | (as_aux_lemma => kernel_rfl))) (by first | (with_reducible exact head_enter) | (rw [head_lifts]; as_aux_lemma => kernel_rfl) | (rw [head_make]; as_aux_lemma => kernel_rfl) | (as_aux_lemma => kernel_rfl))) (by first | (with_reducible exact head_enter) | (rw [head_lifts]; as_aux_lemma => kernel_rfl) | (rw [head_make]; as_aux_lemma => kernel_rfl) | (as_aux_lemma => kernel_rfl))) (by first | (with_reducible exact head_enter) | (rw [head_lifts]; as_aux_lemma => kernel_rfl) | (rw [head_make]; as_aux_lemma => kernel_rfl) | (as_aux_lemma => kernel_rfl))) (by first | (with_reducible exact head_enter) | (rw [head_lifts]; as_aux_lemma => kernel_rfl) | (rw [head_make]; as_aux_lemma => kernel_rfl) | (as_aux_lemma => kernel_rfl))) (by first | (with_reducible exact head_enter) | (rw [head_lifts]; as_aux_lemma => kernel_rfl) | (rw [head_make]; as_aux_lemma => kernel_rfl) | (as_aux_lemma => kernel_rfl))) (by first | (with_reducible exact head_enter) | (rw [head_lifts]; as_aux_lemma => kernel_rfl) | (rw [head_make]; as_aux_lemma => kernel_rfl) | (as_aux_lemma => kernel_rfl))) (by first | (with_reducible exact head_enter) | (rw [head_lifts]; as_aux_lemma => kernel_rfl) | (rw [head_make]; as_aux_lemma => kernel_rfl) | (as_aux_lemma => kernel_rfl))) (by first | (with_reducible exact head_enter) | (rw [head_lifts]; as_aux_lemma => kernel_rfl) | (rw [head_make]; as_aux_lemma => kernel_rfl) | (as_aux_lemma => kernel_rfl))) (by first | (with_reducible exact head_enter) | (rw [head_lifts]; as_aux_lemma => kernel_rfl) | (rw [head_make]; as_aux_lemma => kernel_rfl) | (as_aux_lemma => kernel_rfl))) (by first | (with_reducible exact head_enter) | (rw [head_lifts]; as_aux_lemma => kernel_rfl) | (rw [head_make]; as_aux_lemma => kernel_rfl) | (as_aux_lemma => kernel_rfl))) (by first | (with_reducible exact head_enter) | (rw [head_lifts]; as_aux_lemma => kernel_rfl) | (rw [head_make]; as_aux_lemma => kernel_rfl) | (as_aux_lemma => kernel_rfl))) (by first | (with_reducible exact head_enter) | (rw [head_lifts]; as_aux_lemma => kernel_rfl) | (rw [head_make]; as_aux_lemma => kernel_rfl) | (as_aux_lemma => kernel_rfl))) (by first | (with_reducible exact head_enter) | (rw [head_lifts]; as_aux_lemma => kernel_rfl) | (rw [head_make]; as_aux_lemma => kernel_rfl) | (as_aux_lemma => kernel_rfl))) (by first | (with_reducible exact head_enter) | (rw [head_lifts]; as_aux_lemma => kernel_rfl) | (rw [head_make]; as_aux_lemma => kernel_rfl) | (as_aux_lemma => kernel_rfl))) (by first | (with_reducible exact head_enter) | (rw [head_lifts]; as_aux_lemma => kernel_rfl) | (rw [head_make]; as_aux_lemma => kernel_rfl) | (as_aux_lemma => kernel_rfl))) (by first | (with_reducible exact head_enter) | (rw [head_lifts]; as_aux_lemma => kernel_rfl) | (rw [head_make]; as_aux_lemma => kernel_rfl) | (as_aux_lemma => kernel_rfl))) (by first | (with_reducible exact head_enter) | (rw [head_lifts]; as_aux_lemma => kernel_rfl) | (rw [head_make]; as_aux_lemma => kernel_rfl) | (as_aux_lemma => kernel_rfl))) (by first | (with_reducible exact head_enter) | (rw [head_lifts]; as_aux_lemma => kernel_rfl) | (rw [head_make]; as_aux_lemma => kernel_rfl) | (as_aux_lemma => kernel_rfl))) (by first | (with_reducible exact head_enter) | (rw [head_lifts]; as_aux_lemma => kernel_rfl) | (rw [head_make]; as_aux_lemma => kernel_rfl) | (as_aux_lemma => kernel_rfl))) (by first | (with_reducible exact head_enter) | (rw [head_lifts]; as_aux_lemma => kernel_rfl) | (rw [head_make]; as_aux_lemma => kernel_rfl) | (as_aux_lemma => kernel_rfl))) (by first | (with_reducible exact head_enter) | (rw [head_lifts]; as_aux_lemma => kernel_rfl) | (rw [head_make]; as_aux_lemma => kernel_rfl) | (as_aux_lemma => kernel_rfl)))
    (of_decide_eq_true (by kernel_rfl)) (by unfold Func.isWrapper; first | (rw [if_pos (by decide +kernel)]; kernel_rfl) | (rw [if_neg (by decide +kernel)]; exact ⟨rfl, rfl⟩))
    (fun os started H enc _ => FnJobRunNone_lifted os started H enc)
#print axioms FnJobRunNone_holds
end Go.Proofs.Ytimpmlmkhjeajaa
