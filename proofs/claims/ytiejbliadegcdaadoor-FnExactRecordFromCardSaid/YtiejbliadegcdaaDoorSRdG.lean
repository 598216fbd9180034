/- Exact laws of records: for every input the law returns true and the input reads as before; the library's variables that the row lists read as it lists them (tied to the program's text). No other condition. -/
import Derived.Test.YtiejbliadegcdaaDoorCards
import Derived.Test.YtiejbliadegcdaaDoorTie
import Derived.Test.YtiejbliadegcdaaDoorLExR
import Derived.Test.YtiejbliadegcdaaDoorOpnR
import Derived.Test.YtiejbliadegcdaaDoorVld
import Derived.Test.YtiejbliadegcdaaDoorBandP
import Derived.ProofKit
import Derived.OpenShut
import Derived.ShutString
import Derived.ChangeOld
import Derived.Lay
import Derived.Deep.DeepHandedRow
set_option linter.unusedVariables false
set_option linter.unusedSimpArgs false
namespace Go.Proofs.YtiejbliadegcdaaDoor
open Go.ChangeShapes Go.WideShapes Go.ChangeAt Go.RowKit
open Go.ChangeMaps (open_string shut_string)

set_option maxRecDepth 100000 in
theorem FnExactRecordFrom_lifted (os : Os) (started : os.Started) (H : Type) (enc : TypeId × Value → H) (F : Stop.Interp) :
    ReturnsInHanded {} Tryd.checked os 10 .any ((OpenSpec.ofChange Rows.fnExactRecordFromSpec).preRow enc Tryd.prog Tryd.f10 Rows.fnExactRecordFromRow.domain false Rows.fnExactRecordFromRow.laid) (((OpenSpec.ofChange Rows.fnExactRecordFromSpec).at F).post enc Tryd.prog Tryd.f10 false true false false) := by
  refine returnsInHanded_of_row (C := Tryd.checked) (s := OpenSpec.ofChange Rows.fnExactRecordFromSpec) (by kernel_rfl : ownKnob Tryd.prog.godebug = none) started (by kernel_rfl) Tryd.func10
    (ChangeSpec.witness_shaped (enc := enc) (C := Tryd.checked) (os := os) (X := fun w _ => laidMetH Tryd.prog Rows.fnExactRecordFromRow.laid w) false (World.laidAll Tryd.prog os Rows.fnExactRecordFromRow.laid) #[.string ByteArray.empty] 8 (World.laidAll_os _ _ _) (World.shaped_of_ZipB (by kernel_rfl) (by kernel_rfl)) (by kernel_rfl) (by kernel_rfl) (by kernel_rfl) (by rw [MakeChecks.laidMetH_plain _ _ _ (by kernel_rfl)]; exact laidMet_laidAll _ (by kernel_rfl) (by kernel_rfl))) ?_
  intro W base args ds gs before hval0 hW _ _ _ hLd hshp _
  rw [MakeChecks.laidMetH_plain _ _ _ (by kernel_rfl)] at hLd
  have hVw : Vw W := vw_of hLd hshp
  have hval : ∀ (j : Nat) t v, Tryd.f10.params[j]? = some t → args[j]? = some v → Value.okWide Tryd.prog W .any base t v := hval0
  have hW' := hW
  obtain ⟨p, q, hA0, hV, rfl, hfz, hnd⟩ := hW
  have hA : DataW.TrodAll enc Tryd.prog W 0 (fun _ => true) true Tryd.f10.params.toList args.toList ds p := hA0
  rw [Tryd.params10] at hA hval
  obtain ⟨v0, vs0, d0, ds0, p0, q0, hargs, rfl, rfl, h0, r0⟩ := trodAll_cons hA
  obtain ⟨rfl, rfl, rfl⟩ := trodAll_nil r0
  obtain rfl : args = #[v0] := by cases args; simp_all
  obtain ⟨rfl, rfl⟩ := trodVars_none hV
  obtain ⟨a0, rfl, rfl, rfl, w0⟩ := open_string Tryd.underlying9 (hval 0 9 v0 rfl rfl) h0
  clear hA0 hval0
  simp only [List.append_nil] at hW'
  refine (FnExactRecordFrom_walk W a0 w0 hVw).mono fun e W' ⟨he, bel⟩ => ?_
  subst he
  exact ⟨_, rfl, _, _, _, [], _, [], hW', trodAll_mk1 (shut_bool Tryd.underlying4 _), (trodAll_cons_mk (shut_string Tryd.underlying9 w0) trodAll_mk0), rfl, bel.frame _, fun h => by cases h⟩

set_option maxHeartbeats 4000000 in
set_option maxRecDepth 100000 in
theorem FnExactRecordFrom_row : Rows.FnExactRecordFromSaid :=
  OpenClaim.holds_of_cond 10 Tryd.f10 rfl rfl rfl rfl rfl rfl rfl ⟨rfl, rfl, rfl, rfl, rfl⟩ rfl rfl rfl rfl rfl (by kernel_rfl) Tryd.func10 (by show joinedFacts Tryd.prog 10 Tryd.f10 Rows.fnExactRecordFromSpec Rows.fnExactRecordFromRow = true; unfold joinedFacts; exact band (band (band (band (band (band (band (band (band (band (band (band (band (band (band (band (band (band (band (band (band (band (band (band (band (band (band (band (band (band (band (by first | (with_reducible exact head_enter) | (rw [head_lifts]; as_aux_lemma => kernel_rfl) | (rw [head_make]; as_aux_lemma => kernel_rfl) | (as_aux_lemma => kernel_rfl)) (by first | (with_reducible exact head_enter) | (rw [head_lifts]; as_aux_lemma => kernel_rfl) | (rw [head_make]; as_aux_lemma => kernel_rfl) | (as_aux_lemma => kernel_rfl))) (by first | (with_reducible exact head_enter) | (rw [head_lifts]; as_aux_lemma => kernel_rfl) | (rw [head_make]; as_aux_lemma => kernel_rfl) | (as_aux_lemma => kernel_rfl))) (by first | (with_reducible exact head_enter) | (rw [head_lifts]; as_aux_lemma => kernel_rfl) | (rw [head_make]; as_aux_lemma => kernel_rfl) | (as_aux_lemma => kernel_rfl))) (by first | (with_reducible exact head_enter) | (rw [head_lifts]; as_aux_lemma => kernel_rfl) | (rw [head_make]; as_aux_lemma => kernel_rfl) | (as_aux_lemma => kernel_rfl))) (by first | (with_reducible exact head_enter) | (rw [head_lifts]; as_aux_lemma => kernel_rfl) | (rw [head_make]; as_aux_lemma => kernel_rfl) | (as_aux_lemma => kernel_rfl))) (by first | (with_reducible exact head_enter) | (rw [head_lifts]; as_aux_lemma => kernel_rfl) | (rw [head_make]; as_aux_lemma => kernel_rfl) | (as_aux_lemma => kernel_rfl))) (by first | (with_reducible exact head_enter) | (rw [head_lifts]; as_aux_lemma => kernel_rfl) | (rw [head_make]; as_aux_lemma => kernel_rfl) | (as_aux_lemma => kernel_rfl))) (by first | (with_reducible exact head_enter) | (rw [head_lifts]; as_aux_lemma => kernel_rfl) | (rw [head_make]; as_aux_lemma => kernel_rfl) | (as_aux_lemma => kernel_rfl))) (by first | (with_reducible exact head_enter) | (rw [head_lifts]; as_aux_lemma => kernel_rfl) | (rw [head_make]; as_aux_lemma => kernel_rfl) | (as_aux_lemma => kernel_rfl))) (by first | (with_reducible exact head_enter) | (rw [head_lifts]; as_aux_lemma => kernel_rfl) | (rw [head_make]; as_aux_lemma => kernel_rfl) | (as_aux_lemma => kernel_rfl))) (by first | (with_reducible exact head_enter) | (rw [head_lifts]; as_aux_lemma => kernel_rfl) | (rw [head_make]; as_aux_lemma => kernel_rfl) | (as_aux_lemma => kernel_rfl))) (by first | (with_reducible exact head_enter) | (rw [head_lifts]; as_aux_lemma => kernel_rfl) | (rw [head_make]; as_aux_lemma => kernel_rfl) | (as_aux_lemma => kernel_rfl))) (by first | (with_reducible exact head_enter) | (rw [head_lifts]; as_aux_lemma => kernel_rfl) | (rw [head_make]; as_aux_lemma => kernel_rfl) | (as_aux_lemma => kernel_rfl))) (by first | (with_reducible exact head_enter) | (rw [head_lifts]; as_aux_lemma => kernel_rfl) | (rw [head_make]; as_aux_lemma => kernel_rfl) | (as_aux_lemma => kernel_rfl))) (by first | (with_reducible exact head_enter) | (rw [head_lifts]; as_aux_lemma => kernel_rfl) | (rw [head_make]; as_aux_lemma => kernel_rfl) | (as_aux_lemma => kernel_rfl))) (by first | (with_reducible exact head_enter) | (rw [head_lifts]; as_aux_lemma => kernel_rfl) | (rw [head_make]; as_aux_lemma => kernel_rfl) | (as_aux_lemma => kernel_rfl))) (by first | (with_reducible exact head_enter) | (rw [head_lifts]; as_aux_lemma => kernel_rfl) | (rw [head_make]; as_aux_lemma => kernel_rfl) | (as_aux_lemma => kernel_rfl))) (by first | (with_reducible exact head_enter) | (rw [head_lifts]; as_aux_lemma => kernel_rfl) | (rw [head_make]; as_aux_lemma => kernel_rfl) | (as_aux_lemma => kernel_rfl))) (by first | (with_reducible exact head_enter) | (rw [head_lifts]; as_aux_lemma => kernel_rfl) | (rw [head_make]; as_aux_lemma => kernel_rfl) | (as_aux_lemma => kernel_rfl))) (by first | (with_reducible exact head_enter) | (rw [head_lifts]; as_aux_lemma => kernel_rfl) | (rw [head_make]; as_aux_lemma => kernel_rfl) | (as_aux_lemma => kernel_rfl))) (by first | (with_reducible exact head_enter) | (rw [head_lifts]; as_aux_lemma => kernel_rfl) | (rw [head_make]; as_aux_lemma => kernel_rfl) | (as_aux_lemma => kernel_rfl))) (by first | (with_reducible exact head_enter) | (rw [head_lifts]; as_aux_lemma => kernel_rfl) | (rw [head_make]; as_aux_lemma => kernel_rfl) | (as_aux_lemma => kernel_rfl))) (by first | (with_reducible exact head_enter) | (rw [head_lifts]; as_aux_lemma => kernel_rfl) | (rw [head_make]; as_aux_lemma => kernel_rfl) | (as_aux_lemma => kernel_rfl))) (by first | (with_reducible exact head_enter) | (rw [head_lifts]; as_aux_lemma => kernel_rfl) | (rw [head_make]; as_aux_lemma => kernel_rfl) | (as_aux_lemma => kernel_rfl))) (by first | (with_reducible exact head_enter) | (rw [head_lifts]; as_aux_lemma => kernel_rfl) | (rw [head_make]; as_aux_lemma => kernel_rfl) | (as_aux_lemma => kernel_rfl))) (by first | (with_reducible exact head_enter) | (rw [head_lifts]; as_aux_lemma => kernel_rfl) | (rw [head_make]; as_aux_lemma => kernel_rfl) | (as_aux_lemma => kernel_rfl))) (by first | (with_reducible exact head_enter) | (rw [head_lifts]; as_aux_lemma => kernel_rfl) | (rw [head_make]; as_aux_lemma => kernel_rfl) | (as_aux_lemma => kernel_rfl))) (by first | (with_reducible exact head_enter) | (rw [head_lifts]; as_aux_lemma => kernel_rfl) | (rw [head_make]; as_aux_lemma => kernel_rfl) | (as_aux_lemma => kernel_rfl))) (by first | (with_reducible exact head_enter) | (rw [head_lifts]; as_aux_lemma => kernel_rfl) | (rw [head_make]; as_aux_lemma => kernel_rfl) | (as_aux_lemma => kernel_rfl))) (by first | (with_reducible exact head_enter) | (rw [head_lifts]; as_aux_lemma => kernel_rfl) | (rw [head_make]; as_aux_lemma => kernel_rfl) | (as_aux_lemma => kernel_rfl))) (by first | (with_reducible exact head_enter) | (rw [head_lifts]; as_aux_lemma => kernel_rfl) | (rw [head_make]; as_aux_lemma => kernel_rfl) | (as_aux_lemma => kernel_rfl)))
    (of_decide_eq_true (by kernel_rfl)) (by unfold Func.isWrapper; first | (rw [if_pos (by decide +kernel)]; kernel_rfl) | (rw [if_neg (by decide +kernel)]; exact ⟨rfl, rfl⟩))
    (fun os started H enc _ F => by rw [OpenClaim.pre_eq_preRow]; exact FnExactRecordFrom_lifted os started H enc F)

/-- No parameter wants a stand-in; the program's own looks: what the card asks. -/
theorem FnExactRecordFrom_plain (f : FuncId) (fn : Func) (hf : Tryd.pinned.checked.prog.funcNamed "loop.example/fanoutlog/laws.FnExactRecordFrom" = some f) (hfn : Tryd.pinned.checked.prog.funcs[f]? = some fn) :
    true = Tryd.pinned.checked.prog.looks [] ∧ ∀ (j : Nat) t, fn.params[j]? = some t → Tryd.pinned.checked.prog.wantsStandIn t = false := by
  obtain rfl : f = 10 := Option.some.inj ((show Tryd.prog.funcNamed "loop.example/fanoutlog/laws.FnExactRecordFrom" = some 10 by kernel_rfl).symm.trans hf) |>.symm
  obtain rfl : fn = Tryd.f10 := (Option.some.inj (Tryd.func10.symm.trans hfn)).symm
  refine ⟨by kernel_rfl, fun j t ht => ?_⟩
  rw [Tryd.params10] at ht
  have hm : t ∈ [9] := by have h := Array.mem_of_getElem? ht; simp at h ⊢; omega
  have hall : ([9].all fun u => !Tryd.prog.wantsStandIn u) = true := by kernel_rfl
  exact (show Tryd.prog.wantsStandIn t = false by simpa using List.all_eq_true.1 hall t hm)
set_option maxRecDepth 100000 in
theorem FnExactRecordFrom_holds : Rows.FnExactRecordFromCardSaid :=
  Claim7.holds_tied_plain_at .later [] _ _ _ _ FnExactRecordFrom_row (fun _ h => by cases h) (by kernel_rfl) (fun _ h => by cases h) fnExactRecordFrom_row_tie rfl ⟨rfl, rfl⟩ (by kernel_rfl) rfl FnExactRecordFrom_plain (by kernel_rfl)
#print axioms FnExactRecordFrom_holds

end Go.Proofs.YtiejbliadegcdaaDoor
