/-
  No cell of these rows narrows 'for every input' (looked for: loops, veiled, ifaces, maps, wideKeys, modest, calm, conditions, laid).
  DERIVED. THE GIVEN ROWS OF THIS SEAT. 16 by the template 'for every input the law returns true; each argument reads behind the call as it read before'; 0 by the template 'total and deterministic' (their statements: YtfncmkmhdddmiaaTotals.lean).
  GIVEN WITH THE SEED: the statements are not yours to turn. If you find one false, say at which input.
  Laid BY PROGRAM, IN A SANDBOX (cutbox-rows.mjs): the forced cells as the released guide's own fill.sh prints them over the translation e1eaad07d8900f08… (all of the seat's roots in one cut). By AI agents, Wed Nov 11 2026. No macro, syntax, notation, axiom, sorry.
-/
import Derived.Test.YtfncmkmhdddmiaaChecked
import GoSem.Claim
import GoSem.ClaimJoined
import GoSem.ClaimMapViews
import Derived.JoinedTies
import Derived.KernelRfl
namespace Go.Proofs.Ytfncmkmhdddmiaa
/- THE CELL 'sum', in the pinned program and in every row, IS THE sha256 OF THE DUMP (.gsa) THAT YtfncmkmhdddmiaaProg.lean LOADS. Nothing in Lean hashes anything: it is a label: what it is worth is what the hold of that sum in a sandbox is worth. -/
noncomputable def Try.pinned : Pinned := { name := "ytfncmkmhdddmiaa", sum := "e1eaad07d8900f0854cf001401f520a665ad37648a2b60ef1e622b89cba51d16", checked := Try.checked }
namespace Rows
def none {H : Type} : Left H := { results := [], args := [] }

/-- 'laws.FnBoxPut': WHATEVER THE INPUT: true; the input reads as it did. -/
def fnBoxPutSpec : ChangeSpec := { name := "fnBoxPut", fn := fun _ => fun
  | [d] => { results := [.lit (.bool true)], args := [d] }
  | _ => none }
def fnBoxPutRow : OpenClaim := { program := "ytfncmkmhdddmiaa", sum := "e1eaad07d8900f0854cf001401f520a665ad37648a2b60ef1e622b89cba51d16", func := "loop.example/fanoutlog/laws.FnBoxPut", spec := "fnBoxPut", unfollowed := true, recurses := true, apart := false }
def FnBoxPutSaid : Prop := fnBoxPutRow.holds Try.pinned (OpenSpec.ofChange fnBoxPutSpec)

/-- ITS FALSE NEIGHBOUR: 'it returns false'. Refute it at one input. -/
def fnBoxPutWrong : ChangeSpec := { name := "fnBoxPut", fn := fun _ => fun
  | [d] => { results := [.lit (.bool false)], args := [d] }
  | _ => none }
def FnBoxPutWrongFalsely : Prop := fnBoxPutRow.holds Try.pinned (OpenSpec.ofChange fnBoxPutWrong)

/-- 'laws.FnBoxPutThere': WHATEVER THE INPUT: true; the input reads as it did. -/
def fnBoxPutThereSpec : ChangeSpec := { name := "fnBoxPutThere", fn := fun _ => fun
  | [d] => { results := [.lit (.bool true)], args := [d] }
  | _ => none }
def fnBoxPutThereRow : OpenClaim := { program := "ytfncmkmhdddmiaa", sum := "e1eaad07d8900f0854cf001401f520a665ad37648a2b60ef1e622b89cba51d16", func := "loop.example/fanoutlog/laws.FnBoxPutThere", spec := "fnBoxPutThere", unfollowed := true, recurses := true, apart := false }
def FnBoxPutThereSaid : Prop := fnBoxPutThereRow.holds Try.pinned (OpenSpec.ofChange fnBoxPutThereSpec)

/-- ITS FALSE NEIGHBOUR: 'it returns false'. Refute it at one input. -/
def fnBoxPutThereWrong : ChangeSpec := { name := "fnBoxPutThere", fn := fun _ => fun
  | [d] => { results := [.lit (.bool false)], args := [d] }
  | _ => none }
def FnBoxPutThereWrongFalsely : Prop := fnBoxPutThereRow.holds Try.pinned (OpenSpec.ofChange fnBoxPutThereWrong)

/-- 'laws.FnBoxPutTwice': WHATEVER THE INPUT: true; the input reads as it did. -/
def fnBoxPutTwiceSpec : ChangeSpec := { name := "fnBoxPutTwice", fn := fun _ => fun
  | [d] => { results := [.lit (.bool true)], args := [d] }
  | _ => none }
def fnBoxPutTwiceRow : OpenClaim := { program := "ytfncmkmhdddmiaa", sum := "e1eaad07d8900f0854cf001401f520a665ad37648a2b60ef1e622b89cba51d16", func := "loop.example/fanoutlog/laws.FnBoxPutTwice", spec := "fnBoxPutTwice", unfollowed := true, recurses := true, apart := false }
def FnBoxPutTwiceSaid : Prop := fnBoxPutTwiceRow.holds Try.pinned (OpenSpec.ofChange fnBoxPutTwiceSpec)

/-- ITS FALSE NEIGHBOUR: 'it returns false'. Refute it at one input. -/
def fnBoxPutTwiceWrong : ChangeSpec := { name := "fnBoxPutTwice", fn := fun _ => fun
  | [d] => { results := [.lit (.bool false)], args := [d] }
  | _ => none }
def FnBoxPutTwiceWrongFalsely : Prop := fnBoxPutTwiceRow.holds Try.pinned (OpenSpec.ofChange fnBoxPutTwiceWrong)

/-- 'laws.FnBoxPutSwap': WHATEVER THE INPUT: true; the input reads as it did. -/
def fnBoxPutSwapSpec : ChangeSpec := { name := "fnBoxPutSwap", fn := fun _ => fun
  | [d] => { results := [.lit (.bool true)], args := [d] }
  | _ => none }
def fnBoxPutSwapRow : OpenClaim := { program := "ytfncmkmhdddmiaa", sum := "e1eaad07d8900f0854cf001401f520a665ad37648a2b60ef1e622b89cba51d16", func := "loop.example/fanoutlog/laws.FnBoxPutSwap", spec := "fnBoxPutSwap", unfollowed := true, recurses := true, apart := false }
def FnBoxPutSwapSaid : Prop := fnBoxPutSwapRow.holds Try.pinned (OpenSpec.ofChange fnBoxPutSwapSpec)

/-- ITS FALSE NEIGHBOUR: 'it returns false'. Refute it at one input. -/
def fnBoxPutSwapWrong : ChangeSpec := { name := "fnBoxPutSwap", fn := fun _ => fun
  | [d] => { results := [.lit (.bool false)], args := [d] }
  | _ => none }
def FnBoxPutSwapWrongFalsely : Prop := fnBoxPutSwapRow.holds Try.pinned (OpenSpec.ofChange fnBoxPutSwapWrong)

/-- 'laws.FnBoxesPut': WHATEVER THE INPUT: true; the input reads as it did. -/
def fnBoxesPutSpec : ChangeSpec := { name := "fnBoxesPut", fn := fun _ => fun
  | [d] => { results := [.lit (.bool true)], args := [d] }
  | _ => none }
def fnBoxesPutRow : OpenClaim := { program := "ytfncmkmhdddmiaa", sum := "e1eaad07d8900f0854cf001401f520a665ad37648a2b60ef1e622b89cba51d16", func := "loop.example/fanoutlog/laws.FnBoxesPut", spec := "fnBoxesPut", inPlace := ["internal/bytealg.abigen_runtime_cmpstring", "slices.overlaps[loop.example/fanoutlog/impl.Box]"], unfollowed := true, recurses := true, apart := false }
def FnBoxesPutSaid : Prop := fnBoxesPutRow.holds Try.pinned (OpenSpec.ofChange fnBoxesPutSpec)

/-- ITS FALSE NEIGHBOUR: 'it returns false'. Refute it at one input. -/
def fnBoxesPutWrong : ChangeSpec := { name := "fnBoxesPut", fn := fun _ => fun
  | [d] => { results := [.lit (.bool false)], args := [d] }
  | _ => none }
def FnBoxesPutWrongFalsely : Prop := fnBoxesPutRow.holds Try.pinned (OpenSpec.ofChange fnBoxesPutWrong)

/-- 'laws.FnBoxesPutOthers': WHATEVER THE INPUT: true; the input reads as it did. -/
def fnBoxesPutOthersSpec : ChangeSpec := { name := "fnBoxesPutOthers", fn := fun _ => fun
  | [d] => { results := [.lit (.bool true)], args := [d] }
  | _ => none }
def fnBoxesPutOthersRow : OpenClaim := { program := "ytfncmkmhdddmiaa", sum := "e1eaad07d8900f0854cf001401f520a665ad37648a2b60ef1e622b89cba51d16", func := "loop.example/fanoutlog/laws.FnBoxesPutOthers", spec := "fnBoxesPutOthers", inPlace := ["internal/bytealg.abigen_runtime_cmpstring", "slices.overlaps[loop.example/fanoutlog/impl.Box]"], unfollowed := true, recurses := true, apart := false }
def FnBoxesPutOthersSaid : Prop := fnBoxesPutOthersRow.holds Try.pinned (OpenSpec.ofChange fnBoxesPutOthersSpec)

/-- ITS FALSE NEIGHBOUR: 'it returns false'. Refute it at one input. -/
def fnBoxesPutOthersWrong : ChangeSpec := { name := "fnBoxesPutOthers", fn := fun _ => fun
  | [d] => { results := [.lit (.bool false)], args := [d] }
  | _ => none }
def FnBoxesPutOthersWrongFalsely : Prop := fnBoxesPutOthersRow.holds Try.pinned (OpenSpec.ofChange fnBoxesPutOthersWrong)

/-- 'laws.FnBoxesPutTwice': WHATEVER THE INPUT: true; the input reads as it did. -/
def fnBoxesPutTwiceSpec : ChangeSpec := { name := "fnBoxesPutTwice", fn := fun _ => fun
  | [d] => { results := [.lit (.bool true)], args := [d] }
  | _ => none }
def fnBoxesPutTwiceRow : OpenClaim := { program := "ytfncmkmhdddmiaa", sum := "e1eaad07d8900f0854cf001401f520a665ad37648a2b60ef1e622b89cba51d16", func := "loop.example/fanoutlog/laws.FnBoxesPutTwice", spec := "fnBoxesPutTwice", inPlace := ["internal/bytealg.abigen_runtime_cmpstring", "slices.overlaps[loop.example/fanoutlog/impl.Box]"], unfollowed := true, recurses := true, apart := false }
def FnBoxesPutTwiceSaid : Prop := fnBoxesPutTwiceRow.holds Try.pinned (OpenSpec.ofChange fnBoxesPutTwiceSpec)

/-- ITS FALSE NEIGHBOUR: 'it returns false'. Refute it at one input. -/
def fnBoxesPutTwiceWrong : ChangeSpec := { name := "fnBoxesPutTwice", fn := fun _ => fun
  | [d] => { results := [.lit (.bool false)], args := [d] }
  | _ => none }
def FnBoxesPutTwiceWrongFalsely : Prop := fnBoxesPutTwiceRow.holds Try.pinned (OpenSpec.ofChange fnBoxesPutTwiceWrong)

/-- 'laws.FnBoxesPutSwap': WHATEVER THE INPUT: true; the input reads as it did. -/
def fnBoxesPutSwapSpec : ChangeSpec := { name := "fnBoxesPutSwap", fn := fun _ => fun
  | [d] => { results := [.lit (.bool true)], args := [d] }
  | _ => none }
def fnBoxesPutSwapRow : OpenClaim := { program := "ytfncmkmhdddmiaa", sum := "e1eaad07d8900f0854cf001401f520a665ad37648a2b60ef1e622b89cba51d16", func := "loop.example/fanoutlog/laws.FnBoxesPutSwap", spec := "fnBoxesPutSwap", inPlace := ["internal/bytealg.abigen_runtime_cmpstring", "slices.overlaps[loop.example/fanoutlog/impl.Box]"], unfollowed := true, recurses := true, apart := false }
def FnBoxesPutSwapSaid : Prop := fnBoxesPutSwapRow.holds Try.pinned (OpenSpec.ofChange fnBoxesPutSwapSpec)

/-- ITS FALSE NEIGHBOUR: 'it returns false'. Refute it at one input. -/
def fnBoxesPutSwapWrong : ChangeSpec := { name := "fnBoxesPutSwap", fn := fun _ => fun
  | [d] => { results := [.lit (.bool false)], args := [d] }
  | _ => none }
def FnBoxesPutSwapWrongFalsely : Prop := fnBoxesPutSwapRow.holds Try.pinned (OpenSpec.ofChange fnBoxesPutSwapWrong)

/-- 'laws.FnBoxesGet': WHATEVER THE INPUT: true; the input reads as it did. -/
def fnBoxesGetSpec : ChangeSpec := { name := "fnBoxesGet", fn := fun _ => fun
  | [d1, d2] => { results := [.lit (.bool true)], args := [d1, d2] }
  | _ => none }
def fnBoxesGetRow : OpenClaim := { program := "ytfncmkmhdddmiaa", sum := "e1eaad07d8900f0854cf001401f520a665ad37648a2b60ef1e622b89cba51d16", func := "loop.example/fanoutlog/laws.FnBoxesGet", spec := "fnBoxesGet", inPlace := ["internal/bytealg.abigen_runtime_cmpstring"], unfollowed := true, recurses := true, apart := false }
def FnBoxesGetSaid : Prop := fnBoxesGetRow.holds Try.pinned (OpenSpec.ofChange fnBoxesGetSpec)

/-- ITS FALSE NEIGHBOUR: 'it returns false'. Refute it at one input. -/
def fnBoxesGetWrong : ChangeSpec := { name := "fnBoxesGet", fn := fun _ => fun
  | [d1, d2] => { results := [.lit (.bool false)], args := [d1, d2] }
  | _ => none }
def FnBoxesGetWrongFalsely : Prop := fnBoxesGetRow.holds Try.pinned (OpenSpec.ofChange fnBoxesGetWrong)

/-- 'laws.FnBoxes': WHATEVER THE INPUT: true; the input reads as it did. -/
def fnBoxesSpec : ChangeSpec := { name := "fnBoxes", fn := fun _ => fun
  | [d1, d2] => { results := [.lit (.bool true)], args := [d1, d2] }
  | _ => none }
def fnBoxesRow : OpenClaim := { program := "ytfncmkmhdddmiaa", sum := "e1eaad07d8900f0854cf001401f520a665ad37648a2b60ef1e622b89cba51d16", func := "loop.example/fanoutlog/laws.FnBoxes", spec := "fnBoxes", apart := false }
def FnBoxesSaid : Prop := fnBoxesRow.holds Try.pinned (OpenSpec.ofChange fnBoxesSpec)

/-- ITS FALSE NEIGHBOUR: 'it returns false'. Refute it at one input. -/
def fnBoxesWrong : ChangeSpec := { name := "fnBoxes", fn := fun _ => fun
  | [d1, d2] => { results := [.lit (.bool false)], args := [d1, d2] }
  | _ => none }
def FnBoxesWrongFalsely : Prop := fnBoxesRow.holds Try.pinned (OpenSpec.ofChange fnBoxesWrong)

/-- 'laws.FnBoxPutEmpty': WHATEVER THE INPUT: true; the input reads as it did. -/
def fnBoxPutEmptySpec : ChangeSpec := { name := "fnBoxPutEmpty", fn := fun _ => fun
  | [d] => { results := [.lit (.bool true)], args := [d] }
  | _ => none }
def fnBoxPutEmptyRow : OpenClaim := { program := "ytfncmkmhdddmiaa", sum := "e1eaad07d8900f0854cf001401f520a665ad37648a2b60ef1e622b89cba51d16", func := "loop.example/fanoutlog/laws.FnBoxPutEmpty", spec := "fnBoxPutEmpty", unfollowed := true, recurses := true, apart := false }
def FnBoxPutEmptySaid : Prop := fnBoxPutEmptyRow.holds Try.pinned (OpenSpec.ofChange fnBoxPutEmptySpec)

/-- ITS FALSE NEIGHBOUR: 'it returns false'. Refute it at one input. -/
def fnBoxPutEmptyWrong : ChangeSpec := { name := "fnBoxPutEmpty", fn := fun _ => fun
  | [d] => { results := [.lit (.bool false)], args := [d] }
  | _ => none }
def FnBoxPutEmptyWrongFalsely : Prop := fnBoxPutEmptyRow.holds Try.pinned (OpenSpec.ofChange fnBoxPutEmptyWrong)

/-- 'laws.FnBoxesPutNew': WHATEVER THE INPUT: true; the input reads as it did. -/
def fnBoxesPutNewSpec : ChangeSpec := { name := "fnBoxesPutNew", fn := fun _ => fun
  | [d] => { results := [.lit (.bool true)], args := [d] }
  | _ => none }
def fnBoxesPutNewRow : OpenClaim := { program := "ytfncmkmhdddmiaa", sum := "e1eaad07d8900f0854cf001401f520a665ad37648a2b60ef1e622b89cba51d16", func := "loop.example/fanoutlog/laws.FnBoxesPutNew", spec := "fnBoxesPutNew", inPlace := ["internal/bytealg.abigen_runtime_cmpstring", "slices.overlaps[loop.example/fanoutlog/impl.Box]"], unfollowed := true, recurses := true, apart := false }
def FnBoxesPutNewSaid : Prop := fnBoxesPutNewRow.holds Try.pinned (OpenSpec.ofChange fnBoxesPutNewSpec)

/-- ITS FALSE NEIGHBOUR: 'it returns false'. Refute it at one input. -/
def fnBoxesPutNewWrong : ChangeSpec := { name := "fnBoxesPutNew", fn := fun _ => fun
  | [d] => { results := [.lit (.bool false)], args := [d] }
  | _ => none }
def FnBoxesPutNewWrongFalsely : Prop := fnBoxesPutNewRow.holds Try.pinned (OpenSpec.ofChange fnBoxesPutNewWrong)

/-- 'laws.FnExactBoxesValid': WHATEVER THE INPUT: true; the input reads as it did. -/
def fnExactBoxesValidSpec : ChangeSpec := { name := "fnExactBoxesValid", fn := fun _ => fun
  | [d] => { results := [.lit (.bool true)], args := [d] }
  | _ => none }
def fnExactBoxesValidRow : OpenClaim := { program := "ytfncmkmhdddmiaa", sum := "e1eaad07d8900f0854cf001401f520a665ad37648a2b60ef1e622b89cba51d16", func := "loop.example/fanoutlog/laws.FnExactBoxesValid", spec := "fnExactBoxesValid", apart := false }
def FnExactBoxesValidSaid : Prop := fnExactBoxesValidRow.holds Try.pinned (OpenSpec.ofChange fnExactBoxesValidSpec)

/-- ITS FALSE NEIGHBOUR: 'it returns false'. Refute it at one input. -/
def fnExactBoxesValidWrong : ChangeSpec := { name := "fnExactBoxesValid", fn := fun _ => fun
  | [d] => { results := [.lit (.bool false)], args := [d] }
  | _ => none }
def FnExactBoxesValidWrongFalsely : Prop := fnExactBoxesValidRow.holds Try.pinned (OpenSpec.ofChange fnExactBoxesValidWrong)

/-- 'laws.FnExactBoxPut': WHATEVER THE INPUT: true; the input reads as it did. -/
def fnExactBoxPutSpec : ChangeSpec := { name := "fnExactBoxPut", fn := fun _ => fun
  | [d1, d2] => { results := [.lit (.bool true)], args := [d1, d2] }
  | _ => none }
def fnExactBoxPutRow : OpenClaim := { program := "ytfncmkmhdddmiaa", sum := "e1eaad07d8900f0854cf001401f520a665ad37648a2b60ef1e622b89cba51d16", func := "loop.example/fanoutlog/laws.FnExactBoxPut", spec := "fnExactBoxPut", unfollowed := true, recurses := true, apart := false }
def FnExactBoxPutSaid : Prop := fnExactBoxPutRow.holds Try.pinned (OpenSpec.ofChange fnExactBoxPutSpec)

/-- ITS FALSE NEIGHBOUR: 'it returns false'. Refute it at one input. -/
def fnExactBoxPutWrong : ChangeSpec := { name := "fnExactBoxPut", fn := fun _ => fun
  | [d1, d2] => { results := [.lit (.bool false)], args := [d1, d2] }
  | _ => none }
def FnExactBoxPutWrongFalsely : Prop := fnExactBoxPutRow.holds Try.pinned (OpenSpec.ofChange fnExactBoxPutWrong)

/-- 'laws.FnExactBoxesPut': WHATEVER THE INPUT: true; the input reads as it did. -/
def fnExactBoxesPutSpec : ChangeSpec := { name := "fnExactBoxesPut", fn := fun _ => fun
  | [d1, d2, d3] => { results := [.lit (.bool true)], args := [d1, d2, d3] }
  | _ => none }
def fnExactBoxesPutRow : OpenClaim := { program := "ytfncmkmhdddmiaa", sum := "e1eaad07d8900f0854cf001401f520a665ad37648a2b60ef1e622b89cba51d16", func := "loop.example/fanoutlog/laws.FnExactBoxesPut", spec := "fnExactBoxesPut", inPlace := ["internal/bytealg.abigen_runtime_cmpstring", "slices.overlaps[loop.example/fanoutlog/impl.Box]"], unfollowed := true, recurses := true, apart := false }
def FnExactBoxesPutSaid : Prop := fnExactBoxesPutRow.holds Try.pinned (OpenSpec.ofChange fnExactBoxesPutSpec)

/-- ITS FALSE NEIGHBOUR: 'it returns false'. Refute it at one input. -/
def fnExactBoxesPutWrong : ChangeSpec := { name := "fnExactBoxesPut", fn := fun _ => fun
  | [d1, d2, d3] => { results := [.lit (.bool false)], args := [d1, d2, d3] }
  | _ => none }
def FnExactBoxesPutWrongFalsely : Prop := fnExactBoxesPutRow.holds Try.pinned (OpenSpec.ofChange fnExactBoxesPutWrong)

/-- 'laws.FnExactBoxesGet': WHATEVER THE INPUT: true; the input reads as it did. -/
def fnExactBoxesGetSpec : ChangeSpec := { name := "fnExactBoxesGet", fn := fun _ => fun
  | [d1, d2] => { results := [.lit (.bool true)], args := [d1, d2] }
  | _ => none }
def fnExactBoxesGetRow : OpenClaim := { program := "ytfncmkmhdddmiaa", sum := "e1eaad07d8900f0854cf001401f520a665ad37648a2b60ef1e622b89cba51d16", func := "loop.example/fanoutlog/laws.FnExactBoxesGet", spec := "fnExactBoxesGet", inPlace := ["internal/bytealg.abigen_runtime_cmpstring"], unfollowed := true, recurses := true, apart := false }
def FnExactBoxesGetSaid : Prop := fnExactBoxesGetRow.holds Try.pinned (OpenSpec.ofChange fnExactBoxesGetSpec)

/-- ITS FALSE NEIGHBOUR: 'it returns false'. Refute it at one input. -/
def fnExactBoxesGetWrong : ChangeSpec := { name := "fnExactBoxesGet", fn := fun _ => fun
  | [d1, d2] => { results := [.lit (.bool false)], args := [d1, d2] }
  | _ => none }
def FnExactBoxesGetWrongFalsely : Prop := fnExactBoxesGetRow.holds Try.pinned (OpenSpec.ofChange fnExactBoxesGetWrong)

/- THE SECOND FORM. 'bulk': how many values and letters a reading holds, each counted each time it is reached (what is shared counts as often as it is met; a slice's spare places count too). A statement '..UptoSaid' is the law's where the arguments, and the package variables that the reading takes, are together of bulk at most 1048576: NARROWER than '..Said'. Prove '..Said' where nothing that the law and all that it calls make is longer than what came in: it says more and counts as full. Else prove '..UptoSaid'. A law counts once. -/
mutual
def uptoBulk {H : Type} : DataW H → Nat
  | .lit (.string bytes) => bytes.length + 1
  | .lit _ => 1
  | .nil => 1
  | .ptr d => uptoBulk d + 1
  | .slice elems spare => uptoBulkAll elems + uptoBulkAll spare + 1
  | .agg parts => uptoBulkAll parts + 1
  | .iface _ d => uptoBulk d + 1
  | .map entries => uptoBulkEntries entries + 1
  | .held _ => 1
def uptoBulkAll {H : Type} : List (DataW H) → Nat
  | [] => 0
  | d :: r => uptoBulk d + uptoBulkAll r
def uptoBulkEntries {H : Type} : List (Lit × DataW H) → Nat
  | [] => 0
  | x :: r => uptoBulkEntry x + uptoBulkEntries r
def uptoBulkEntry {H : Type} : Lit × DataW H → Nat
  | (.string bytes, d) => bytes.length + uptoBulk d + 1
  | (_, d) => uptoBulk d + 1
 end
def uptoSmall : (H : Type) → List (DataW H) → Bool := fun _ ds => decide (uptoBulkAll ds ≤ 1048576)
def OpenSpec.upto (s : _root_.Go.ChangeSpec) : _root_.Go.OpenSpec := { _root_.Go.OpenSpec.ofChange s with cond := some uptoSmall }

/-- 'laws.FnBoxPut', WHERE WHAT IT READS IS OF BULK AT MOST 1048576: true; the input reads as it did. -/
def fnBoxPutUptoRow : OpenClaim := { program := "ytfncmkmhdddmiaa", sum := "e1eaad07d8900f0854cf001401f520a665ad37648a2b60ef1e622b89cba51d16", func := "loop.example/fanoutlog/laws.FnBoxPut", spec := "fnBoxPut", unfollowed := true, recurses := true, apart := false, narrowed := true }
def FnBoxPutUptoSaid : Prop := fnBoxPutUptoRow.holds Try.pinned (OpenSpec.upto fnBoxPutSpec)

/-- 'laws.FnBoxPutThere', WHERE WHAT IT READS IS OF BULK AT MOST 1048576: true; the input reads as it did. -/
def fnBoxPutThereUptoRow : OpenClaim := { program := "ytfncmkmhdddmiaa", sum := "e1eaad07d8900f0854cf001401f520a665ad37648a2b60ef1e622b89cba51d16", func := "loop.example/fanoutlog/laws.FnBoxPutThere", spec := "fnBoxPutThere", unfollowed := true, recurses := true, apart := false, narrowed := true }
def FnBoxPutThereUptoSaid : Prop := fnBoxPutThereUptoRow.holds Try.pinned (OpenSpec.upto fnBoxPutThereSpec)

/-- 'laws.FnBoxPutTwice', WHERE WHAT IT READS IS OF BULK AT MOST 1048576: true; the input reads as it did. -/
def fnBoxPutTwiceUptoRow : OpenClaim := { program := "ytfncmkmhdddmiaa", sum := "e1eaad07d8900f0854cf001401f520a665ad37648a2b60ef1e622b89cba51d16", func := "loop.example/fanoutlog/laws.FnBoxPutTwice", spec := "fnBoxPutTwice", unfollowed := true, recurses := true, apart := false, narrowed := true }
def FnBoxPutTwiceUptoSaid : Prop := fnBoxPutTwiceUptoRow.holds Try.pinned (OpenSpec.upto fnBoxPutTwiceSpec)

/-- 'laws.FnBoxPutSwap', WHERE WHAT IT READS IS OF BULK AT MOST 1048576: true; the input reads as it did. -/
def fnBoxPutSwapUptoRow : OpenClaim := { program := "ytfncmkmhdddmiaa", sum := "e1eaad07d8900f0854cf001401f520a665ad37648a2b60ef1e622b89cba51d16", func := "loop.example/fanoutlog/laws.FnBoxPutSwap", spec := "fnBoxPutSwap", unfollowed := true, recurses := true, apart := false, narrowed := true }
def FnBoxPutSwapUptoSaid : Prop := fnBoxPutSwapUptoRow.holds Try.pinned (OpenSpec.upto fnBoxPutSwapSpec)

/-- 'laws.FnBoxesPut', WHERE WHAT IT READS IS OF BULK AT MOST 1048576: true; the input reads as it did. -/
def fnBoxesPutUptoRow : OpenClaim := { program := "ytfncmkmhdddmiaa", sum := "e1eaad07d8900f0854cf001401f520a665ad37648a2b60ef1e622b89cba51d16", func := "loop.example/fanoutlog/laws.FnBoxesPut", spec := "fnBoxesPut", inPlace := ["internal/bytealg.abigen_runtime_cmpstring", "slices.overlaps[loop.example/fanoutlog/impl.Box]"], unfollowed := true, recurses := true, apart := false, narrowed := true }
def FnBoxesPutUptoSaid : Prop := fnBoxesPutUptoRow.holds Try.pinned (OpenSpec.upto fnBoxesPutSpec)

/-- 'laws.FnBoxesPutOthers', WHERE WHAT IT READS IS OF BULK AT MOST 1048576: true; the input reads as it did. -/
def fnBoxesPutOthersUptoRow : OpenClaim := { program := "ytfncmkmhdddmiaa", sum := "e1eaad07d8900f0854cf001401f520a665ad37648a2b60ef1e622b89cba51d16", func := "loop.example/fanoutlog/laws.FnBoxesPutOthers", spec := "fnBoxesPutOthers", inPlace := ["internal/bytealg.abigen_runtime_cmpstring", "slices.overlaps[loop.example/fanoutlog/impl.Box]"], unfollowed := true, recurses := true, apart := false, narrowed := true }
def FnBoxesPutOthersUptoSaid : Prop := fnBoxesPutOthersUptoRow.holds Try.pinned (OpenSpec.upto fnBoxesPutOthersSpec)

/-- 'laws.FnBoxesPutTwice', WHERE WHAT IT READS IS OF BULK AT MOST 1048576: true; the input reads as it did. -/
def fnBoxesPutTwiceUptoRow : OpenClaim := { program := "ytfncmkmhdddmiaa", sum := "e1eaad07d8900f0854cf001401f520a665ad37648a2b60ef1e622b89cba51d16", func := "loop.example/fanoutlog/laws.FnBoxesPutTwice", spec := "fnBoxesPutTwice", inPlace := ["internal/bytealg.abigen_runtime_cmpstring", "slices.overlaps[loop.example/fanoutlog/impl.Box]"], unfollowed := true, recurses := true, apart := false, narrowed := true }
def FnBoxesPutTwiceUptoSaid : Prop := fnBoxesPutTwiceUptoRow.holds Try.pinned (OpenSpec.upto fnBoxesPutTwiceSpec)

/-- 'laws.FnBoxesPutSwap', WHERE WHAT IT READS IS OF BULK AT MOST 1048576: true; the input reads as it did. -/
def fnBoxesPutSwapUptoRow : OpenClaim := { program := "ytfncmkmhdddmiaa", sum := "e1eaad07d8900f0854cf001401f520a665ad37648a2b60ef1e622b89cba51d16", func := "loop.example/fanoutlog/laws.FnBoxesPutSwap", spec := "fnBoxesPutSwap", inPlace := ["internal/bytealg.abigen_runtime_cmpstring", "slices.overlaps[loop.example/fanoutlog/impl.Box]"], unfollowed := true, recurses := true, apart := false, narrowed := true }
def FnBoxesPutSwapUptoSaid : Prop := fnBoxesPutSwapUptoRow.holds Try.pinned (OpenSpec.upto fnBoxesPutSwapSpec)

/-- 'laws.FnBoxesGet', WHERE WHAT IT READS IS OF BULK AT MOST 1048576: true; the input reads as it did. -/
def fnBoxesGetUptoRow : OpenClaim := { program := "ytfncmkmhdddmiaa", sum := "e1eaad07d8900f0854cf001401f520a665ad37648a2b60ef1e622b89cba51d16", func := "loop.example/fanoutlog/laws.FnBoxesGet", spec := "fnBoxesGet", inPlace := ["internal/bytealg.abigen_runtime_cmpstring"], unfollowed := true, recurses := true, apart := false, narrowed := true }
def FnBoxesGetUptoSaid : Prop := fnBoxesGetUptoRow.holds Try.pinned (OpenSpec.upto fnBoxesGetSpec)

/-- 'laws.FnBoxes', WHERE WHAT IT READS IS OF BULK AT MOST 1048576: true; the input reads as it did. -/
def fnBoxesUptoRow : OpenClaim := { program := "ytfncmkmhdddmiaa", sum := "e1eaad07d8900f0854cf001401f520a665ad37648a2b60ef1e622b89cba51d16", func := "loop.example/fanoutlog/laws.FnBoxes", spec := "fnBoxes", apart := false, narrowed := true }
def FnBoxesUptoSaid : Prop := fnBoxesUptoRow.holds Try.pinned (OpenSpec.upto fnBoxesSpec)

/-- 'laws.FnBoxPutEmpty', WHERE WHAT IT READS IS OF BULK AT MOST 1048576: true; the input reads as it did. -/
def fnBoxPutEmptyUptoRow : OpenClaim := { program := "ytfncmkmhdddmiaa", sum := "e1eaad07d8900f0854cf001401f520a665ad37648a2b60ef1e622b89cba51d16", func := "loop.example/fanoutlog/laws.FnBoxPutEmpty", spec := "fnBoxPutEmpty", unfollowed := true, recurses := true, apart := false, narrowed := true }
def FnBoxPutEmptyUptoSaid : Prop := fnBoxPutEmptyUptoRow.holds Try.pinned (OpenSpec.upto fnBoxPutEmptySpec)

/-- 'laws.FnBoxesPutNew', WHERE WHAT IT READS IS OF BULK AT MOST 1048576: true; the input reads as it did. -/
def fnBoxesPutNewUptoRow : OpenClaim := { program := "ytfncmkmhdddmiaa", sum := "e1eaad07d8900f0854cf001401f520a665ad37648a2b60ef1e622b89cba51d16", func := "loop.example/fanoutlog/laws.FnBoxesPutNew", spec := "fnBoxesPutNew", inPlace := ["internal/bytealg.abigen_runtime_cmpstring", "slices.overlaps[loop.example/fanoutlog/impl.Box]"], unfollowed := true, recurses := true, apart := false, narrowed := true }
def FnBoxesPutNewUptoSaid : Prop := fnBoxesPutNewUptoRow.holds Try.pinned (OpenSpec.upto fnBoxesPutNewSpec)

/-- 'laws.FnExactBoxesValid', WHERE WHAT IT READS IS OF BULK AT MOST 1048576: true; the input reads as it did. -/
def fnExactBoxesValidUptoRow : OpenClaim := { program := "ytfncmkmhdddmiaa", sum := "e1eaad07d8900f0854cf001401f520a665ad37648a2b60ef1e622b89cba51d16", func := "loop.example/fanoutlog/laws.FnExactBoxesValid", spec := "fnExactBoxesValid", apart := false, narrowed := true }
def FnExactBoxesValidUptoSaid : Prop := fnExactBoxesValidUptoRow.holds Try.pinned (OpenSpec.upto fnExactBoxesValidSpec)

/-- 'laws.FnExactBoxPut', WHERE WHAT IT READS IS OF BULK AT MOST 1048576: true; the input reads as it did. -/
def fnExactBoxPutUptoRow : OpenClaim := { program := "ytfncmkmhdddmiaa", sum := "e1eaad07d8900f0854cf001401f520a665ad37648a2b60ef1e622b89cba51d16", func := "loop.example/fanoutlog/laws.FnExactBoxPut", spec := "fnExactBoxPut", unfollowed := true, recurses := true, apart := false, narrowed := true }
def FnExactBoxPutUptoSaid : Prop := fnExactBoxPutUptoRow.holds Try.pinned (OpenSpec.upto fnExactBoxPutSpec)

/-- 'laws.FnExactBoxesPut', WHERE WHAT IT READS IS OF BULK AT MOST 1048576: true; the input reads as it did. -/
def fnExactBoxesPutUptoRow : OpenClaim := { program := "ytfncmkmhdddmiaa", sum := "e1eaad07d8900f0854cf001401f520a665ad37648a2b60ef1e622b89cba51d16", func := "loop.example/fanoutlog/laws.FnExactBoxesPut", spec := "fnExactBoxesPut", inPlace := ["internal/bytealg.abigen_runtime_cmpstring", "slices.overlaps[loop.example/fanoutlog/impl.Box]"], unfollowed := true, recurses := true, apart := false, narrowed := true }
def FnExactBoxesPutUptoSaid : Prop := fnExactBoxesPutUptoRow.holds Try.pinned (OpenSpec.upto fnExactBoxesPutSpec)

/-- 'laws.FnExactBoxesGet', WHERE WHAT IT READS IS OF BULK AT MOST 1048576: true; the input reads as it did. -/
def fnExactBoxesGetUptoRow : OpenClaim := { program := "ytfncmkmhdddmiaa", sum := "e1eaad07d8900f0854cf001401f520a665ad37648a2b60ef1e622b89cba51d16", func := "loop.example/fanoutlog/laws.FnExactBoxesGet", spec := "fnExactBoxesGet", inPlace := ["internal/bytealg.abigen_runtime_cmpstring"], unfollowed := true, recurses := true, apart := false, narrowed := true }
def FnExactBoxesGetUptoSaid : Prop := fnExactBoxesGetUptoRow.holds Try.pinned (OpenSpec.upto fnExactBoxesGetSpec)

end Rows
end Go.Proofs.Ytfncmkmhdddmiaa
