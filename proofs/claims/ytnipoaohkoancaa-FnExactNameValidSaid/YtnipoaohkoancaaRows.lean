/-
  No cell of these rows narrows 'for every input' (looked for: loops, veiled, ifaces, maps, wideKeys, modest, calm, conditions, laid).
  DERIVED. THE GIVEN ROWS OF THIS SEAT. 12 by the template 'for every input the law returns true; each argument reads behind the call as it read before'; 0 by the template 'total and deterministic' (their statements: YtnipoaohkoancaaTotals.lean).
  GIVEN WITH THE SEED: the statements are not yours to turn. If you find one false, say at which input.
  Laid BY PROGRAM, IN A SANDBOX (cutbox-rows.mjs): the forced cells as the released guide's own fill.sh prints them over the translation c4a2a3ed43b89929… (all of the seat's roots in one cut). By AI agents, Wed Nov 11 2026. No macro, syntax, notation, axiom, sorry.
-/
import Derived.Test.YtnipoaohkoancaaChecked
import GoSem.Claim
import GoSem.ClaimJoined
import GoSem.ClaimMapViews
import Derived.JoinedTies
import Derived.KernelRfl
namespace Go.Proofs.Ytnipoaohkoancaa
/- THE CELL 'sum', in the pinned program and in every row, IS THE sha256 OF THE DUMP (.gsa) THAT YtnipoaohkoancaaProg.lean LOADS. Nothing in Lean hashes anything: it is a label: what it is worth is what the hold of that sum in a sandbox is worth. -/
noncomputable def Try.pinned : Pinned := { name := "ytnipoaohkoancaa", sum := "c4a2a3ed43b899299e99daa2e53a2e4f1cd7bcce8b56186285a97afd7aa68016", checked := Try.checked }
namespace Rows
def none {H : Type} : Left H := { results := [], args := [] }

/-- 'laws.FnPut': WHATEVER THE INPUT: true; the input reads as it did. -/
def fnPutSpec : ChangeSpec := { name := "fnPut", fn := fun _ => fun
  | [d] => { results := [.lit (.bool true)], args := [d] }
  | _ => none }
def fnPutRow : OpenClaim := { program := "ytnipoaohkoancaa", sum := "c4a2a3ed43b899299e99daa2e53a2e4f1cd7bcce8b56186285a97afd7aa68016", func := "loop.example/fanoutlog/laws.FnPut", spec := "fnPut", apart := false }
def FnPutSaid : Prop := fnPutRow.holds Try.pinned (OpenSpec.ofChange fnPutSpec)

/-- ITS FALSE NEIGHBOUR: 'it returns false'. Refute it at one input. -/
def fnPutWrong : ChangeSpec := { name := "fnPut", fn := fun _ => fun
  | [d] => { results := [.lit (.bool false)], args := [d] }
  | _ => none }
def FnPutWrongFalsely : Prop := fnPutRow.holds Try.pinned (OpenSpec.ofChange fnPutWrong)

/-- 'laws.FnPutOthers': WHATEVER THE INPUT: true; the input reads as it did. -/
def fnPutOthersSpec : ChangeSpec := { name := "fnPutOthers", fn := fun _ => fun
  | [d] => { results := [.lit (.bool true)], args := [d] }
  | _ => none }
def fnPutOthersRow : OpenClaim := { program := "ytnipoaohkoancaa", sum := "c4a2a3ed43b899299e99daa2e53a2e4f1cd7bcce8b56186285a97afd7aa68016", func := "loop.example/fanoutlog/laws.FnPutOthers", spec := "fnPutOthers", apart := false }
def FnPutOthersSaid : Prop := fnPutOthersRow.holds Try.pinned (OpenSpec.ofChange fnPutOthersSpec)

/-- ITS FALSE NEIGHBOUR: 'it returns false'. Refute it at one input. -/
def fnPutOthersWrong : ChangeSpec := { name := "fnPutOthers", fn := fun _ => fun
  | [d] => { results := [.lit (.bool false)], args := [d] }
  | _ => none }
def FnPutOthersWrongFalsely : Prop := fnPutOthersRow.holds Try.pinned (OpenSpec.ofChange fnPutOthersWrong)

/-- 'laws.FnPutTwice': WHATEVER THE INPUT: true; the input reads as it did. -/
def fnPutTwiceSpec : ChangeSpec := { name := "fnPutTwice", fn := fun _ => fun
  | [d] => { results := [.lit (.bool true)], args := [d] }
  | _ => none }
def fnPutTwiceRow : OpenClaim := { program := "ytnipoaohkoancaa", sum := "c4a2a3ed43b899299e99daa2e53a2e4f1cd7bcce8b56186285a97afd7aa68016", func := "loop.example/fanoutlog/laws.FnPutTwice", spec := "fnPutTwice", apart := false }
def FnPutTwiceSaid : Prop := fnPutTwiceRow.holds Try.pinned (OpenSpec.ofChange fnPutTwiceSpec)

/-- ITS FALSE NEIGHBOUR: 'it returns false'. Refute it at one input. -/
def fnPutTwiceWrong : ChangeSpec := { name := "fnPutTwice", fn := fun _ => fun
  | [d] => { results := [.lit (.bool false)], args := [d] }
  | _ => none }
def FnPutTwiceWrongFalsely : Prop := fnPutTwiceRow.holds Try.pinned (OpenSpec.ofChange fnPutTwiceWrong)

/-- 'laws.FnPutDrop': WHATEVER THE INPUT: true; the input reads as it did. -/
def fnPutDropSpec : ChangeSpec := { name := "fnPutDrop", fn := fun _ => fun
  | [d] => { results := [.lit (.bool true)], args := [d] }
  | _ => none }
def fnPutDropRow : OpenClaim := { program := "ytnipoaohkoancaa", sum := "c4a2a3ed43b899299e99daa2e53a2e4f1cd7bcce8b56186285a97afd7aa68016", func := "loop.example/fanoutlog/laws.FnPutDrop", spec := "fnPutDrop", apart := false }
def FnPutDropSaid : Prop := fnPutDropRow.holds Try.pinned (OpenSpec.ofChange fnPutDropSpec)

/-- ITS FALSE NEIGHBOUR: 'it returns false'. Refute it at one input. -/
def fnPutDropWrong : ChangeSpec := { name := "fnPutDrop", fn := fun _ => fun
  | [d] => { results := [.lit (.bool false)], args := [d] }
  | _ => none }
def FnPutDropWrongFalsely : Prop := fnPutDropRow.holds Try.pinned (OpenSpec.ofChange fnPutDropWrong)

/-- 'laws.FnDrop': WHATEVER THE INPUT: true; the input reads as it did. -/
def fnDropSpec : ChangeSpec := { name := "fnDrop", fn := fun _ => fun
  | [d] => { results := [.lit (.bool true)], args := [d] }
  | _ => none }
def fnDropRow : OpenClaim := { program := "ytnipoaohkoancaa", sum := "c4a2a3ed43b899299e99daa2e53a2e4f1cd7bcce8b56186285a97afd7aa68016", func := "loop.example/fanoutlog/laws.FnDrop", spec := "fnDrop", apart := false }
def FnDropSaid : Prop := fnDropRow.holds Try.pinned (OpenSpec.ofChange fnDropSpec)

/-- ITS FALSE NEIGHBOUR: 'it returns false'. Refute it at one input. -/
def fnDropWrong : ChangeSpec := { name := "fnDrop", fn := fun _ => fun
  | [d] => { results := [.lit (.bool false)], args := [d] }
  | _ => none }
def FnDropWrongFalsely : Prop := fnDropRow.holds Try.pinned (OpenSpec.ofChange fnDropWrong)

/-- 'laws.FnDropPut': WHATEVER THE INPUT: true; the input reads as it did. -/
def fnDropPutSpec : ChangeSpec := { name := "fnDropPut", fn := fun _ => fun
  | [d] => { results := [.lit (.bool true)], args := [d] }
  | _ => none }
def fnDropPutRow : OpenClaim := { program := "ytnipoaohkoancaa", sum := "c4a2a3ed43b899299e99daa2e53a2e4f1cd7bcce8b56186285a97afd7aa68016", func := "loop.example/fanoutlog/laws.FnDropPut", spec := "fnDropPut", apart := false }
def FnDropPutSaid : Prop := fnDropPutRow.holds Try.pinned (OpenSpec.ofChange fnDropPutSpec)

/-- ITS FALSE NEIGHBOUR: 'it returns false'. Refute it at one input. -/
def fnDropPutWrong : ChangeSpec := { name := "fnDropPut", fn := fun _ => fun
  | [d] => { results := [.lit (.bool false)], args := [d] }
  | _ => none }
def FnDropPutWrongFalsely : Prop := fnDropPutRow.holds Try.pinned (OpenSpec.ofChange fnDropPutWrong)

/-- 'laws.FnName': WHATEVER THE INPUT: true; the input reads as it did. -/
def fnNameSpec : ChangeSpec := { name := "fnName", fn := fun _ => fun
  | [d] => { results := [.lit (.bool true)], args := [d] }
  | _ => none }
def fnNameRow : OpenClaim := { program := "ytnipoaohkoancaa", sum := "c4a2a3ed43b899299e99daa2e53a2e4f1cd7bcce8b56186285a97afd7aa68016", func := "loop.example/fanoutlog/laws.FnName", spec := "fnName", apart := false }
def FnNameSaid : Prop := fnNameRow.holds Try.pinned (OpenSpec.ofChange fnNameSpec)

/-- ITS FALSE NEIGHBOUR: 'it returns false'. Refute it at one input. -/
def fnNameWrong : ChangeSpec := { name := "fnName", fn := fun _ => fun
  | [d] => { results := [.lit (.bool false)], args := [d] }
  | _ => none }
def FnNameWrongFalsely : Prop := fnNameRow.holds Try.pinned (OpenSpec.ofChange fnNameWrong)

/-- 'laws.FnNames': WHATEVER THE INPUT: true; the input reads as it did. -/
def fnNamesSpec : ChangeSpec := { name := "fnNames", fn := fun _ => fun
  | [d1, d2] => { results := [.lit (.bool true)], args := [d1, d2] }
  | _ => none }
def fnNamesRow : OpenClaim := { program := "ytnipoaohkoancaa", sum := "c4a2a3ed43b899299e99daa2e53a2e4f1cd7bcce8b56186285a97afd7aa68016", func := "loop.example/fanoutlog/laws.FnNames", spec := "fnNames", apart := false }
def FnNamesSaid : Prop := fnNamesRow.holds Try.pinned (OpenSpec.ofChange fnNamesSpec)

/-- ITS FALSE NEIGHBOUR: 'it returns false'. Refute it at one input. -/
def fnNamesWrong : ChangeSpec := { name := "fnNames", fn := fun _ => fun
  | [d1, d2] => { results := [.lit (.bool false)], args := [d1, d2] }
  | _ => none }
def FnNamesWrongFalsely : Prop := fnNamesRow.holds Try.pinned (OpenSpec.ofChange fnNamesWrong)

/-- 'laws.FnPutRoom': WHATEVER THE INPUT: true; the input reads as it did. -/
def fnPutRoomSpec : ChangeSpec := { name := "fnPutRoom", fn := fun _ => fun
  | [d1, d2] => { results := [.lit (.bool true)], args := [d1, d2] }
  | _ => none }
def fnPutRoomRow : OpenClaim := { program := "ytnipoaohkoancaa", sum := "c4a2a3ed43b899299e99daa2e53a2e4f1cd7bcce8b56186285a97afd7aa68016", func := "loop.example/fanoutlog/laws.FnPutRoom", spec := "fnPutRoom", apart := false }
def FnPutRoomSaid : Prop := fnPutRoomRow.holds Try.pinned (OpenSpec.ofChange fnPutRoomSpec)

/-- ITS FALSE NEIGHBOUR: 'it returns false'. Refute it at one input. -/
def fnPutRoomWrong : ChangeSpec := { name := "fnPutRoom", fn := fun _ => fun
  | [d1, d2] => { results := [.lit (.bool false)], args := [d1, d2] }
  | _ => none }
def FnPutRoomWrongFalsely : Prop := fnPutRoomRow.holds Try.pinned (OpenSpec.ofChange fnPutRoomWrong)

/-- 'laws.FnDropOne': WHATEVER THE INPUT: true; the input reads as it did. -/
def fnDropOneSpec : ChangeSpec := { name := "fnDropOne", fn := fun _ => fun
  | [d] => { results := [.lit (.bool true)], args := [d] }
  | _ => none }
def fnDropOneRow : OpenClaim := { program := "ytnipoaohkoancaa", sum := "c4a2a3ed43b899299e99daa2e53a2e4f1cd7bcce8b56186285a97afd7aa68016", func := "loop.example/fanoutlog/laws.FnDropOne", spec := "fnDropOne", apart := false }
def FnDropOneSaid : Prop := fnDropOneRow.holds Try.pinned (OpenSpec.ofChange fnDropOneSpec)

/-- ITS FALSE NEIGHBOUR: 'it returns false'. Refute it at one input. -/
def fnDropOneWrong : ChangeSpec := { name := "fnDropOne", fn := fun _ => fun
  | [d] => { results := [.lit (.bool false)], args := [d] }
  | _ => none }
def FnDropOneWrongFalsely : Prop := fnDropOneRow.holds Try.pinned (OpenSpec.ofChange fnDropOneWrong)

/-- 'laws.FnExactNameValid': WHATEVER THE INPUT: true; the input reads as it did. -/
def fnExactNameValidSpec : ChangeSpec := { name := "fnExactNameValid", fn := fun _ => fun
  | [d] => { results := [.lit (.bool true)], args := [d] }
  | _ => none }
def fnExactNameValidRow : OpenClaim := { program := "ytnipoaohkoancaa", sum := "c4a2a3ed43b899299e99daa2e53a2e4f1cd7bcce8b56186285a97afd7aa68016", func := "loop.example/fanoutlog/laws.FnExactNameValid", spec := "fnExactNameValid", apart := false }
def FnExactNameValidSaid : Prop := fnExactNameValidRow.holds Try.pinned (OpenSpec.ofChange fnExactNameValidSpec)

/-- ITS FALSE NEIGHBOUR: 'it returns false'. Refute it at one input. -/
def fnExactNameValidWrong : ChangeSpec := { name := "fnExactNameValid", fn := fun _ => fun
  | [d] => { results := [.lit (.bool false)], args := [d] }
  | _ => none }
def FnExactNameValidWrongFalsely : Prop := fnExactNameValidRow.holds Try.pinned (OpenSpec.ofChange fnExactNameValidWrong)

/-- 'laws.FnExactNamesValid': WHATEVER THE INPUT: true; the input reads as it did. -/
def fnExactNamesValidSpec : ChangeSpec := { name := "fnExactNamesValid", fn := fun _ => fun
  | [d] => { results := [.lit (.bool true)], args := [d] }
  | _ => none }
def fnExactNamesValidRow : OpenClaim := { program := "ytnipoaohkoancaa", sum := "c4a2a3ed43b899299e99daa2e53a2e4f1cd7bcce8b56186285a97afd7aa68016", func := "loop.example/fanoutlog/laws.FnExactNamesValid", spec := "fnExactNamesValid", apart := false }
def FnExactNamesValidSaid : Prop := fnExactNamesValidRow.holds Try.pinned (OpenSpec.ofChange fnExactNamesValidSpec)

/-- ITS FALSE NEIGHBOUR: 'it returns false'. Refute it at one input. -/
def fnExactNamesValidWrong : ChangeSpec := { name := "fnExactNamesValid", fn := fun _ => fun
  | [d] => { results := [.lit (.bool false)], args := [d] }
  | _ => none }
def FnExactNamesValidWrongFalsely : Prop := fnExactNamesValidRow.holds Try.pinned (OpenSpec.ofChange fnExactNamesValidWrong)

/- THE SECOND FORM. 'bulk': how many values and letters a reading holds, each counted each time it is reached (what is shared counts as often as it is met; a slice's spare places count too). A statement '..UptoSaid' is the law's where the arguments, and the package variables that the reading takes, are together of bulk at most 1048576: NARROWER than '..Said'. Prove '..Said' where nothing that the law and all that it calls make is longer than what came in: it says more and counts as full. Else prove '..UptoSaid'. A law counts once. -/
mutual
def uptoBulk {H : Type} : DataW H → Nat
  | .lit (.string bytes) => bytes.length + 1
  | .lit _ => 1
  | .nil => 1
  | .ptr d => uptoBulk d + 1
  | .slice elems spare => uptoBulkAll elems + uptoBulkAll spare + 1
  | .agg parts => uptoBulkAll parts + 1
  | .iface _ d => uptoBulk d + 1
  | .map entries => uptoBulkEntries entries + 1
  | .held _ => 1
def uptoBulkAll {H : Type} : List (DataW H) → Nat
  | [] => 0
  | d :: r => uptoBulk d + uptoBulkAll r
def uptoBulkEntries {H : Type} : List (Lit × DataW H) → Nat
  | [] => 0
  | x :: r => uptoBulkEntry x + uptoBulkEntries r
def uptoBulkEntry {H : Type} : Lit × DataW H → Nat
  | (.string bytes, d) => bytes.length + uptoBulk d + 1
  | (_, d) => uptoBulk d + 1
 end
def uptoSmall : (H : Type) → List (DataW H) → Bool := fun _ ds => decide (uptoBulkAll ds ≤ 1048576)
def OpenSpec.upto (s : _root_.Go.ChangeSpec) : _root_.Go.OpenSpec := { _root_.Go.OpenSpec.ofChange s with cond := some uptoSmall }

/-- 'laws.FnPut', WHERE WHAT IT READS IS OF BULK AT MOST 1048576: true; the input reads as it did. -/
def fnPutUptoRow : OpenClaim := { program := "ytnipoaohkoancaa", sum := "c4a2a3ed43b899299e99daa2e53a2e4f1cd7bcce8b56186285a97afd7aa68016", func := "loop.example/fanoutlog/laws.FnPut", spec := "fnPut", apart := false, narrowed := true }
def FnPutUptoSaid : Prop := fnPutUptoRow.holds Try.pinned (OpenSpec.upto fnPutSpec)

/-- 'laws.FnPutOthers', WHERE WHAT IT READS IS OF BULK AT MOST 1048576: true; the input reads as it did. -/
def fnPutOthersUptoRow : OpenClaim := { program := "ytnipoaohkoancaa", sum := "c4a2a3ed43b899299e99daa2e53a2e4f1cd7bcce8b56186285a97afd7aa68016", func := "loop.example/fanoutlog/laws.FnPutOthers", spec := "fnPutOthers", apart := false, narrowed := true }
def FnPutOthersUptoSaid : Prop := fnPutOthersUptoRow.holds Try.pinned (OpenSpec.upto fnPutOthersSpec)

/-- 'laws.FnPutTwice', WHERE WHAT IT READS IS OF BULK AT MOST 1048576: true; the input reads as it did. -/
def fnPutTwiceUptoRow : OpenClaim := { program := "ytnipoaohkoancaa", sum := "c4a2a3ed43b899299e99daa2e53a2e4f1cd7bcce8b56186285a97afd7aa68016", func := "loop.example/fanoutlog/laws.FnPutTwice", spec := "fnPutTwice", apart := false, narrowed := true }
def FnPutTwiceUptoSaid : Prop := fnPutTwiceUptoRow.holds Try.pinned (OpenSpec.upto fnPutTwiceSpec)

/-- 'laws.FnPutDrop', WHERE WHAT IT READS IS OF BULK AT MOST 1048576: true; the input reads as it did. -/
def fnPutDropUptoRow : OpenClaim := { program := "ytnipoaohkoancaa", sum := "c4a2a3ed43b899299e99daa2e53a2e4f1cd7bcce8b56186285a97afd7aa68016", func := "loop.example/fanoutlog/laws.FnPutDrop", spec := "fnPutDrop", apart := false, narrowed := true }
def FnPutDropUptoSaid : Prop := fnPutDropUptoRow.holds Try.pinned (OpenSpec.upto fnPutDropSpec)

/-- 'laws.FnDrop', WHERE WHAT IT READS IS OF BULK AT MOST 1048576: true; the input reads as it did. -/
def fnDropUptoRow : OpenClaim := { program := "ytnipoaohkoancaa", sum := "c4a2a3ed43b899299e99daa2e53a2e4f1cd7bcce8b56186285a97afd7aa68016", func := "loop.example/fanoutlog/laws.FnDrop", spec := "fnDrop", apart := false, narrowed := true }
def FnDropUptoSaid : Prop := fnDropUptoRow.holds Try.pinned (OpenSpec.upto fnDropSpec)

/-- 'laws.FnDropPut', WHERE WHAT IT READS IS OF BULK AT MOST 1048576: true; the input reads as it did. -/
def fnDropPutUptoRow : OpenClaim := { program := "ytnipoaohkoancaa", sum := "c4a2a3ed43b899299e99daa2e53a2e4f1cd7bcce8b56186285a97afd7aa68016", func := "loop.example/fanoutlog/laws.FnDropPut", spec := "fnDropPut", apart := false, narrowed := true }
def FnDropPutUptoSaid : Prop := fnDropPutUptoRow.holds Try.pinned (OpenSpec.upto fnDropPutSpec)

/-- 'laws.FnName', WHERE WHAT IT READS IS OF BULK AT MOST 1048576: true; the input reads as it did. -/
def fnNameUptoRow : OpenClaim := { program := "ytnipoaohkoancaa", sum := "c4a2a3ed43b899299e99daa2e53a2e4f1cd7bcce8b56186285a97afd7aa68016", func := "loop.example/fanoutlog/laws.FnName", spec := "fnName", apart := false, narrowed := true }
def FnNameUptoSaid : Prop := fnNameUptoRow.holds Try.pinned (OpenSpec.upto fnNameSpec)

/-- 'laws.FnNames', WHERE WHAT IT READS IS OF BULK AT MOST 1048576: true; the input reads as it did. -/
def fnNamesUptoRow : OpenClaim := { program := "ytnipoaohkoancaa", sum := "c4a2a3ed43b899299e99daa2e53a2e4f1cd7bcce8b56186285a97afd7aa68016", func := "loop.example/fanoutlog/laws.FnNames", spec := "fnNames", apart := false, narrowed := true }
def FnNamesUptoSaid : Prop := fnNamesUptoRow.holds Try.pinned (OpenSpec.upto fnNamesSpec)

/-- 'laws.FnPutRoom', WHERE WHAT IT READS IS OF BULK AT MOST 1048576: true; the input reads as it did. -/
def fnPutRoomUptoRow : OpenClaim := { program := "ytnipoaohkoancaa", sum := "c4a2a3ed43b899299e99daa2e53a2e4f1cd7bcce8b56186285a97afd7aa68016", func := "loop.example/fanoutlog/laws.FnPutRoom", spec := "fnPutRoom", apart := false, narrowed := true }
def FnPutRoomUptoSaid : Prop := fnPutRoomUptoRow.holds Try.pinned (OpenSpec.upto fnPutRoomSpec)

/-- 'laws.FnDropOne', WHERE WHAT IT READS IS OF BULK AT MOST 1048576: true; the input reads as it did. -/
def fnDropOneUptoRow : OpenClaim := { program := "ytnipoaohkoancaa", sum := "c4a2a3ed43b899299e99daa2e53a2e4f1cd7bcce8b56186285a97afd7aa68016", func := "loop.example/fanoutlog/laws.FnDropOne", spec := "fnDropOne", apart := false, narrowed := true }
def FnDropOneUptoSaid : Prop := fnDropOneUptoRow.holds Try.pinned (OpenSpec.upto fnDropOneSpec)

/-- 'laws.FnExactNameValid', WHERE WHAT IT READS IS OF BULK AT MOST 1048576: true; the input reads as it did. -/
def fnExactNameValidUptoRow : OpenClaim := { program := "ytnipoaohkoancaa", sum := "c4a2a3ed43b899299e99daa2e53a2e4f1cd7bcce8b56186285a97afd7aa68016", func := "loop.example/fanoutlog/laws.FnExactNameValid", spec := "fnExactNameValid", apart := false, narrowed := true }
def FnExactNameValidUptoSaid : Prop := fnExactNameValidUptoRow.holds Try.pinned (OpenSpec.upto fnExactNameValidSpec)

/-- 'laws.FnExactNamesValid', WHERE WHAT IT READS IS OF BULK AT MOST 1048576: true; the input reads as it did. -/
def fnExactNamesValidUptoRow : OpenClaim := { program := "ytnipoaohkoancaa", sum := "c4a2a3ed43b899299e99daa2e53a2e4f1cd7bcce8b56186285a97afd7aa68016", func := "loop.example/fanoutlog/laws.FnExactNamesValid", spec := "fnExactNamesValid", apart := false, narrowed := true }
def FnExactNamesValidUptoSaid : Prop := fnExactNamesValidUptoRow.holds Try.pinned (OpenSpec.upto fnExactNamesValidSpec)

end Rows
end Go.Proofs.Ytnipoaohkoancaa
