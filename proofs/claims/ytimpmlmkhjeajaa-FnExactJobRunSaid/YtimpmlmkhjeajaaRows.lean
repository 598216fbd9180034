/-
  No cell of these rows narrows 'for every input' (looked for: loops, veiled, ifaces, maps, wideKeys, modest, calm, conditions, laid).
  DERIVED. THE GIVEN ROWS OF THIS SEAT. 16 by the template 'for every input the law returns true; each argument reads behind the call as it read before'; 0 by the template 'total and deterministic' (their statements: YtimpmlmkhjeajaaTotals.lean).
  GIVEN WITH THE SEED: the statements are not yours to turn. If you find one false, say at which input.
  Laid BY PROGRAM, IN A SANDBOX (cutbox-rows.mjs): the forced cells as the released guide's own fill.sh prints them over the translation 78ec1cb68d0482d1… (all of the seat's roots in one cut). By AI agents, Wed Nov 11 2026. No macro, syntax, notation, axiom, sorry.
-/
import Derived.Test.YtimpmlmkhjeajaaChecked
import GoSem.Claim
import GoSem.ClaimJoined
import GoSem.ClaimMapViews
import Derived.JoinedTies
import Derived.KernelRfl
namespace Go.Proofs.Ytimpmlmkhjeajaa
/- THE CELL 'sum', in the pinned program and in every row, IS THE sha256 OF THE DUMP (.gsa) THAT YtimpmlmkhjeajaaProg.lean LOADS. Nothing in Lean hashes anything: it is a label: what it is worth is what the hold of that sum in a sandbox is worth. -/
noncomputable def Try.pinned : Pinned := { name := "ytimpmlmkhjeajaa", sum := "78ec1cb68d0482d150787a395868a15008e56af275a81905005f7068847f9873", checked := Try.checked }
namespace Rows
def none {H : Type} : Left H := { results := [], args := [] }

/-- 'laws.FnJobNew': WHATEVER THE INPUT: true; the input reads as it did. -/
def fnJobNewSpec : ChangeSpec := { name := "fnJobNew", fn := fun _ => fun
  | [d] => { results := [.lit (.bool true)], args := [d] }
  | _ => none }
def fnJobNewRow : OpenClaim := { program := "ytimpmlmkhjeajaa", sum := "78ec1cb68d0482d150787a395868a15008e56af275a81905005f7068847f9873", func := "loop.example/fanoutlog/laws.FnJobNew", spec := "fnJobNew", apart := false }
def FnJobNewSaid : Prop := fnJobNewRow.holds Try.pinned (OpenSpec.ofChange fnJobNewSpec)

/-- ITS FALSE NEIGHBOUR: 'it returns false'. Refute it at one input. -/
def fnJobNewWrong : ChangeSpec := { name := "fnJobNew", fn := fun _ => fun
  | [d] => { results := [.lit (.bool false)], args := [d] }
  | _ => none }
def FnJobNewWrongFalsely : Prop := fnJobNewRow.holds Try.pinned (OpenSpec.ofChange fnJobNewWrong)

/-- 'laws.FnJobNext': WHATEVER THE INPUT: true; the input reads as it did. -/
def fnJobNextSpec : ChangeSpec := { name := "fnJobNext", fn := fun _ => fun
  | [d] => { results := [.lit (.bool true)], args := [d] }
  | _ => none }
def fnJobNextRow : OpenClaim := { program := "ytimpmlmkhjeajaa", sum := "78ec1cb68d0482d150787a395868a15008e56af275a81905005f7068847f9873", func := "loop.example/fanoutlog/laws.FnJobNext", spec := "fnJobNext", unfollowed := true, recurses := true, apart := false }
def FnJobNextSaid : Prop := fnJobNextRow.holds Try.pinned (OpenSpec.ofChange fnJobNextSpec)

/-- ITS FALSE NEIGHBOUR: 'it returns false'. Refute it at one input. -/
def fnJobNextWrong : ChangeSpec := { name := "fnJobNext", fn := fun _ => fun
  | [d] => { results := [.lit (.bool false)], args := [d] }
  | _ => none }
def FnJobNextWrongFalsely : Prop := fnJobNextRow.holds Try.pinned (OpenSpec.ofChange fnJobNextWrong)

/-- 'laws.FnJobNextSame': WHATEVER THE INPUT: true; the input reads as it did. -/
def fnJobNextSameSpec : ChangeSpec := { name := "fnJobNextSame", fn := fun _ => fun
  | [d] => { results := [.lit (.bool true)], args := [d] }
  | _ => none }
def fnJobNextSameRow : OpenClaim := { program := "ytimpmlmkhjeajaa", sum := "78ec1cb68d0482d150787a395868a15008e56af275a81905005f7068847f9873", func := "loop.example/fanoutlog/laws.FnJobNextSame", spec := "fnJobNextSame", unfollowed := true, recurses := true, apart := false }
def FnJobNextSameSaid : Prop := fnJobNextSameRow.holds Try.pinned (OpenSpec.ofChange fnJobNextSameSpec)

/-- ITS FALSE NEIGHBOUR: 'it returns false'. Refute it at one input. -/
def fnJobNextSameWrong : ChangeSpec := { name := "fnJobNextSame", fn := fun _ => fun
  | [d] => { results := [.lit (.bool false)], args := [d] }
  | _ => none }
def FnJobNextSameWrongFalsely : Prop := fnJobNextSameRow.holds Try.pinned (OpenSpec.ofChange fnJobNextSameWrong)

/-- 'laws.FnJobNextOn': WHATEVER THE INPUT: true; the input reads as it did. -/
def fnJobNextOnSpec : ChangeSpec := { name := "fnJobNextOn", fn := fun _ => fun
  | [d1, d2] => { results := [.lit (.bool true)], args := [d1, d2] }
  | _ => none }
def fnJobNextOnRow : OpenClaim := { program := "ytimpmlmkhjeajaa", sum := "78ec1cb68d0482d150787a395868a15008e56af275a81905005f7068847f9873", func := "loop.example/fanoutlog/laws.FnJobNextOn", spec := "fnJobNextOn", unfollowed := true, recurses := true, apart := false }
def FnJobNextOnSaid : Prop := fnJobNextOnRow.holds Try.pinned (OpenSpec.ofChange fnJobNextOnSpec)

/-- ITS FALSE NEIGHBOUR: 'it returns false'. Refute it at one input. -/
def fnJobNextOnWrong : ChangeSpec := { name := "fnJobNextOn", fn := fun _ => fun
  | [d1, d2] => { results := [.lit (.bool false)], args := [d1, d2] }
  | _ => none }
def FnJobNextOnWrongFalsely : Prop := fnJobNextOnRow.holds Try.pinned (OpenSpec.ofChange fnJobNextOnWrong)

/-- 'laws.FnJobRun': WHATEVER THE INPUT: true; the input reads as it did. -/
def fnJobRunSpec : ChangeSpec := { name := "fnJobRun", fn := fun _ => fun
  | [d] => { results := [.lit (.bool true)], args := [d] }
  | _ => none }
def fnJobRunRow : OpenClaim := { program := "ytimpmlmkhjeajaa", sum := "78ec1cb68d0482d150787a395868a15008e56af275a81905005f7068847f9873", func := "loop.example/fanoutlog/laws.FnJobRun", spec := "fnJobRun", inPlace := ["internal/bytealg.abigen_runtime_cmpstring", "slices.overlaps[loop.example/fanoutlog/impl.Box]"], unfollowed := true, recurses := true, apart := false }
def FnJobRunSaid : Prop := fnJobRunRow.holds Try.pinned (OpenSpec.ofChange fnJobRunSpec)

/-- ITS FALSE NEIGHBOUR: 'it returns false'. Refute it at one input. -/
def fnJobRunWrong : ChangeSpec := { name := "fnJobRun", fn := fun _ => fun
  | [d] => { results := [.lit (.bool false)], args := [d] }
  | _ => none }
def FnJobRunWrongFalsely : Prop := fnJobRunRow.holds Try.pinned (OpenSpec.ofChange fnJobRunWrong)

/-- 'laws.FnJobRunOthers': WHATEVER THE INPUT: true; the input reads as it did. -/
def fnJobRunOthersSpec : ChangeSpec := { name := "fnJobRunOthers", fn := fun _ => fun
  | [d] => { results := [.lit (.bool true)], args := [d] }
  | _ => none }
def fnJobRunOthersRow : OpenClaim := { program := "ytimpmlmkhjeajaa", sum := "78ec1cb68d0482d150787a395868a15008e56af275a81905005f7068847f9873", func := "loop.example/fanoutlog/laws.FnJobRunOthers", spec := "fnJobRunOthers", inPlace := ["internal/bytealg.abigen_runtime_cmpstring", "slices.overlaps[loop.example/fanoutlog/impl.Box]"], unfollowed := true, recurses := true, apart := false }
def FnJobRunOthersSaid : Prop := fnJobRunOthersRow.holds Try.pinned (OpenSpec.ofChange fnJobRunOthersSpec)

/-- ITS FALSE NEIGHBOUR: 'it returns false'. Refute it at one input. -/
def fnJobRunOthersWrong : ChangeSpec := { name := "fnJobRunOthers", fn := fun _ => fun
  | [d] => { results := [.lit (.bool false)], args := [d] }
  | _ => none }
def FnJobRunOthersWrongFalsely : Prop := fnJobRunOthersRow.holds Try.pinned (OpenSpec.ofChange fnJobRunOthersWrong)

/-- 'laws.FnJobRunAgain': WHATEVER THE INPUT: true; the input reads as it did. -/
def fnJobRunAgainSpec : ChangeSpec := { name := "fnJobRunAgain", fn := fun _ => fun
  | [d] => { results := [.lit (.bool true)], args := [d] }
  | _ => none }
def fnJobRunAgainRow : OpenClaim := { program := "ytimpmlmkhjeajaa", sum := "78ec1cb68d0482d150787a395868a15008e56af275a81905005f7068847f9873", func := "loop.example/fanoutlog/laws.FnJobRunAgain", spec := "fnJobRunAgain", inPlace := ["internal/bytealg.abigen_runtime_cmpstring", "slices.overlaps[loop.example/fanoutlog/impl.Box]"], unfollowed := true, recurses := true, apart := false }
def FnJobRunAgainSaid : Prop := fnJobRunAgainRow.holds Try.pinned (OpenSpec.ofChange fnJobRunAgainSpec)

/-- ITS FALSE NEIGHBOUR: 'it returns false'. Refute it at one input. -/
def fnJobRunAgainWrong : ChangeSpec := { name := "fnJobRunAgain", fn := fun _ => fun
  | [d] => { results := [.lit (.bool false)], args := [d] }
  | _ => none }
def FnJobRunAgainWrongFalsely : Prop := fnJobRunAgainRow.holds Try.pinned (OpenSpec.ofChange fnJobRunAgainWrong)

/-- 'laws.FnJobRunOn': WHATEVER THE INPUT: true; the input reads as it did. -/
def fnJobRunOnSpec : ChangeSpec := { name := "fnJobRunOn", fn := fun _ => fun
  | [d1, d2] => { results := [.lit (.bool true)], args := [d1, d2] }
  | _ => none }
def fnJobRunOnRow : OpenClaim := { program := "ytimpmlmkhjeajaa", sum := "78ec1cb68d0482d150787a395868a15008e56af275a81905005f7068847f9873", func := "loop.example/fanoutlog/laws.FnJobRunOn", spec := "fnJobRunOn", inPlace := ["internal/bytealg.abigen_runtime_cmpstring", "slices.overlaps[loop.example/fanoutlog/impl.Box]"], unfollowed := true, recurses := true, apart := false }
def FnJobRunOnSaid : Prop := fnJobRunOnRow.holds Try.pinned (OpenSpec.ofChange fnJobRunOnSpec)

/-- ITS FALSE NEIGHBOUR: 'it returns false'. Refute it at one input. -/
def fnJobRunOnWrong : ChangeSpec := { name := "fnJobRunOn", fn := fun _ => fun
  | [d1, d2] => { results := [.lit (.bool false)], args := [d1, d2] }
  | _ => none }
def FnJobRunOnWrongFalsely : Prop := fnJobRunOnRow.holds Try.pinned (OpenSpec.ofChange fnJobRunOnWrong)

/-- 'laws.FnJob': WHATEVER THE INPUT: true; the input reads as it did. -/
def fnJobSpec : ChangeSpec := { name := "fnJob", fn := fun _ => fun
  | [d] => { results := [.lit (.bool true)], args := [d] }
  | _ => none }
def fnJobRow : OpenClaim := { program := "ytimpmlmkhjeajaa", sum := "78ec1cb68d0482d150787a395868a15008e56af275a81905005f7068847f9873", func := "loop.example/fanoutlog/laws.FnJob", spec := "fnJob", apart := false }
def FnJobSaid : Prop := fnJobRow.holds Try.pinned (OpenSpec.ofChange fnJobSpec)

/-- ITS FALSE NEIGHBOUR: 'it returns false'. Refute it at one input. -/
def fnJobWrong : ChangeSpec := { name := "fnJob", fn := fun _ => fun
  | [d] => { results := [.lit (.bool false)], args := [d] }
  | _ => none }
def FnJobWrongFalsely : Prop := fnJobRow.holds Try.pinned (OpenSpec.ofChange fnJobWrong)

/-- 'laws.FnJobNextAll': WHATEVER THE INPUT: true; the input reads as it did. -/
def fnJobNextAllSpec : ChangeSpec := { name := "fnJobNextAll", fn := fun _ => fun
  | [d] => { results := [.lit (.bool true)], args := [d] }
  | _ => none }
def fnJobNextAllRow : OpenClaim := { program := "ytimpmlmkhjeajaa", sum := "78ec1cb68d0482d150787a395868a15008e56af275a81905005f7068847f9873", func := "loop.example/fanoutlog/laws.FnJobNextAll", spec := "fnJobNextAll", unfollowed := true, recurses := true, apart := false }
def FnJobNextAllSaid : Prop := fnJobNextAllRow.holds Try.pinned (OpenSpec.ofChange fnJobNextAllSpec)

/-- ITS FALSE NEIGHBOUR: 'it returns false'. Refute it at one input. -/
def fnJobNextAllWrong : ChangeSpec := { name := "fnJobNextAll", fn := fun _ => fun
  | [d] => { results := [.lit (.bool false)], args := [d] }
  | _ => none }
def FnJobNextAllWrongFalsely : Prop := fnJobNextAllRow.holds Try.pinned (OpenSpec.ofChange fnJobNextAllWrong)

/-- 'laws.FnJobRunNone': WHATEVER THE INPUT: true; the input reads as it did. -/
def fnJobRunNoneSpec : ChangeSpec := { name := "fnJobRunNone", fn := fun _ => fun
  | [d] => { results := [.lit (.bool true)], args := [d] }
  | _ => none }
def fnJobRunNoneRow : OpenClaim := { program := "ytimpmlmkhjeajaa", sum := "78ec1cb68d0482d150787a395868a15008e56af275a81905005f7068847f9873", func := "loop.example/fanoutlog/laws.FnJobRunNone", spec := "fnJobRunNone", inPlace := ["internal/bytealg.abigen_runtime_cmpstring", "slices.overlaps[loop.example/fanoutlog/impl.Box]"], unfollowed := true, recurses := true, apart := false }
def FnJobRunNoneSaid : Prop := fnJobRunNoneRow.holds Try.pinned (OpenSpec.ofChange fnJobRunNoneSpec)

/-- ITS FALSE NEIGHBOUR: 'it returns false'. Refute it at one input. -/
def fnJobRunNoneWrong : ChangeSpec := { name := "fnJobRunNone", fn := fun _ => fun
  | [d] => { results := [.lit (.bool false)], args := [d] }
  | _ => none }
def FnJobRunNoneWrongFalsely : Prop := fnJobRunNoneRow.holds Try.pinned (OpenSpec.ofChange fnJobRunNoneWrong)

/-- 'laws.FnJobNewNext': WHATEVER THE INPUT: true; the input reads as it did. -/
def fnJobNewNextSpec : ChangeSpec := { name := "fnJobNewNext", fn := fun _ => fun
  | [d] => { results := [.lit (.bool true)], args := [d] }
  | _ => none }
def fnJobNewNextRow : OpenClaim := { program := "ytimpmlmkhjeajaa", sum := "78ec1cb68d0482d150787a395868a15008e56af275a81905005f7068847f9873", func := "loop.example/fanoutlog/laws.FnJobNewNext", spec := "fnJobNewNext", unfollowed := true, recurses := true, apart := false }
def FnJobNewNextSaid : Prop := fnJobNewNextRow.holds Try.pinned (OpenSpec.ofChange fnJobNewNextSpec)

/-- ITS FALSE NEIGHBOUR: 'it returns false'. Refute it at one input. -/
def fnJobNewNextWrong : ChangeSpec := { name := "fnJobNewNext", fn := fun _ => fun
  | [d] => { results := [.lit (.bool false)], args := [d] }
  | _ => none }
def FnJobNewNextWrongFalsely : Prop := fnJobNewNextRow.holds Try.pinned (OpenSpec.ofChange fnJobNewNextWrong)

/-- 'laws.FnExactJobValid': WHATEVER THE INPUT: true; the input reads as it did. -/
def fnExactJobValidSpec : ChangeSpec := { name := "fnExactJobValid", fn := fun _ => fun
  | [d] => { results := [.lit (.bool true)], args := [d] }
  | _ => none }
def fnExactJobValidRow : OpenClaim := { program := "ytimpmlmkhjeajaa", sum := "78ec1cb68d0482d150787a395868a15008e56af275a81905005f7068847f9873", func := "loop.example/fanoutlog/laws.FnExactJobValid", spec := "fnExactJobValid", apart := false }
def FnExactJobValidSaid : Prop := fnExactJobValidRow.holds Try.pinned (OpenSpec.ofChange fnExactJobValidSpec)

/-- ITS FALSE NEIGHBOUR: 'it returns false'. Refute it at one input. -/
def fnExactJobValidWrong : ChangeSpec := { name := "fnExactJobValid", fn := fun _ => fun
  | [d] => { results := [.lit (.bool false)], args := [d] }
  | _ => none }
def FnExactJobValidWrongFalsely : Prop := fnExactJobValidRow.holds Try.pinned (OpenSpec.ofChange fnExactJobValidWrong)

/-- 'laws.FnExactJobNew': WHATEVER THE INPUT: true; the input reads as it did. -/
def fnExactJobNewSpec : ChangeSpec := { name := "fnExactJobNew", fn := fun _ => fun
  | [d1, d2, d3] => { results := [.lit (.bool true)], args := [d1, d2, d3] }
  | _ => none }
def fnExactJobNewRow : OpenClaim := { program := "ytimpmlmkhjeajaa", sum := "78ec1cb68d0482d150787a395868a15008e56af275a81905005f7068847f9873", func := "loop.example/fanoutlog/laws.FnExactJobNew", spec := "fnExactJobNew", apart := false }
def FnExactJobNewSaid : Prop := fnExactJobNewRow.holds Try.pinned (OpenSpec.ofChange fnExactJobNewSpec)

/-- ITS FALSE NEIGHBOUR: 'it returns false'. Refute it at one input. -/
def fnExactJobNewWrong : ChangeSpec := { name := "fnExactJobNew", fn := fun _ => fun
  | [d1, d2, d3] => { results := [.lit (.bool false)], args := [d1, d2, d3] }
  | _ => none }
def FnExactJobNewWrongFalsely : Prop := fnExactJobNewRow.holds Try.pinned (OpenSpec.ofChange fnExactJobNewWrong)

/-- 'laws.FnExactJobNext': WHATEVER THE INPUT: true; the input reads as it did. -/
def fnExactJobNextSpec : ChangeSpec := { name := "fnExactJobNext", fn := fun _ => fun
  | [d1, d2] => { results := [.lit (.bool true)], args := [d1, d2] }
  | _ => none }
def fnExactJobNextRow : OpenClaim := { program := "ytimpmlmkhjeajaa", sum := "78ec1cb68d0482d150787a395868a15008e56af275a81905005f7068847f9873", func := "loop.example/fanoutlog/laws.FnExactJobNext", spec := "fnExactJobNext", unfollowed := true, recurses := true, apart := false }
def FnExactJobNextSaid : Prop := fnExactJobNextRow.holds Try.pinned (OpenSpec.ofChange fnExactJobNextSpec)

/-- ITS FALSE NEIGHBOUR: 'it returns false'. Refute it at one input. -/
def fnExactJobNextWrong : ChangeSpec := { name := "fnExactJobNext", fn := fun _ => fun
  | [d1, d2] => { results := [.lit (.bool false)], args := [d1, d2] }
  | _ => none }
def FnExactJobNextWrongFalsely : Prop := fnExactJobNextRow.holds Try.pinned (OpenSpec.ofChange fnExactJobNextWrong)

/-- 'laws.FnExactJobRun': WHATEVER THE INPUT: true; the input reads as it did. -/
def fnExactJobRunSpec : ChangeSpec := { name := "fnExactJobRun", fn := fun _ => fun
  | [d1, d2, d3] => { results := [.lit (.bool true)], args := [d1, d2, d3] }
  | _ => none }
def fnExactJobRunRow : OpenClaim := { program := "ytimpmlmkhjeajaa", sum := "78ec1cb68d0482d150787a395868a15008e56af275a81905005f7068847f9873", func := "loop.example/fanoutlog/laws.FnExactJobRun", spec := "fnExactJobRun", inPlace := ["internal/bytealg.abigen_runtime_cmpstring", "slices.overlaps[loop.example/fanoutlog/impl.Box]"], unfollowed := true, recurses := true, apart := false }
def FnExactJobRunSaid : Prop := fnExactJobRunRow.holds Try.pinned (OpenSpec.ofChange fnExactJobRunSpec)

/-- ITS FALSE NEIGHBOUR: 'it returns false'. Refute it at one input. -/
def fnExactJobRunWrong : ChangeSpec := { name := "fnExactJobRun", fn := fun _ => fun
  | [d1, d2, d3] => { results := [.lit (.bool false)], args := [d1, d2, d3] }
  | _ => none }
def FnExactJobRunWrongFalsely : Prop := fnExactJobRunRow.holds Try.pinned (OpenSpec.ofChange fnExactJobRunWrong)

/- THE SECOND FORM. 'bulk': how many values and letters a reading holds, each counted each time it is reached (what is shared counts as often as it is met; a slice's spare places count too). A statement '..UptoSaid' is the law's where the arguments, and the package variables that the reading takes, are together of bulk at most 1048576: NARROWER than '..Said'. Prove '..Said' where nothing that the law and all that it calls make is longer than what came in: it says more and counts as full. Else prove '..UptoSaid'. A law counts once. -/
mutual
def uptoBulk {H : Type} : DataW H → Nat
  | .lit (.string bytes) => bytes.length + 1
  | .lit _ => 1
  | .nil => 1
  | .ptr d => uptoBulk d + 1
  | .slice elems spare => uptoBulkAll elems + uptoBulkAll spare + 1
  | .agg parts => uptoBulkAll parts + 1
  | .iface _ d => uptoBulk d + 1
  | .map entries => uptoBulkEntries entries + 1
  | .held _ => 1
def uptoBulkAll {H : Type} : List (DataW H) → Nat
  | [] => 0
  | d :: r => uptoBulk d + uptoBulkAll r
def uptoBulkEntries {H : Type} : List (Lit × DataW H) → Nat
  | [] => 0
  | x :: r => uptoBulkEntry x + uptoBulkEntries r
def uptoBulkEntry {H : Type} : Lit × DataW H → Nat
  | (.string bytes, d) => bytes.length + uptoBulk d + 1
  | (_, d) => uptoBulk d + 1
 end
def uptoSmall : (H : Type) → List (DataW H) → Bool := fun _ ds => decide (uptoBulkAll ds ≤ 1048576)
def OpenSpec.upto (s : _root_.Go.ChangeSpec) : _root_.Go.OpenSpec := { _root_.Go.OpenSpec.ofChange s with cond := some uptoSmall }

/-- 'laws.FnJobNew', WHERE WHAT IT READS IS OF BULK AT MOST 1048576: true; the input reads as it did. -/
def fnJobNewUptoRow : OpenClaim := { program := "ytimpmlmkhjeajaa", sum := "78ec1cb68d0482d150787a395868a15008e56af275a81905005f7068847f9873", func := "loop.example/fanoutlog/laws.FnJobNew", spec := "fnJobNew", apart := false, narrowed := true }
def FnJobNewUptoSaid : Prop := fnJobNewUptoRow.holds Try.pinned (OpenSpec.upto fnJobNewSpec)

/-- 'laws.FnJobNext', WHERE WHAT IT READS IS OF BULK AT MOST 1048576: true; the input reads as it did. -/
def fnJobNextUptoRow : OpenClaim := { program := "ytimpmlmkhjeajaa", sum := "78ec1cb68d0482d150787a395868a15008e56af275a81905005f7068847f9873", func := "loop.example/fanoutlog/laws.FnJobNext", spec := "fnJobNext", unfollowed := true, recurses := true, apart := false, narrowed := true }
def FnJobNextUptoSaid : Prop := fnJobNextUptoRow.holds Try.pinned (OpenSpec.upto fnJobNextSpec)

/-- 'laws.FnJobNextSame', WHERE WHAT IT READS IS OF BULK AT MOST 1048576: true; the input reads as it did. -/
def fnJobNextSameUptoRow : OpenClaim := { program := "ytimpmlmkhjeajaa", sum := "78ec1cb68d0482d150787a395868a15008e56af275a81905005f7068847f9873", func := "loop.example/fanoutlog/laws.FnJobNextSame", spec := "fnJobNextSame", unfollowed := true, recurses := true, apart := false, narrowed := true }
def FnJobNextSameUptoSaid : Prop := fnJobNextSameUptoRow.holds Try.pinned (OpenSpec.upto fnJobNextSameSpec)

/-- 'laws.FnJobNextOn', WHERE WHAT IT READS IS OF BULK AT MOST 1048576: true; the input reads as it did. -/
def fnJobNextOnUptoRow : OpenClaim := { program := "ytimpmlmkhjeajaa", sum := "78ec1cb68d0482d150787a395868a15008e56af275a81905005f7068847f9873", func := "loop.example/fanoutlog/laws.FnJobNextOn", spec := "fnJobNextOn", unfollowed := true, recurses := true, apart := false, narrowed := true }
def FnJobNextOnUptoSaid : Prop := fnJobNextOnUptoRow.holds Try.pinned (OpenSpec.upto fnJobNextOnSpec)

/-- 'laws.FnJobRun', WHERE WHAT IT READS IS OF BULK AT MOST 1048576: true; the input reads as it did. -/
def fnJobRunUptoRow : OpenClaim := { program := "ytimpmlmkhjeajaa", sum := "78ec1cb68d0482d150787a395868a15008e56af275a81905005f7068847f9873", func := "loop.example/fanoutlog/laws.FnJobRun", spec := "fnJobRun", inPlace := ["internal/bytealg.abigen_runtime_cmpstring", "slices.overlaps[loop.example/fanoutlog/impl.Box]"], unfollowed := true, recurses := true, apart := false, narrowed := true }
def FnJobRunUptoSaid : Prop := fnJobRunUptoRow.holds Try.pinned (OpenSpec.upto fnJobRunSpec)

/-- 'laws.FnJobRunOthers', WHERE WHAT IT READS IS OF BULK AT MOST 1048576: true; the input reads as it did. -/
def fnJobRunOthersUptoRow : OpenClaim := { program := "ytimpmlmkhjeajaa", sum := "78ec1cb68d0482d150787a395868a15008e56af275a81905005f7068847f9873", func := "loop.example/fanoutlog/laws.FnJobRunOthers", spec := "fnJobRunOthers", inPlace := ["internal/bytealg.abigen_runtime_cmpstring", "slices.overlaps[loop.example/fanoutlog/impl.Box]"], unfollowed := true, recurses := true, apart := false, narrowed := true }
def FnJobRunOthersUptoSaid : Prop := fnJobRunOthersUptoRow.holds Try.pinned (OpenSpec.upto fnJobRunOthersSpec)

/-- 'laws.FnJobRunAgain', WHERE WHAT IT READS IS OF BULK AT MOST 1048576: true; the input reads as it did. -/
def fnJobRunAgainUptoRow : OpenClaim := { program := "ytimpmlmkhjeajaa", sum := "78ec1cb68d0482d150787a395868a15008e56af275a81905005f7068847f9873", func := "loop.example/fanoutlog/laws.FnJobRunAgain", spec := "fnJobRunAgain", inPlace := ["internal/bytealg.abigen_runtime_cmpstring", "slices.overlaps[loop.example/fanoutlog/impl.Box]"], unfollowed := true, recurses := true, apart := false, narrowed := true }
def FnJobRunAgainUptoSaid : Prop := fnJobRunAgainUptoRow.holds Try.pinned (OpenSpec.upto fnJobRunAgainSpec)

/-- 'laws.FnJobRunOn', WHERE WHAT IT READS IS OF BULK AT MOST 1048576: true; the input reads as it did. -/
def fnJobRunOnUptoRow : OpenClaim := { program := "ytimpmlmkhjeajaa", sum := "78ec1cb68d0482d150787a395868a15008e56af275a81905005f7068847f9873", func := "loop.example/fanoutlog/laws.FnJobRunOn", spec := "fnJobRunOn", inPlace := ["internal/bytealg.abigen_runtime_cmpstring", "slices.overlaps[loop.example/fanoutlog/impl.Box]"], unfollowed := true, recurses := true, apart := false, narrowed := true }
def FnJobRunOnUptoSaid : Prop := fnJobRunOnUptoRow.holds Try.pinned (OpenSpec.upto fnJobRunOnSpec)

/-- 'laws.FnJob', WHERE WHAT IT READS IS OF BULK AT MOST 1048576: true; the input reads as it did. -/
def fnJobUptoRow : OpenClaim := { program := "ytimpmlmkhjeajaa", sum := "78ec1cb68d0482d150787a395868a15008e56af275a81905005f7068847f9873", func := "loop.example/fanoutlog/laws.FnJob", spec := "fnJob", apart := false, narrowed := true }
def FnJobUptoSaid : Prop := fnJobUptoRow.holds Try.pinned (OpenSpec.upto fnJobSpec)

/-- 'laws.FnJobNextAll', WHERE WHAT IT READS IS OF BULK AT MOST 1048576: true; the input reads as it did. -/
def fnJobNextAllUptoRow : OpenClaim := { program := "ytimpmlmkhjeajaa", sum := "78ec1cb68d0482d150787a395868a15008e56af275a81905005f7068847f9873", func := "loop.example/fanoutlog/laws.FnJobNextAll", spec := "fnJobNextAll", unfollowed := true, recurses := true, apart := false, narrowed := true }
def FnJobNextAllUptoSaid : Prop := fnJobNextAllUptoRow.holds Try.pinned (OpenSpec.upto fnJobNextAllSpec)

/-- 'laws.FnJobRunNone', WHERE WHAT IT READS IS OF BULK AT MOST 1048576: true; the input reads as it did. -/
def fnJobRunNoneUptoRow : OpenClaim := { program := "ytimpmlmkhjeajaa", sum := "78ec1cb68d0482d150787a395868a15008e56af275a81905005f7068847f9873", func := "loop.example/fanoutlog/laws.FnJobRunNone", spec := "fnJobRunNone", inPlace := ["internal/bytealg.abigen_runtime_cmpstring", "slices.overlaps[loop.example/fanoutlog/impl.Box]"], unfollowed := true, recurses := true, apart := false, narrowed := true }
def FnJobRunNoneUptoSaid : Prop := fnJobRunNoneUptoRow.holds Try.pinned (OpenSpec.upto fnJobRunNoneSpec)

/-- 'laws.FnJobNewNext', WHERE WHAT IT READS IS OF BULK AT MOST 1048576: true; the input reads as it did. -/
def fnJobNewNextUptoRow : OpenClaim := { program := "ytimpmlmkhjeajaa", sum := "78ec1cb68d0482d150787a395868a15008e56af275a81905005f7068847f9873", func := "loop.example/fanoutlog/laws.FnJobNewNext", spec := "fnJobNewNext", unfollowed := true, recurses := true, apart := false, narrowed := true }
def FnJobNewNextUptoSaid : Prop := fnJobNewNextUptoRow.holds Try.pinned (OpenSpec.upto fnJobNewNextSpec)

/-- 'laws.FnExactJobValid', WHERE WHAT IT READS IS OF BULK AT MOST 1048576: true; the input reads as it did. -/
def fnExactJobValidUptoRow : OpenClaim := { program := "ytimpmlmkhjeajaa", sum := "78ec1cb68d0482d150787a395868a15008e56af275a81905005f7068847f9873", func := "loop.example/fanoutlog/laws.FnExactJobValid", spec := "fnExactJobValid", apart := false, narrowed := true }
def FnExactJobValidUptoSaid : Prop := fnExactJobValidUptoRow.holds Try.pinned (OpenSpec.upto fnExactJobValidSpec)

/-- 'laws.FnExactJobNew', WHERE WHAT IT READS IS OF BULK AT MOST 1048576: true; the input reads as it did. -/
def fnExactJobNewUptoRow : OpenClaim := { program := "ytimpmlmkhjeajaa", sum := "78ec1cb68d0482d150787a395868a15008e56af275a81905005f7068847f9873", func := "loop.example/fanoutlog/laws.FnExactJobNew", spec := "fnExactJobNew", apart := false, narrowed := true }
def FnExactJobNewUptoSaid : Prop := fnExactJobNewUptoRow.holds Try.pinned (OpenSpec.upto fnExactJobNewSpec)

/-- 'laws.FnExactJobNext', WHERE WHAT IT READS IS OF BULK AT MOST 1048576: true; the input reads as it did. -/
def fnExactJobNextUptoRow : OpenClaim := { program := "ytimpmlmkhjeajaa", sum := "78ec1cb68d0482d150787a395868a15008e56af275a81905005f7068847f9873", func := "loop.example/fanoutlog/laws.FnExactJobNext", spec := "fnExactJobNext", unfollowed := true, recurses := true, apart := false, narrowed := true }
def FnExactJobNextUptoSaid : Prop := fnExactJobNextUptoRow.holds Try.pinned (OpenSpec.upto fnExactJobNextSpec)

/-- 'laws.FnExactJobRun', WHERE WHAT IT READS IS OF BULK AT MOST 1048576: true; the input reads as it did. -/
def fnExactJobRunUptoRow : OpenClaim := { program := "ytimpmlmkhjeajaa", sum := "78ec1cb68d0482d150787a395868a15008e56af275a81905005f7068847f9873", func := "loop.example/fanoutlog/laws.FnExactJobRun", spec := "fnExactJobRun", inPlace := ["internal/bytealg.abigen_runtime_cmpstring", "slices.overlaps[loop.example/fanoutlog/impl.Box]"], unfollowed := true, recurses := true, apart := false, narrowed := true }
def FnExactJobRunUptoSaid : Prop := fnExactJobRunUptoRow.holds Try.pinned (OpenSpec.upto fnExactJobRunSpec)

end Rows
end Go.Proofs.Ytimpmlmkhjeajaa
