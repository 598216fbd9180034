/-
  No cell of these rows narrows 'for every input' (looked for: loops, veiled, ifaces, maps, wideKeys, modest, calm, conditions, laid).
  DERIVED. THE GIVEN ROWS OF THIS SEAT. 2 by the template 'for every input the law returns true; each argument reads behind the call as it read before'; 0 by the template 'total and deterministic' (their statements: YtiejbliadegcdaaTotals.lean).
  GIVEN WITH THE SEED: the statements are not yours to turn. If you find one false, say at which input.
  Laid BY PROGRAM, IN A SANDBOX (cutbox-rows.mjs): the forced cells as the released guide's own fill.sh prints them over the translation 256deec777e66872… (all of the seat's roots in one cut). By AI agents, Wed Nov 11 2026. No macro, syntax, notation, axiom, sorry.
-/
import Derived.Test.YtiejbliadegcdaaChecked
import GoSem.Claim
import GoSem.ClaimJoined
import GoSem.ClaimMapViews
import Derived.JoinedTies
import Derived.KernelRfl
namespace Go.Proofs.Ytiejbliadegcdaa
/- THE CELL 'sum', in the pinned program and in every row, IS THE sha256 OF THE DUMP (.gsa) THAT YtiejbliadegcdaaProg.lean LOADS. Nothing in Lean hashes anything: it is a label: what it is worth is what the hold of that sum in a sandbox is worth. -/
noncomputable def Try.pinned : Pinned := { name := "ytiejbliadegcdaa", sum := "256deec777e668721b4f498723e458ee878aac60ac4c69feee90c9fde14d6b4e", checked := Try.checked }
namespace Rows
def none {H : Type} : Left H := { results := [], args := [] }

/-- 'laws.FnRecordPart': WHATEVER THE INPUT: true; the input reads as it did. -/
def fnRecordPartSpec : ChangeSpec := { name := "fnRecordPart", fn := fun _ => fun
  | [d] => { results := [.lit (.bool true)], args := [d] }
  | _ => none }
def fnRecordPartRow : OpenClaim := { program := "ytiejbliadegcdaa", sum := "256deec777e668721b4f498723e458ee878aac60ac4c69feee90c9fde14d6b4e", func := "loop.example/fanoutlog/laws.FnRecordPart", spec := "fnRecordPart", unfollowed := true, recurses := true, apart := false }
def FnRecordPartSaid : Prop := fnRecordPartRow.holds Try.pinned (OpenSpec.ofChange fnRecordPartSpec)

/-- ITS FALSE NEIGHBOUR: 'it returns false'. Refute it at one input. -/
def fnRecordPartWrong : ChangeSpec := { name := "fnRecordPart", fn := fun _ => fun
  | [d] => { results := [.lit (.bool false)], args := [d] }
  | _ => none }
def FnRecordPartWrongFalsely : Prop := fnRecordPartRow.holds Try.pinned (OpenSpec.ofChange fnRecordPartWrong)

/-- 'laws.FnExactRecordValid': WHATEVER THE INPUT: true; the input reads as it did. -/
def fnExactRecordValidSpec : ChangeSpec := { name := "fnExactRecordValid", fn := fun _ => fun
  | [d] => { results := [.lit (.bool true)], args := [d] }
  | _ => none }
def fnExactRecordValidRow : OpenClaim := { program := "ytiejbliadegcdaa", sum := "256deec777e668721b4f498723e458ee878aac60ac4c69feee90c9fde14d6b4e", func := "loop.example/fanoutlog/laws.FnExactRecordValid", spec := "fnExactRecordValid", unfollowed := true, recurses := true, apart := false }
def FnExactRecordValidSaid : Prop := fnExactRecordValidRow.holds Try.pinned (OpenSpec.ofChange fnExactRecordValidSpec)

/-- ITS FALSE NEIGHBOUR: 'it returns false'. Refute it at one input. -/
def fnExactRecordValidWrong : ChangeSpec := { name := "fnExactRecordValid", fn := fun _ => fun
  | [d] => { results := [.lit (.bool false)], args := [d] }
  | _ => none }
def FnExactRecordValidWrongFalsely : Prop := fnExactRecordValidRow.holds Try.pinned (OpenSpec.ofChange fnExactRecordValidWrong)

/- THE SECOND FORM. 'bulk': how many values and letters a reading holds, each counted each time it is reached (what is shared counts as often as it is met; a slice's spare places count too). A statement '..UptoSaid' is the law's where the arguments, and the package variables that the reading takes, are together of bulk at most 1048576: NARROWER than '..Said'. Prove '..Said' where nothing that the law and all that it calls make is longer than what came in: it says more and counts as full. Else prove '..UptoSaid'. A law counts once. -/
mutual
def uptoBulk {H : Type} : DataW H → Nat
  | .lit (.string bytes) => bytes.length + 1
  | .lit _ => 1
  | .nil => 1
  | .ptr d => uptoBulk d + 1
  | .slice elems spare => uptoBulkAll elems + uptoBulkAll spare + 1
  | .agg parts => uptoBulkAll parts + 1
  | .iface _ d => uptoBulk d + 1
  | .map entries => uptoBulkEntries entries + 1
  | .held _ => 1
def uptoBulkAll {H : Type} : List (DataW H) → Nat
  | [] => 0
  | d :: r => uptoBulk d + uptoBulkAll r
def uptoBulkEntries {H : Type} : List (Lit × DataW H) → Nat
  | [] => 0
  | x :: r => uptoBulkEntry x + uptoBulkEntries r
def uptoBulkEntry {H : Type} : Lit × DataW H → Nat
  | (.string bytes, d) => bytes.length + uptoBulk d + 1
  | (_, d) => uptoBulk d + 1
 end
def uptoSmall : (H : Type) → List (DataW H) → Bool := fun _ ds => decide (uptoBulkAll ds ≤ 1048576)
def OpenSpec.upto (s : _root_.Go.ChangeSpec) : _root_.Go.OpenSpec := { _root_.Go.OpenSpec.ofChange s with cond := some uptoSmall }

/-- 'laws.FnRecordPart', WHERE WHAT IT READS IS OF BULK AT MOST 1048576: true; the input reads as it did. -/
def fnRecordPartUptoRow : OpenClaim := { program := "ytiejbliadegcdaa", sum := "256deec777e668721b4f498723e458ee878aac60ac4c69feee90c9fde14d6b4e", func := "loop.example/fanoutlog/laws.FnRecordPart", spec := "fnRecordPart", unfollowed := true, recurses := true, apart := false, narrowed := true }
def FnRecordPartUptoSaid : Prop := fnRecordPartUptoRow.holds Try.pinned (OpenSpec.upto fnRecordPartSpec)

/-- 'laws.FnExactRecordValid', WHERE WHAT IT READS IS OF BULK AT MOST 1048576: true; the input reads as it did. -/
def fnExactRecordValidUptoRow : OpenClaim := { program := "ytiejbliadegcdaa", sum := "256deec777e668721b4f498723e458ee878aac60ac4c69feee90c9fde14d6b4e", func := "loop.example/fanoutlog/laws.FnExactRecordValid", spec := "fnExactRecordValid", unfollowed := true, recurses := true, apart := false, narrowed := true }
def FnExactRecordValidUptoSaid : Prop := fnExactRecordValidUptoRow.holds Try.pinned (OpenSpec.upto fnExactRecordValidSpec)

end Rows
end Go.Proofs.Ytiejbliadegcdaa
