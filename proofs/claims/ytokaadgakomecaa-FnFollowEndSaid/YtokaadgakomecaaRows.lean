/-
  No cell of these rows narrows 'for every input' (looked for: loops, veiled, ifaces, maps, wideKeys, modest, calm, conditions, laid).
  DERIVED. THE GIVEN ROWS OF THIS SEAT. 18 by the template 'for every input the law returns true; each argument reads behind the call as it read before'; 0 by the template 'total and deterministic' (their statements: YtokaadgakomecaaTotals.lean).
  GIVEN WITH THE SEED: the statements are not yours to turn. If you find one false, say at which input.
  Laid BY PROGRAM, IN A SANDBOX (cutbox-rows.mjs): the forced cells as the released guide's own fill.sh prints them over the translation 2a3e2eadbc9df183… (all of the seat's roots in one cut). By AI agents, Wed Nov 11 2026. No macro, syntax, notation, axiom, sorry.
-/
import Derived.Test.YtokaadgakomecaaChecked
import GoSem.Claim
import GoSem.ClaimJoined
import GoSem.ClaimMapViews
import Derived.JoinedTies
import Derived.KernelRfl
namespace Go.Proofs.Ytokaadgakomecaa
/- THE CELL 'sum', in the pinned program and in every row, IS THE sha256 OF THE DUMP (.gsa) THAT YtokaadgakomecaaProg.lean LOADS. Nothing in Lean hashes anything: it is a label: what it is worth is what the hold of that sum in a sandbox is worth. -/
noncomputable def Try.pinned : Pinned := { name := "ytokaadgakomecaa", sum := "2a3e2eadbc9df18364ab29f02a1275928c77c2764443ce2ca73d35f01896469d", checked := Try.checked }
namespace Rows
def none {H : Type} : Left H := { results := [], args := [] }

/-- 'laws.FnFollow': WHATEVER THE INPUT: true; the input reads as it did. -/
def fnFollowSpec : ChangeSpec := { name := "fnFollow", fn := fun _ => fun
  | [d] => { results := [.lit (.bool true)], args := [d] }
  | _ => none }
def fnFollowRow : OpenClaim := { program := "ytokaadgakomecaa", sum := "2a3e2eadbc9df18364ab29f02a1275928c77c2764443ce2ca73d35f01896469d", func := "loop.example/fanoutlog/laws.FnFollow", spec := "fnFollow", unfollowed := true, recurses := true, apart := false }
def FnFollowSaid : Prop := fnFollowRow.holds Try.pinned (OpenSpec.ofChange fnFollowSpec)

/-- ITS FALSE NEIGHBOUR: 'it returns false'. Refute it at one input. -/
def fnFollowWrong : ChangeSpec := { name := "fnFollow", fn := fun _ => fun
  | [d] => { results := [.lit (.bool false)], args := [d] }
  | _ => none }
def FnFollowWrongFalsely : Prop := fnFollowRow.holds Try.pinned (OpenSpec.ofChange fnFollowWrong)

/-- 'laws.FnFollowOthers': WHATEVER THE INPUT: true; the input reads as it did. -/
def fnFollowOthersSpec : ChangeSpec := { name := "fnFollowOthers", fn := fun _ => fun
  | [d] => { results := [.lit (.bool true)], args := [d] }
  | _ => none }
def fnFollowOthersRow : OpenClaim := { program := "ytokaadgakomecaa", sum := "2a3e2eadbc9df18364ab29f02a1275928c77c2764443ce2ca73d35f01896469d", func := "loop.example/fanoutlog/laws.FnFollowOthers", spec := "fnFollowOthers", unfollowed := true, recurses := true, apart := false }
def FnFollowOthersSaid : Prop := fnFollowOthersRow.holds Try.pinned (OpenSpec.ofChange fnFollowOthersSpec)

/-- ITS FALSE NEIGHBOUR: 'it returns false'. Refute it at one input. -/
def fnFollowOthersWrong : ChangeSpec := { name := "fnFollowOthers", fn := fun _ => fun
  | [d] => { results := [.lit (.bool false)], args := [d] }
  | _ => none }
def FnFollowOthersWrongFalsely : Prop := fnFollowOthersRow.holds Try.pinned (OpenSpec.ofChange fnFollowOthersWrong)

/-- 'laws.FnFollowTwice': WHATEVER THE INPUT: true; the input reads as it did. -/
def fnFollowTwiceSpec : ChangeSpec := { name := "fnFollowTwice", fn := fun _ => fun
  | [d] => { results := [.lit (.bool true)], args := [d] }
  | _ => none }
def fnFollowTwiceRow : OpenClaim := { program := "ytokaadgakomecaa", sum := "2a3e2eadbc9df18364ab29f02a1275928c77c2764443ce2ca73d35f01896469d", func := "loop.example/fanoutlog/laws.FnFollowTwice", spec := "fnFollowTwice", unfollowed := true, recurses := true, apart := false }
def FnFollowTwiceSaid : Prop := fnFollowTwiceRow.holds Try.pinned (OpenSpec.ofChange fnFollowTwiceSpec)

/-- ITS FALSE NEIGHBOUR: 'it returns false'. Refute it at one input. -/
def fnFollowTwiceWrong : ChangeSpec := { name := "fnFollowTwice", fn := fun _ => fun
  | [d] => { results := [.lit (.bool false)], args := [d] }
  | _ => none }
def FnFollowTwiceWrongFalsely : Prop := fnFollowTwiceRow.holds Try.pinned (OpenSpec.ofChange fnFollowTwiceWrong)

/-- 'laws.FnFollowEnd': WHATEVER THE INPUT: true; the input reads as it did. -/
def fnFollowEndSpec : ChangeSpec := { name := "fnFollowEnd", fn := fun _ => fun
  | [d] => { results := [.lit (.bool true)], args := [d] }
  | _ => none }
def fnFollowEndRow : OpenClaim := { program := "ytokaadgakomecaa", sum := "2a3e2eadbc9df18364ab29f02a1275928c77c2764443ce2ca73d35f01896469d", func := "loop.example/fanoutlog/laws.FnFollowEnd", spec := "fnFollowEnd", unfollowed := true, recurses := true, apart := false }
def FnFollowEndSaid : Prop := fnFollowEndRow.holds Try.pinned (OpenSpec.ofChange fnFollowEndSpec)

/-- ITS FALSE NEIGHBOUR: 'it returns false'. Refute it at one input. -/
def fnFollowEndWrong : ChangeSpec := { name := "fnFollowEnd", fn := fun _ => fun
  | [d] => { results := [.lit (.bool false)], args := [d] }
  | _ => none }
def FnFollowEndWrongFalsely : Prop := fnFollowEndRow.holds Try.pinned (OpenSpec.ofChange fnFollowEndWrong)

/-- 'laws.FnFollowPut': WHATEVER THE INPUT: true; the input reads as it did. -/
def fnFollowPutSpec : ChangeSpec := { name := "fnFollowPut", fn := fun _ => fun
  | [d] => { results := [.lit (.bool true)], args := [d] }
  | _ => none }
def fnFollowPutRow : OpenClaim := { program := "ytokaadgakomecaa", sum := "2a3e2eadbc9df18364ab29f02a1275928c77c2764443ce2ca73d35f01896469d", func := "loop.example/fanoutlog/laws.FnFollowPut", spec := "fnFollowPut", unfollowed := true, recurses := true, apart := false }
def FnFollowPutSaid : Prop := fnFollowPutRow.holds Try.pinned (OpenSpec.ofChange fnFollowPutSpec)

/-- ITS FALSE NEIGHBOUR: 'it returns false'. Refute it at one input. -/
def fnFollowPutWrong : ChangeSpec := { name := "fnFollowPut", fn := fun _ => fun
  | [d] => { results := [.lit (.bool false)], args := [d] }
  | _ => none }
def FnFollowPutWrongFalsely : Prop := fnFollowPutRow.holds Try.pinned (OpenSpec.ofChange fnFollowPutWrong)

/-- 'laws.FnUnfollow': WHATEVER THE INPUT: true; the input reads as it did. -/
def fnUnfollowSpec : ChangeSpec := { name := "fnUnfollow", fn := fun _ => fun
  | [d] => { results := [.lit (.bool true)], args := [d] }
  | _ => none }
def fnUnfollowRow : OpenClaim := { program := "ytokaadgakomecaa", sum := "2a3e2eadbc9df18364ab29f02a1275928c77c2764443ce2ca73d35f01896469d", func := "loop.example/fanoutlog/laws.FnUnfollow", spec := "fnUnfollow", unfollowed := true, recurses := true, apart := false }
def FnUnfollowSaid : Prop := fnUnfollowRow.holds Try.pinned (OpenSpec.ofChange fnUnfollowSpec)

/-- ITS FALSE NEIGHBOUR: 'it returns false'. Refute it at one input. -/
def fnUnfollowWrong : ChangeSpec := { name := "fnUnfollow", fn := fun _ => fun
  | [d] => { results := [.lit (.bool false)], args := [d] }
  | _ => none }
def FnUnfollowWrongFalsely : Prop := fnUnfollowRow.holds Try.pinned (OpenSpec.ofChange fnUnfollowWrong)

/-- 'laws.FnUnfollowBack': WHATEVER THE INPUT: true; the input reads as it did. -/
def fnUnfollowBackSpec : ChangeSpec := { name := "fnUnfollowBack", fn := fun _ => fun
  | [d] => { results := [.lit (.bool true)], args := [d] }
  | _ => none }
def fnUnfollowBackRow : OpenClaim := { program := "ytokaadgakomecaa", sum := "2a3e2eadbc9df18364ab29f02a1275928c77c2764443ce2ca73d35f01896469d", func := "loop.example/fanoutlog/laws.FnUnfollowBack", spec := "fnUnfollowBack", unfollowed := true, recurses := true, apart := false }
def FnUnfollowBackSaid : Prop := fnUnfollowBackRow.holds Try.pinned (OpenSpec.ofChange fnUnfollowBackSpec)

/-- ITS FALSE NEIGHBOUR: 'it returns false'. Refute it at one input. -/
def fnUnfollowBackWrong : ChangeSpec := { name := "fnUnfollowBack", fn := fun _ => fun
  | [d] => { results := [.lit (.bool false)], args := [d] }
  | _ => none }
def FnUnfollowBackWrongFalsely : Prop := fnUnfollowBackRow.holds Try.pinned (OpenSpec.ofChange fnUnfollowBackWrong)

/-- 'laws.FnFollowersOf': WHATEVER THE INPUT: true; the input reads as it did. -/
def fnFollowersOfSpec : ChangeSpec := { name := "fnFollowersOf", fn := fun _ => fun
  | [d] => { results := [.lit (.bool true)], args := [d] }
  | _ => none }
def fnFollowersOfRow : OpenClaim := { program := "ytokaadgakomecaa", sum := "2a3e2eadbc9df18364ab29f02a1275928c77c2764443ce2ca73d35f01896469d", func := "loop.example/fanoutlog/laws.FnFollowersOf", spec := "fnFollowersOf", apart := false }
def FnFollowersOfSaid : Prop := fnFollowersOfRow.holds Try.pinned (OpenSpec.ofChange fnFollowersOfSpec)

/-- ITS FALSE NEIGHBOUR: 'it returns false'. Refute it at one input. -/
def fnFollowersOfWrong : ChangeSpec := { name := "fnFollowersOf", fn := fun _ => fun
  | [d] => { results := [.lit (.bool false)], args := [d] }
  | _ => none }
def FnFollowersOfWrongFalsely : Prop := fnFollowersOfRow.holds Try.pinned (OpenSpec.ofChange fnFollowersOfWrong)

/-- 'laws.FnFollowedBy': WHATEVER THE INPUT: true; the input reads as it did. -/
def fnFollowedBySpec : ChangeSpec := { name := "fnFollowedBy", fn := fun _ => fun
  | [d] => { results := [.lit (.bool true)], args := [d] }
  | _ => none }
def fnFollowedByRow : OpenClaim := { program := "ytokaadgakomecaa", sum := "2a3e2eadbc9df18364ab29f02a1275928c77c2764443ce2ca73d35f01896469d", func := "loop.example/fanoutlog/laws.FnFollowedBy", spec := "fnFollowedBy", unfollowed := true, recurses := true, apart := false }
def FnFollowedBySaid : Prop := fnFollowedByRow.holds Try.pinned (OpenSpec.ofChange fnFollowedBySpec)

/-- ITS FALSE NEIGHBOUR: 'it returns false'. Refute it at one input. -/
def fnFollowedByWrong : ChangeSpec := { name := "fnFollowedBy", fn := fun _ => fun
  | [d] => { results := [.lit (.bool false)], args := [d] }
  | _ => none }
def FnFollowedByWrongFalsely : Prop := fnFollowedByRow.holds Try.pinned (OpenSpec.ofChange fnFollowedByWrong)

/-- 'laws.FnAccounts': WHATEVER THE INPUT: true; the input reads as it did. -/
def fnAccountsSpec : ChangeSpec := { name := "fnAccounts", fn := fun _ => fun
  | [d] => { results := [.lit (.bool true)], args := [d] }
  | _ => none }
def fnAccountsRow : OpenClaim := { program := "ytokaadgakomecaa", sum := "2a3e2eadbc9df18364ab29f02a1275928c77c2764443ce2ca73d35f01896469d", func := "loop.example/fanoutlog/laws.FnAccounts", spec := "fnAccounts", apart := false }
def FnAccountsSaid : Prop := fnAccountsRow.holds Try.pinned (OpenSpec.ofChange fnAccountsSpec)

/-- ITS FALSE NEIGHBOUR: 'it returns false'. Refute it at one input. -/
def fnAccountsWrong : ChangeSpec := { name := "fnAccounts", fn := fun _ => fun
  | [d] => { results := [.lit (.bool false)], args := [d] }
  | _ => none }
def FnAccountsWrongFalsely : Prop := fnAccountsRow.holds Try.pinned (OpenSpec.ofChange fnAccountsWrong)

/-- 'laws.FnFollowSelf': WHATEVER THE INPUT: true; the input reads as it did. -/
def fnFollowSelfSpec : ChangeSpec := { name := "fnFollowSelf", fn := fun _ => fun
  | [d] => { results := [.lit (.bool true)], args := [d] }
  | _ => none }
def fnFollowSelfRow : OpenClaim := { program := "ytokaadgakomecaa", sum := "2a3e2eadbc9df18364ab29f02a1275928c77c2764443ce2ca73d35f01896469d", func := "loop.example/fanoutlog/laws.FnFollowSelf", spec := "fnFollowSelf", unfollowed := true, recurses := true, apart := false }
def FnFollowSelfSaid : Prop := fnFollowSelfRow.holds Try.pinned (OpenSpec.ofChange fnFollowSelfSpec)

/-- ITS FALSE NEIGHBOUR: 'it returns false'. Refute it at one input. -/
def fnFollowSelfWrong : ChangeSpec := { name := "fnFollowSelf", fn := fun _ => fun
  | [d] => { results := [.lit (.bool false)], args := [d] }
  | _ => none }
def FnFollowSelfWrongFalsely : Prop := fnFollowSelfRow.holds Try.pinned (OpenSpec.ofChange fnFollowSelfWrong)

/-- 'laws.FnUnfollowOthers': WHATEVER THE INPUT: true; the input reads as it did. -/
def fnUnfollowOthersSpec : ChangeSpec := { name := "fnUnfollowOthers", fn := fun _ => fun
  | [d] => { results := [.lit (.bool true)], args := [d] }
  | _ => none }
def fnUnfollowOthersRow : OpenClaim := { program := "ytokaadgakomecaa", sum := "2a3e2eadbc9df18364ab29f02a1275928c77c2764443ce2ca73d35f01896469d", func := "loop.example/fanoutlog/laws.FnUnfollowOthers", spec := "fnUnfollowOthers", unfollowed := true, recurses := true, apart := false }
def FnUnfollowOthersSaid : Prop := fnUnfollowOthersRow.holds Try.pinned (OpenSpec.ofChange fnUnfollowOthersSpec)

/-- ITS FALSE NEIGHBOUR: 'it returns false'. Refute it at one input. -/
def fnUnfollowOthersWrong : ChangeSpec := { name := "fnUnfollowOthers", fn := fun _ => fun
  | [d] => { results := [.lit (.bool false)], args := [d] }
  | _ => none }
def FnUnfollowOthersWrongFalsely : Prop := fnUnfollowOthersRow.holds Try.pinned (OpenSpec.ofChange fnUnfollowOthersWrong)

/-- 'laws.FnFollowedCount': WHATEVER THE INPUT: true; the input reads as it did. -/
def fnFollowedCountSpec : ChangeSpec := { name := "fnFollowedCount", fn := fun _ => fun
  | [d] => { results := [.lit (.bool true)], args := [d] }
  | _ => none }
def fnFollowedCountRow : OpenClaim := { program := "ytokaadgakomecaa", sum := "2a3e2eadbc9df18364ab29f02a1275928c77c2764443ce2ca73d35f01896469d", func := "loop.example/fanoutlog/laws.FnFollowedCount", spec := "fnFollowedCount", unfollowed := true, recurses := true, apart := false }
def FnFollowedCountSaid : Prop := fnFollowedCountRow.holds Try.pinned (OpenSpec.ofChange fnFollowedCountSpec)

/-- ITS FALSE NEIGHBOUR: 'it returns false'. Refute it at one input. -/
def fnFollowedCountWrong : ChangeSpec := { name := "fnFollowedCount", fn := fun _ => fun
  | [d] => { results := [.lit (.bool false)], args := [d] }
  | _ => none }
def FnFollowedCountWrongFalsely : Prop := fnFollowedCountRow.holds Try.pinned (OpenSpec.ofChange fnFollowedCountWrong)

/-- 'laws.FnExactAccountsValid': WHATEVER THE INPUT: true; the input reads as it did. -/
def fnExactAccountsValidSpec : ChangeSpec := { name := "fnExactAccountsValid", fn := fun _ => fun
  | [d] => { results := [.lit (.bool true)], args := [d] }
  | _ => none }
def fnExactAccountsValidRow : OpenClaim := { program := "ytokaadgakomecaa", sum := "2a3e2eadbc9df18364ab29f02a1275928c77c2764443ce2ca73d35f01896469d", func := "loop.example/fanoutlog/laws.FnExactAccountsValid", spec := "fnExactAccountsValid", apart := false }
def FnExactAccountsValidSaid : Prop := fnExactAccountsValidRow.holds Try.pinned (OpenSpec.ofChange fnExactAccountsValidSpec)

/-- ITS FALSE NEIGHBOUR: 'it returns false'. Refute it at one input. -/
def fnExactAccountsValidWrong : ChangeSpec := { name := "fnExactAccountsValid", fn := fun _ => fun
  | [d] => { results := [.lit (.bool false)], args := [d] }
  | _ => none }
def FnExactAccountsValidWrongFalsely : Prop := fnExactAccountsValidRow.holds Try.pinned (OpenSpec.ofChange fnExactAccountsValidWrong)

/-- 'laws.FnExactFollowersOf': WHATEVER THE INPUT: true; the input reads as it did. -/
def fnExactFollowersOfSpec : ChangeSpec := { name := "fnExactFollowersOf", fn := fun _ => fun
  | [d1, d2] => { results := [.lit (.bool true)], args := [d1, d2] }
  | _ => none }
def fnExactFollowersOfRow : OpenClaim := { program := "ytokaadgakomecaa", sum := "2a3e2eadbc9df18364ab29f02a1275928c77c2764443ce2ca73d35f01896469d", func := "loop.example/fanoutlog/laws.FnExactFollowersOf", spec := "fnExactFollowersOf", apart := false }
def FnExactFollowersOfSaid : Prop := fnExactFollowersOfRow.holds Try.pinned (OpenSpec.ofChange fnExactFollowersOfSpec)

/-- ITS FALSE NEIGHBOUR: 'it returns false'. Refute it at one input. -/
def fnExactFollowersOfWrong : ChangeSpec := { name := "fnExactFollowersOf", fn := fun _ => fun
  | [d1, d2] => { results := [.lit (.bool false)], args := [d1, d2] }
  | _ => none }
def FnExactFollowersOfWrongFalsely : Prop := fnExactFollowersOfRow.holds Try.pinned (OpenSpec.ofChange fnExactFollowersOfWrong)

/-- 'laws.FnExactFollowedBy': WHATEVER THE INPUT: true; the input reads as it did. -/
def fnExactFollowedBySpec : ChangeSpec := { name := "fnExactFollowedBy", fn := fun _ => fun
  | [d1, d2] => { results := [.lit (.bool true)], args := [d1, d2] }
  | _ => none }
def fnExactFollowedByRow : OpenClaim := { program := "ytokaadgakomecaa", sum := "2a3e2eadbc9df18364ab29f02a1275928c77c2764443ce2ca73d35f01896469d", func := "loop.example/fanoutlog/laws.FnExactFollowedBy", spec := "fnExactFollowedBy", unfollowed := true, recurses := true, apart := false }
def FnExactFollowedBySaid : Prop := fnExactFollowedByRow.holds Try.pinned (OpenSpec.ofChange fnExactFollowedBySpec)

/-- ITS FALSE NEIGHBOUR: 'it returns false'. Refute it at one input. -/
def fnExactFollowedByWrong : ChangeSpec := { name := "fnExactFollowedBy", fn := fun _ => fun
  | [d1, d2] => { results := [.lit (.bool false)], args := [d1, d2] }
  | _ => none }
def FnExactFollowedByWrongFalsely : Prop := fnExactFollowedByRow.holds Try.pinned (OpenSpec.ofChange fnExactFollowedByWrong)

/-- 'laws.FnExactFollow': WHATEVER THE INPUT: true; the input reads as it did. -/
def fnExactFollowSpec : ChangeSpec := { name := "fnExactFollow", fn := fun _ => fun
  | [d1, d2, d3] => { results := [.lit (.bool true)], args := [d1, d2, d3] }
  | _ => none }
def fnExactFollowRow : OpenClaim := { program := "ytokaadgakomecaa", sum := "2a3e2eadbc9df18364ab29f02a1275928c77c2764443ce2ca73d35f01896469d", func := "loop.example/fanoutlog/laws.FnExactFollow", spec := "fnExactFollow", unfollowed := true, recurses := true, apart := false }
def FnExactFollowSaid : Prop := fnExactFollowRow.holds Try.pinned (OpenSpec.ofChange fnExactFollowSpec)

/-- ITS FALSE NEIGHBOUR: 'it returns false'. Refute it at one input. -/
def fnExactFollowWrong : ChangeSpec := { name := "fnExactFollow", fn := fun _ => fun
  | [d1, d2, d3] => { results := [.lit (.bool false)], args := [d1, d2, d3] }
  | _ => none }
def FnExactFollowWrongFalsely : Prop := fnExactFollowRow.holds Try.pinned (OpenSpec.ofChange fnExactFollowWrong)

/-- 'laws.FnExactUnfollow': WHATEVER THE INPUT: true; the input reads as it did. -/
def fnExactUnfollowSpec : ChangeSpec := { name := "fnExactUnfollow", fn := fun _ => fun
  | [d1, d2, d3] => { results := [.lit (.bool true)], args := [d1, d2, d3] }
  | _ => none }
def fnExactUnfollowRow : OpenClaim := { program := "ytokaadgakomecaa", sum := "2a3e2eadbc9df18364ab29f02a1275928c77c2764443ce2ca73d35f01896469d", func := "loop.example/fanoutlog/laws.FnExactUnfollow", spec := "fnExactUnfollow", unfollowed := true, recurses := true, apart := false }
def FnExactUnfollowSaid : Prop := fnExactUnfollowRow.holds Try.pinned (OpenSpec.ofChange fnExactUnfollowSpec)

/-- ITS FALSE NEIGHBOUR: 'it returns false'. Refute it at one input. -/
def fnExactUnfollowWrong : ChangeSpec := { name := "fnExactUnfollow", fn := fun _ => fun
  | [d1, d2, d3] => { results := [.lit (.bool false)], args := [d1, d2, d3] }
  | _ => none }
def FnExactUnfollowWrongFalsely : Prop := fnExactUnfollowRow.holds Try.pinned (OpenSpec.ofChange fnExactUnfollowWrong)

/- THE SECOND FORM. 'bulk': how many values and letters a reading holds, each counted each time it is reached (what is shared counts as often as it is met; a slice's spare places count too). A statement '..UptoSaid' is the law's where the arguments, and the package variables that the reading takes, are together of bulk at most 1048576: NARROWER than '..Said'. Prove '..Said' where nothing that the law and all that it calls make is longer than what came in: it says more and counts as full. Else prove '..UptoSaid'. A law counts once. -/
mutual
def uptoBulk {H : Type} : DataW H → Nat
  | .lit (.string bytes) => bytes.length + 1
  | .lit _ => 1
  | .nil => 1
  | .ptr d => uptoBulk d + 1
  | .slice elems spare => uptoBulkAll elems + uptoBulkAll spare + 1
  | .agg parts => uptoBulkAll parts + 1
  | .iface _ d => uptoBulk d + 1
  | .map entries => uptoBulkEntries entries + 1
  | .held _ => 1
def uptoBulkAll {H : Type} : List (DataW H) → Nat
  | [] => 0
  | d :: r => uptoBulk d + uptoBulkAll r
def uptoBulkEntries {H : Type} : List (Lit × DataW H) → Nat
  | [] => 0
  | x :: r => uptoBulkEntry x + uptoBulkEntries r
def uptoBulkEntry {H : Type} : Lit × DataW H → Nat
  | (.string bytes, d) => bytes.length + uptoBulk d + 1
  | (_, d) => uptoBulk d + 1
 end
def uptoSmall : (H : Type) → List (DataW H) → Bool := fun _ ds => decide (uptoBulkAll ds ≤ 1048576)
def OpenSpec.upto (s : _root_.Go.ChangeSpec) : _root_.Go.OpenSpec := { _root_.Go.OpenSpec.ofChange s with cond := some uptoSmall }

/-- 'laws.FnFollow', WHERE WHAT IT READS IS OF BULK AT MOST 1048576: true; the input reads as it did. -/
def fnFollowUptoRow : OpenClaim := { program := "ytokaadgakomecaa", sum := "2a3e2eadbc9df18364ab29f02a1275928c77c2764443ce2ca73d35f01896469d", func := "loop.example/fanoutlog/laws.FnFollow", spec := "fnFollow", unfollowed := true, recurses := true, apart := false, narrowed := true }
def FnFollowUptoSaid : Prop := fnFollowUptoRow.holds Try.pinned (OpenSpec.upto fnFollowSpec)

/-- 'laws.FnFollowOthers', WHERE WHAT IT READS IS OF BULK AT MOST 1048576: true; the input reads as it did. -/
def fnFollowOthersUptoRow : OpenClaim := { program := "ytokaadgakomecaa", sum := "2a3e2eadbc9df18364ab29f02a1275928c77c2764443ce2ca73d35f01896469d", func := "loop.example/fanoutlog/laws.FnFollowOthers", spec := "fnFollowOthers", unfollowed := true, recurses := true, apart := false, narrowed := true }
def FnFollowOthersUptoSaid : Prop := fnFollowOthersUptoRow.holds Try.pinned (OpenSpec.upto fnFollowOthersSpec)

/-- 'laws.FnFollowTwice', WHERE WHAT IT READS IS OF BULK AT MOST 1048576: true; the input reads as it did. -/
def fnFollowTwiceUptoRow : OpenClaim := { program := "ytokaadgakomecaa", sum := "2a3e2eadbc9df18364ab29f02a1275928c77c2764443ce2ca73d35f01896469d", func := "loop.example/fanoutlog/laws.FnFollowTwice", spec := "fnFollowTwice", unfollowed := true, recurses := true, apart := false, narrowed := true }
def FnFollowTwiceUptoSaid : Prop := fnFollowTwiceUptoRow.holds Try.pinned (OpenSpec.upto fnFollowTwiceSpec)

/-- 'laws.FnFollowEnd', WHERE WHAT IT READS IS OF BULK AT MOST 1048576: true; the input reads as it did. -/
def fnFollowEndUptoRow : OpenClaim := { program := "ytokaadgakomecaa", sum := "2a3e2eadbc9df18364ab29f02a1275928c77c2764443ce2ca73d35f01896469d", func := "loop.example/fanoutlog/laws.FnFollowEnd", spec := "fnFollowEnd", unfollowed := true, recurses := true, apart := false, narrowed := true }
def FnFollowEndUptoSaid : Prop := fnFollowEndUptoRow.holds Try.pinned (OpenSpec.upto fnFollowEndSpec)

/-- 'laws.FnFollowPut', WHERE WHAT IT READS IS OF BULK AT MOST 1048576: true; the input reads as it did. -/
def fnFollowPutUptoRow : OpenClaim := { program := "ytokaadgakomecaa", sum := "2a3e2eadbc9df18364ab29f02a1275928c77c2764443ce2ca73d35f01896469d", func := "loop.example/fanoutlog/laws.FnFollowPut", spec := "fnFollowPut", unfollowed := true, recurses := true, apart := false, narrowed := true }
def FnFollowPutUptoSaid : Prop := fnFollowPutUptoRow.holds Try.pinned (OpenSpec.upto fnFollowPutSpec)

/-- 'laws.FnUnfollow', WHERE WHAT IT READS IS OF BULK AT MOST 1048576: true; the input reads as it did. -/
def fnUnfollowUptoRow : OpenClaim := { program := "ytokaadgakomecaa", sum := "2a3e2eadbc9df18364ab29f02a1275928c77c2764443ce2ca73d35f01896469d", func := "loop.example/fanoutlog/laws.FnUnfollow", spec := "fnUnfollow", unfollowed := true, recurses := true, apart := false, narrowed := true }
def FnUnfollowUptoSaid : Prop := fnUnfollowUptoRow.holds Try.pinned (OpenSpec.upto fnUnfollowSpec)

/-- 'laws.FnUnfollowBack', WHERE WHAT IT READS IS OF BULK AT MOST 1048576: true; the input reads as it did. -/
def fnUnfollowBackUptoRow : OpenClaim := { program := "ytokaadgakomecaa", sum := "2a3e2eadbc9df18364ab29f02a1275928c77c2764443ce2ca73d35f01896469d", func := "loop.example/fanoutlog/laws.FnUnfollowBack", spec := "fnUnfollowBack", unfollowed := true, recurses := true, apart := false, narrowed := true }
def FnUnfollowBackUptoSaid : Prop := fnUnfollowBackUptoRow.holds Try.pinned (OpenSpec.upto fnUnfollowBackSpec)

/-- 'laws.FnFollowersOf', WHERE WHAT IT READS IS OF BULK AT MOST 1048576: true; the input reads as it did. -/
def fnFollowersOfUptoRow : OpenClaim := { program := "ytokaadgakomecaa", sum := "2a3e2eadbc9df18364ab29f02a1275928c77c2764443ce2ca73d35f01896469d", func := "loop.example/fanoutlog/laws.FnFollowersOf", spec := "fnFollowersOf", apart := false, narrowed := true }
def FnFollowersOfUptoSaid : Prop := fnFollowersOfUptoRow.holds Try.pinned (OpenSpec.upto fnFollowersOfSpec)

/-- 'laws.FnFollowedBy', WHERE WHAT IT READS IS OF BULK AT MOST 1048576: true; the input reads as it did. -/
def fnFollowedByUptoRow : OpenClaim := { program := "ytokaadgakomecaa", sum := "2a3e2eadbc9df18364ab29f02a1275928c77c2764443ce2ca73d35f01896469d", func := "loop.example/fanoutlog/laws.FnFollowedBy", spec := "fnFollowedBy", unfollowed := true, recurses := true, apart := false, narrowed := true }
def FnFollowedByUptoSaid : Prop := fnFollowedByUptoRow.holds Try.pinned (OpenSpec.upto fnFollowedBySpec)

/-- 'laws.FnAccounts', WHERE WHAT IT READS IS OF BULK AT MOST 1048576: true; the input reads as it did. -/
def fnAccountsUptoRow : OpenClaim := { program := "ytokaadgakomecaa", sum := "2a3e2eadbc9df18364ab29f02a1275928c77c2764443ce2ca73d35f01896469d", func := "loop.example/fanoutlog/laws.FnAccounts", spec := "fnAccounts", apart := false, narrowed := true }
def FnAccountsUptoSaid : Prop := fnAccountsUptoRow.holds Try.pinned (OpenSpec.upto fnAccountsSpec)

/-- 'laws.FnFollowSelf', WHERE WHAT IT READS IS OF BULK AT MOST 1048576: true; the input reads as it did. -/
def fnFollowSelfUptoRow : OpenClaim := { program := "ytokaadgakomecaa", sum := "2a3e2eadbc9df18364ab29f02a1275928c77c2764443ce2ca73d35f01896469d", func := "loop.example/fanoutlog/laws.FnFollowSelf", spec := "fnFollowSelf", unfollowed := true, recurses := true, apart := false, narrowed := true }
def FnFollowSelfUptoSaid : Prop := fnFollowSelfUptoRow.holds Try.pinned (OpenSpec.upto fnFollowSelfSpec)

/-- 'laws.FnUnfollowOthers', WHERE WHAT IT READS IS OF BULK AT MOST 1048576: true; the input reads as it did. -/
def fnUnfollowOthersUptoRow : OpenClaim := { program := "ytokaadgakomecaa", sum := "2a3e2eadbc9df18364ab29f02a1275928c77c2764443ce2ca73d35f01896469d", func := "loop.example/fanoutlog/laws.FnUnfollowOthers", spec := "fnUnfollowOthers", unfollowed := true, recurses := true, apart := false, narrowed := true }
def FnUnfollowOthersUptoSaid : Prop := fnUnfollowOthersUptoRow.holds Try.pinned (OpenSpec.upto fnUnfollowOthersSpec)

/-- 'laws.FnFollowedCount', WHERE WHAT IT READS IS OF BULK AT MOST 1048576: true; the input reads as it did. -/
def fnFollowedCountUptoRow : OpenClaim := { program := "ytokaadgakomecaa", sum := "2a3e2eadbc9df18364ab29f02a1275928c77c2764443ce2ca73d35f01896469d", func := "loop.example/fanoutlog/laws.FnFollowedCount", spec := "fnFollowedCount", unfollowed := true, recurses := true, apart := false, narrowed := true }
def FnFollowedCountUptoSaid : Prop := fnFollowedCountUptoRow.holds Try.pinned (OpenSpec.upto fnFollowedCountSpec)

/-- 'laws.FnExactAccountsValid', WHERE WHAT IT READS IS OF BULK AT MOST 1048576: true; the input reads as it did. -/
def fnExactAccountsValidUptoRow : OpenClaim := { program := "ytokaadgakomecaa", sum := "2a3e2eadbc9df18364ab29f02a1275928c77c2764443ce2ca73d35f01896469d", func := "loop.example/fanoutlog/laws.FnExactAccountsValid", spec := "fnExactAccountsValid", apart := false, narrowed := true }
def FnExactAccountsValidUptoSaid : Prop := fnExactAccountsValidUptoRow.holds Try.pinned (OpenSpec.upto fnExactAccountsValidSpec)

/-- 'laws.FnExactFollowersOf', WHERE WHAT IT READS IS OF BULK AT MOST 1048576: true; the input reads as it did. -/
def fnExactFollowersOfUptoRow : OpenClaim := { program := "ytokaadgakomecaa", sum := "2a3e2eadbc9df18364ab29f02a1275928c77c2764443ce2ca73d35f01896469d", func := "loop.example/fanoutlog/laws.FnExactFollowersOf", spec := "fnExactFollowersOf", apart := false, narrowed := true }
def FnExactFollowersOfUptoSaid : Prop := fnExactFollowersOfUptoRow.holds Try.pinned (OpenSpec.upto fnExactFollowersOfSpec)

/-- 'laws.FnExactFollowedBy', WHERE WHAT IT READS IS OF BULK AT MOST 1048576: true; the input reads as it did. -/
def fnExactFollowedByUptoRow : OpenClaim := { program := "ytokaadgakomecaa", sum := "2a3e2eadbc9df18364ab29f02a1275928c77c2764443ce2ca73d35f01896469d", func := "loop.example/fanoutlog/laws.FnExactFollowedBy", spec := "fnExactFollowedBy", unfollowed := true, recurses := true, apart := false, narrowed := true }
def FnExactFollowedByUptoSaid : Prop := fnExactFollowedByUptoRow.holds Try.pinned (OpenSpec.upto fnExactFollowedBySpec)

/-- 'laws.FnExactFollow', WHERE WHAT IT READS IS OF BULK AT MOST 1048576: true; the input reads as it did. -/
def fnExactFollowUptoRow : OpenClaim := { program := "ytokaadgakomecaa", sum := "2a3e2eadbc9df18364ab29f02a1275928c77c2764443ce2ca73d35f01896469d", func := "loop.example/fanoutlog/laws.FnExactFollow", spec := "fnExactFollow", unfollowed := true, recurses := true, apart := false, narrowed := true }
def FnExactFollowUptoSaid : Prop := fnExactFollowUptoRow.holds Try.pinned (OpenSpec.upto fnExactFollowSpec)

/-- 'laws.FnExactUnfollow', WHERE WHAT IT READS IS OF BULK AT MOST 1048576: true; the input reads as it did. -/
def fnExactUnfollowUptoRow : OpenClaim := { program := "ytokaadgakomecaa", sum := "2a3e2eadbc9df18364ab29f02a1275928c77c2764443ce2ca73d35f01896469d", func := "loop.example/fanoutlog/laws.FnExactUnfollow", spec := "fnExactUnfollow", unfollowed := true, recurses := true, apart := false, narrowed := true }
def FnExactUnfollowUptoSaid : Prop := fnExactUnfollowUptoRow.holds Try.pinned (OpenSpec.upto fnExactUnfollowSpec)

end Rows
end Go.Proofs.Ytokaadgakomecaa
