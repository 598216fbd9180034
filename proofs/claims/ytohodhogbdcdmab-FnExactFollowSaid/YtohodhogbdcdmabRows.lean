/-
  No cell of these rows narrows 'for every input' (looked for: loops, veiled, ifaces, maps, wideKeys, modest, calm, conditions, laid).
  DERIVED. THE GIVEN ROWS OF THIS SEAT. 9 by the template 'for every input the law returns true; each argument reads behind the call as it read before'; 0 by the template 'total and deterministic' (their statements: YtohodhogbdcdmabTotals.lean).
  GIVEN WITH THE SEED: the statements are not yours to turn. If you find one false, say at which input.
  Laid BY PROGRAM, IN A SANDBOX (cutbox-rows.mjs): the forced cells as the released guide's own fill.sh prints them over the translation e2874444ddf44f69… (all of the seat's roots in one cut). By AI agents, Wed Nov 11 2026. No macro, syntax, notation, axiom, sorry.
-/
import Derived.Test.YtohodhogbdcdmabChecked
import GoSem.Claim
import GoSem.ClaimJoined
import GoSem.ClaimMapViews
import Derived.JoinedTies
import Derived.KernelRfl
namespace Go.Proofs.Ytohodhogbdcdmab
/- THE CELL 'sum', in the pinned program and in every row, IS THE sha256 OF THE DUMP (.gsa) THAT YtohodhogbdcdmabProg.lean LOADS. Nothing in Lean hashes anything: it is a label: what it is worth is what the hold of that sum in a sandbox is worth. -/
noncomputable def Try.pinned : Pinned := { name := "ytohodhogbdcdmab", sum := "e2874444ddf44f69cba04e7ba0f8b1a1ae3b88f59145523a609d1dee8bd50d93", checked := Try.checked }
namespace Rows
def none {H : Type} : Left H := { results := [], args := [] }

/-- 'laws.FnFollowOthers': WHATEVER THE INPUT: true; the input reads as it did. -/
def fnFollowOthersSpec : ChangeSpec := { name := "fnFollowOthers", fn := fun _ => fun
  | [d] => { results := [.lit (.bool true)], args := [d] }
  | _ => none }
def fnFollowOthersRow : OpenClaim := { program := "ytohodhogbdcdmab", sum := "e2874444ddf44f69cba04e7ba0f8b1a1ae3b88f59145523a609d1dee8bd50d93", func := "loop.example/fanoutlog/laws.FnFollowOthers", spec := "fnFollowOthers", unfollowed := true, recurses := true, apart := false }
def FnFollowOthersSaid : Prop := fnFollowOthersRow.holds Try.pinned (OpenSpec.ofChange fnFollowOthersSpec)

/-- ITS FALSE NEIGHBOUR: 'it returns false'. Refute it at one input. -/
def fnFollowOthersWrong : ChangeSpec := { name := "fnFollowOthers", fn := fun _ => fun
  | [d] => { results := [.lit (.bool false)], args := [d] }
  | _ => none }
def FnFollowOthersWrongFalsely : Prop := fnFollowOthersRow.holds Try.pinned (OpenSpec.ofChange fnFollowOthersWrong)

/-- 'laws.FnUnfollow': WHATEVER THE INPUT: true; the input reads as it did. -/
def fnUnfollowSpec : ChangeSpec := { name := "fnUnfollow", fn := fun _ => fun
  | [d] => { results := [.lit (.bool true)], args := [d] }
  | _ => none }
def fnUnfollowRow : OpenClaim := { program := "ytohodhogbdcdmab", sum := "e2874444ddf44f69cba04e7ba0f8b1a1ae3b88f59145523a609d1dee8bd50d93", func := "loop.example/fanoutlog/laws.FnUnfollow", spec := "fnUnfollow", unfollowed := true, recurses := true, apart := false }
def FnUnfollowSaid : Prop := fnUnfollowRow.holds Try.pinned (OpenSpec.ofChange fnUnfollowSpec)

/-- ITS FALSE NEIGHBOUR: 'it returns false'. Refute it at one input. -/
def fnUnfollowWrong : ChangeSpec := { name := "fnUnfollow", fn := fun _ => fun
  | [d] => { results := [.lit (.bool false)], args := [d] }
  | _ => none }
def FnUnfollowWrongFalsely : Prop := fnUnfollowRow.holds Try.pinned (OpenSpec.ofChange fnUnfollowWrong)

/-- 'laws.FnUnfollowBack': WHATEVER THE INPUT: true; the input reads as it did. -/
def fnUnfollowBackSpec : ChangeSpec := { name := "fnUnfollowBack", fn := fun _ => fun
  | [d] => { results := [.lit (.bool true)], args := [d] }
  | _ => none }
def fnUnfollowBackRow : OpenClaim := { program := "ytohodhogbdcdmab", sum := "e2874444ddf44f69cba04e7ba0f8b1a1ae3b88f59145523a609d1dee8bd50d93", func := "loop.example/fanoutlog/laws.FnUnfollowBack", spec := "fnUnfollowBack", unfollowed := true, recurses := true, apart := false }
def FnUnfollowBackSaid : Prop := fnUnfollowBackRow.holds Try.pinned (OpenSpec.ofChange fnUnfollowBackSpec)

/-- ITS FALSE NEIGHBOUR: 'it returns false'. Refute it at one input. -/
def fnUnfollowBackWrong : ChangeSpec := { name := "fnUnfollowBack", fn := fun _ => fun
  | [d] => { results := [.lit (.bool false)], args := [d] }
  | _ => none }
def FnUnfollowBackWrongFalsely : Prop := fnUnfollowBackRow.holds Try.pinned (OpenSpec.ofChange fnUnfollowBackWrong)

/-- 'laws.FnUnfollowOthers': WHATEVER THE INPUT: true; the input reads as it did. -/
def fnUnfollowOthersSpec : ChangeSpec := { name := "fnUnfollowOthers", fn := fun _ => fun
  | [d] => { results := [.lit (.bool true)], args := [d] }
  | _ => none }
def fnUnfollowOthersRow : OpenClaim := { program := "ytohodhogbdcdmab", sum := "e2874444ddf44f69cba04e7ba0f8b1a1ae3b88f59145523a609d1dee8bd50d93", func := "loop.example/fanoutlog/laws.FnUnfollowOthers", spec := "fnUnfollowOthers", unfollowed := true, recurses := true, apart := false }
def FnUnfollowOthersSaid : Prop := fnUnfollowOthersRow.holds Try.pinned (OpenSpec.ofChange fnUnfollowOthersSpec)

/-- ITS FALSE NEIGHBOUR: 'it returns false'. Refute it at one input. -/
def fnUnfollowOthersWrong : ChangeSpec := { name := "fnUnfollowOthers", fn := fun _ => fun
  | [d] => { results := [.lit (.bool false)], args := [d] }
  | _ => none }
def FnUnfollowOthersWrongFalsely : Prop := fnUnfollowOthersRow.holds Try.pinned (OpenSpec.ofChange fnUnfollowOthersWrong)

/-- 'laws.FnExactAccountsValid': WHATEVER THE INPUT: true; the input reads as it did. -/
def fnExactAccountsValidSpec : ChangeSpec := { name := "fnExactAccountsValid", fn := fun _ => fun
  | [d] => { results := [.lit (.bool true)], args := [d] }
  | _ => none }
def fnExactAccountsValidRow : OpenClaim := { program := "ytohodhogbdcdmab", sum := "e2874444ddf44f69cba04e7ba0f8b1a1ae3b88f59145523a609d1dee8bd50d93", func := "loop.example/fanoutlog/laws.FnExactAccountsValid", spec := "fnExactAccountsValid", apart := false }
def FnExactAccountsValidSaid : Prop := fnExactAccountsValidRow.holds Try.pinned (OpenSpec.ofChange fnExactAccountsValidSpec)

/-- ITS FALSE NEIGHBOUR: 'it returns false'. Refute it at one input. -/
def fnExactAccountsValidWrong : ChangeSpec := { name := "fnExactAccountsValid", fn := fun _ => fun
  | [d] => { results := [.lit (.bool false)], args := [d] }
  | _ => none }
def FnExactAccountsValidWrongFalsely : Prop := fnExactAccountsValidRow.holds Try.pinned (OpenSpec.ofChange fnExactAccountsValidWrong)

/-- 'laws.FnExactFollowersOf': WHATEVER THE INPUT: true; the input reads as it did. -/
def fnExactFollowersOfSpec : ChangeSpec := { name := "fnExactFollowersOf", fn := fun _ => fun
  | [d1, d2] => { results := [.lit (.bool true)], args := [d1, d2] }
  | _ => none }
def fnExactFollowersOfRow : OpenClaim := { program := "ytohodhogbdcdmab", sum := "e2874444ddf44f69cba04e7ba0f8b1a1ae3b88f59145523a609d1dee8bd50d93", func := "loop.example/fanoutlog/laws.FnExactFollowersOf", spec := "fnExactFollowersOf", apart := false }
def FnExactFollowersOfSaid : Prop := fnExactFollowersOfRow.holds Try.pinned (OpenSpec.ofChange fnExactFollowersOfSpec)

/-- ITS FALSE NEIGHBOUR: 'it returns false'. Refute it at one input. -/
def fnExactFollowersOfWrong : ChangeSpec := { name := "fnExactFollowersOf", fn := fun _ => fun
  | [d1, d2] => { results := [.lit (.bool false)], args := [d1, d2] }
  | _ => none }
def FnExactFollowersOfWrongFalsely : Prop := fnExactFollowersOfRow.holds Try.pinned (OpenSpec.ofChange fnExactFollowersOfWrong)

/-- 'laws.FnExactFollowedBy': WHATEVER THE INPUT: true; the input reads as it did. -/
def fnExactFollowedBySpec : ChangeSpec := { name := "fnExactFollowedBy", fn := fun _ => fun
  | [d1, d2] => { results := [.lit (.bool true)], args := [d1, d2] }
  | _ => none }
def fnExactFollowedByRow : OpenClaim := { program := "ytohodhogbdcdmab", sum := "e2874444ddf44f69cba04e7ba0f8b1a1ae3b88f59145523a609d1dee8bd50d93", func := "loop.example/fanoutlog/laws.FnExactFollowedBy", spec := "fnExactFollowedBy", unfollowed := true, recurses := true, apart := false }
def FnExactFollowedBySaid : Prop := fnExactFollowedByRow.holds Try.pinned (OpenSpec.ofChange fnExactFollowedBySpec)

/-- ITS FALSE NEIGHBOUR: 'it returns false'. Refute it at one input. -/
def fnExactFollowedByWrong : ChangeSpec := { name := "fnExactFollowedBy", fn := fun _ => fun
  | [d1, d2] => { results := [.lit (.bool false)], args := [d1, d2] }
  | _ => none }
def FnExactFollowedByWrongFalsely : Prop := fnExactFollowedByRow.holds Try.pinned (OpenSpec.ofChange fnExactFollowedByWrong)

/-- 'laws.FnExactFollow': WHATEVER THE INPUT: true; the input reads as it did. -/
def fnExactFollowSpec : ChangeSpec := { name := "fnExactFollow", fn := fun _ => fun
  | [d1, d2, d3] => { results := [.lit (.bool true)], args := [d1, d2, d3] }
  | _ => none }
def fnExactFollowRow : OpenClaim := { program := "ytohodhogbdcdmab", sum := "e2874444ddf44f69cba04e7ba0f8b1a1ae3b88f59145523a609d1dee8bd50d93", func := "loop.example/fanoutlog/laws.FnExactFollow", spec := "fnExactFollow", unfollowed := true, recurses := true, apart := false }
def FnExactFollowSaid : Prop := fnExactFollowRow.holds Try.pinned (OpenSpec.ofChange fnExactFollowSpec)

/-- ITS FALSE NEIGHBOUR: 'it returns false'. Refute it at one input. -/
def fnExactFollowWrong : ChangeSpec := { name := "fnExactFollow", fn := fun _ => fun
  | [d1, d2, d3] => { results := [.lit (.bool false)], args := [d1, d2, d3] }
  | _ => none }
def FnExactFollowWrongFalsely : Prop := fnExactFollowRow.holds Try.pinned (OpenSpec.ofChange fnExactFollowWrong)

/-- 'laws.FnExactUnfollow': WHATEVER THE INPUT: true; the input reads as it did. -/
def fnExactUnfollowSpec : ChangeSpec := { name := "fnExactUnfollow", fn := fun _ => fun
  | [d1, d2, d3] => { results := [.lit (.bool true)], args := [d1, d2, d3] }
  | _ => none }
def fnExactUnfollowRow : OpenClaim := { program := "ytohodhogbdcdmab", sum := "e2874444ddf44f69cba04e7ba0f8b1a1ae3b88f59145523a609d1dee8bd50d93", func := "loop.example/fanoutlog/laws.FnExactUnfollow", spec := "fnExactUnfollow", unfollowed := true, recurses := true, apart := false }
def FnExactUnfollowSaid : Prop := fnExactUnfollowRow.holds Try.pinned (OpenSpec.ofChange fnExactUnfollowSpec)

/-- ITS FALSE NEIGHBOUR: 'it returns false'. Refute it at one input. -/
def fnExactUnfollowWrong : ChangeSpec := { name := "fnExactUnfollow", fn := fun _ => fun
  | [d1, d2, d3] => { results := [.lit (.bool false)], args := [d1, d2, d3] }
  | _ => none }
def FnExactUnfollowWrongFalsely : Prop := fnExactUnfollowRow.holds Try.pinned (OpenSpec.ofChange fnExactUnfollowWrong)

/- THE SECOND FORM. 'bulk': how many values and letters a reading holds, each counted each time it is reached (what is shared counts as often as it is met; a slice's spare places count too). A statement '..UptoSaid' is the law's where the arguments, and the package variables that the reading takes, are together of bulk at most 1048576: NARROWER than '..Said'. Prove '..Said' where nothing that the law and all that it calls make is longer than what came in: it says more and counts as full. Else prove '..UptoSaid'. A law counts once. -/
mutual
def uptoBulk {H : Type} : DataW H → Nat
  | .lit (.string bytes) => bytes.length + 1
  | .lit _ => 1
  | .nil => 1
  | .ptr d => uptoBulk d + 1
  | .slice elems spare => uptoBulkAll elems + uptoBulkAll spare + 1
  | .agg parts => uptoBulkAll parts + 1
  | .iface _ d => uptoBulk d + 1
  | .map entries => uptoBulkEntries entries + 1
  | .held _ => 1
def uptoBulkAll {H : Type} : List (DataW H) → Nat
  | [] => 0
  | d :: r => uptoBulk d + uptoBulkAll r
def uptoBulkEntries {H : Type} : List (Lit × DataW H) → Nat
  | [] => 0
  | x :: r => uptoBulkEntry x + uptoBulkEntries r
def uptoBulkEntry {H : Type} : Lit × DataW H → Nat
  | (.string bytes, d) => bytes.length + uptoBulk d + 1
  | (_, d) => uptoBulk d + 1
 end
def uptoSmall : (H : Type) → List (DataW H) → Bool := fun _ ds => decide (uptoBulkAll ds ≤ 1048576)
def OpenSpec.upto (s : _root_.Go.ChangeSpec) : _root_.Go.OpenSpec := { _root_.Go.OpenSpec.ofChange s with cond := some uptoSmall }

/-- 'laws.FnFollowOthers', WHERE WHAT IT READS IS OF BULK AT MOST 1048576: true; the input reads as it did. -/
def fnFollowOthersUptoRow : OpenClaim := { program := "ytohodhogbdcdmab", sum := "e2874444ddf44f69cba04e7ba0f8b1a1ae3b88f59145523a609d1dee8bd50d93", func := "loop.example/fanoutlog/laws.FnFollowOthers", spec := "fnFollowOthers", unfollowed := true, recurses := true, apart := false, narrowed := true }
def FnFollowOthersUptoSaid : Prop := fnFollowOthersUptoRow.holds Try.pinned (OpenSpec.upto fnFollowOthersSpec)

/-- 'laws.FnUnfollow', WHERE WHAT IT READS IS OF BULK AT MOST 1048576: true; the input reads as it did. -/
def fnUnfollowUptoRow : OpenClaim := { program := "ytohodhogbdcdmab", sum := "e2874444ddf44f69cba04e7ba0f8b1a1ae3b88f59145523a609d1dee8bd50d93", func := "loop.example/fanoutlog/laws.FnUnfollow", spec := "fnUnfollow", unfollowed := true, recurses := true, apart := false, narrowed := true }
def FnUnfollowUptoSaid : Prop := fnUnfollowUptoRow.holds Try.pinned (OpenSpec.upto fnUnfollowSpec)

/-- 'laws.FnUnfollowBack', WHERE WHAT IT READS IS OF BULK AT MOST 1048576: true; the input reads as it did. -/
def fnUnfollowBackUptoRow : OpenClaim := { program := "ytohodhogbdcdmab", sum := "e2874444ddf44f69cba04e7ba0f8b1a1ae3b88f59145523a609d1dee8bd50d93", func := "loop.example/fanoutlog/laws.FnUnfollowBack", spec := "fnUnfollowBack", unfollowed := true, recurses := true, apart := false, narrowed := true }
def FnUnfollowBackUptoSaid : Prop := fnUnfollowBackUptoRow.holds Try.pinned (OpenSpec.upto fnUnfollowBackSpec)

/-- 'laws.FnUnfollowOthers', WHERE WHAT IT READS IS OF BULK AT MOST 1048576: true; the input reads as it did. -/
def fnUnfollowOthersUptoRow : OpenClaim := { program := "ytohodhogbdcdmab", sum := "e2874444ddf44f69cba04e7ba0f8b1a1ae3b88f59145523a609d1dee8bd50d93", func := "loop.example/fanoutlog/laws.FnUnfollowOthers", spec := "fnUnfollowOthers", unfollowed := true, recurses := true, apart := false, narrowed := true }
def FnUnfollowOthersUptoSaid : Prop := fnUnfollowOthersUptoRow.holds Try.pinned (OpenSpec.upto fnUnfollowOthersSpec)

/-- 'laws.FnExactAccountsValid', WHERE WHAT IT READS IS OF BULK AT MOST 1048576: true; the input reads as it did. -/
def fnExactAccountsValidUptoRow : OpenClaim := { program := "ytohodhogbdcdmab", sum := "e2874444ddf44f69cba04e7ba0f8b1a1ae3b88f59145523a609d1dee8bd50d93", func := "loop.example/fanoutlog/laws.FnExactAccountsValid", spec := "fnExactAccountsValid", apart := false, narrowed := true }
def FnExactAccountsValidUptoSaid : Prop := fnExactAccountsValidUptoRow.holds Try.pinned (OpenSpec.upto fnExactAccountsValidSpec)

/-- 'laws.FnExactFollowersOf', WHERE WHAT IT READS IS OF BULK AT MOST 1048576: true; the input reads as it did. -/
def fnExactFollowersOfUptoRow : OpenClaim := { program := "ytohodhogbdcdmab", sum := "e2874444ddf44f69cba04e7ba0f8b1a1ae3b88f59145523a609d1dee8bd50d93", func := "loop.example/fanoutlog/laws.FnExactFollowersOf", spec := "fnExactFollowersOf", apart := false, narrowed := true }
def FnExactFollowersOfUptoSaid : Prop := fnExactFollowersOfUptoRow.holds Try.pinned (OpenSpec.upto fnExactFollowersOfSpec)

/-- 'laws.FnExactFollowedBy', WHERE WHAT IT READS IS OF BULK AT MOST 1048576: true; the input reads as it did. -/
def fnExactFollowedByUptoRow : OpenClaim := { program := "ytohodhogbdcdmab", sum := "e2874444ddf44f69cba04e7ba0f8b1a1ae3b88f59145523a609d1dee8bd50d93", func := "loop.example/fanoutlog/laws.FnExactFollowedBy", spec := "fnExactFollowedBy", unfollowed := true, recurses := true, apart := false, narrowed := true }
def FnExactFollowedByUptoSaid : Prop := fnExactFollowedByUptoRow.holds Try.pinned (OpenSpec.upto fnExactFollowedBySpec)

/-- 'laws.FnExactFollow', WHERE WHAT IT READS IS OF BULK AT MOST 1048576: true; the input reads as it did. -/
def fnExactFollowUptoRow : OpenClaim := { program := "ytohodhogbdcdmab", sum := "e2874444ddf44f69cba04e7ba0f8b1a1ae3b88f59145523a609d1dee8bd50d93", func := "loop.example/fanoutlog/laws.FnExactFollow", spec := "fnExactFollow", unfollowed := true, recurses := true, apart := false, narrowed := true }
def FnExactFollowUptoSaid : Prop := fnExactFollowUptoRow.holds Try.pinned (OpenSpec.upto fnExactFollowSpec)

/-- 'laws.FnExactUnfollow', WHERE WHAT IT READS IS OF BULK AT MOST 1048576: true; the input reads as it did. -/
def fnExactUnfollowUptoRow : OpenClaim := { program := "ytohodhogbdcdmab", sum := "e2874444ddf44f69cba04e7ba0f8b1a1ae3b88f59145523a609d1dee8bd50d93", func := "loop.example/fanoutlog/laws.FnExactUnfollow", spec := "fnExactUnfollow", unfollowed := true, recurses := true, apart := false, narrowed := true }
def FnExactUnfollowUptoSaid : Prop := fnExactUnfollowUptoRow.holds Try.pinned (OpenSpec.upto fnExactUnfollowSpec)

end Rows
end Go.Proofs.Ytohodhogbdcdmab
