/-
  No cell of these rows narrows 'for every input' (looked for: loops, veiled, ifaces, maps, wideKeys, modest, calm, conditions, laid).
  DERIVED. THE GIVEN ROWS OF THIS SEAT. 13 by the template 'for every input the law returns true; each argument reads behind the call as it read before'; 0 by the template 'total and deterministic' (their statements: YtfncmkmhdddmiabTotals.lean).
  GIVEN WITH THE SEED: the statements are not yours to turn. If you find one false, say at which input.
  Laid BY PROGRAM, IN A SANDBOX (cutbox-rows.mjs): the forced cells as the released guide's own fill.sh prints them over the translation a03096650aa42d8e… (all of the seat's roots in one cut). By AI agents, Wed Nov 11 2026. No macro, syntax, notation, axiom, sorry.
-/
import Derived.Test.YtfncmkmhdddmiabChecked
import GoSem.Claim
import GoSem.ClaimJoined
import GoSem.ClaimMapViews
import Derived.JoinedTies
import Derived.KernelRfl
namespace Go.Proofs.Ytfncmkmhdddmiab
/- THE CELL 'sum', in the pinned program and in every row, IS THE sha256 OF THE DUMP (.gsa) THAT YtfncmkmhdddmiabProg.lean LOADS. Nothing in Lean hashes anything: it is a label: what it is worth is what the hold of that sum in a sandbox is worth. -/
noncomputable def Try.pinned : Pinned := { name := "ytfncmkmhdddmiab", sum := "a03096650aa42d8e74fc33b04d53c77226307dce1946cc05fb500cdbb8e82f73", checked := Try.checked }
namespace Rows
def none {H : Type} : Left H := { results := [], args := [] }

/-- 'laws.FnPostsAdd': WHATEVER THE INPUT: true; the input reads as it did. -/
def fnPostsAddSpec : ChangeSpec := { name := "fnPostsAdd", fn := fun _ => fun
  | [d] => { results := [.lit (.bool true)], args := [d] }
  | _ => none }
def fnPostsAddRow : OpenClaim := { program := "ytfncmkmhdddmiab", sum := "a03096650aa42d8e74fc33b04d53c77226307dce1946cc05fb500cdbb8e82f73", func := "loop.example/fanoutlog/laws.FnPostsAdd", spec := "fnPostsAdd", apart := false }
def FnPostsAddSaid : Prop := fnPostsAddRow.holds Try.pinned (OpenSpec.ofChange fnPostsAddSpec)

/-- ITS FALSE NEIGHBOUR: 'it returns false'. Refute it at one input. -/
def fnPostsAddWrong : ChangeSpec := { name := "fnPostsAdd", fn := fun _ => fun
  | [d] => { results := [.lit (.bool false)], args := [d] }
  | _ => none }
def FnPostsAddWrongFalsely : Prop := fnPostsAddRow.holds Try.pinned (OpenSpec.ofChange fnPostsAddWrong)

/-- 'laws.FnPostsAddNext': WHATEVER THE INPUT: true; the input reads as it did. -/
def fnPostsAddNextSpec : ChangeSpec := { name := "fnPostsAddNext", fn := fun _ => fun
  | [d] => { results := [.lit (.bool true)], args := [d] }
  | _ => none }
def fnPostsAddNextRow : OpenClaim := { program := "ytfncmkmhdddmiab", sum := "a03096650aa42d8e74fc33b04d53c77226307dce1946cc05fb500cdbb8e82f73", func := "loop.example/fanoutlog/laws.FnPostsAddNext", spec := "fnPostsAddNext", apart := false }
def FnPostsAddNextSaid : Prop := fnPostsAddNextRow.holds Try.pinned (OpenSpec.ofChange fnPostsAddNextSpec)

/-- ITS FALSE NEIGHBOUR: 'it returns false'. Refute it at one input. -/
def fnPostsAddNextWrong : ChangeSpec := { name := "fnPostsAddNext", fn := fun _ => fun
  | [d] => { results := [.lit (.bool false)], args := [d] }
  | _ => none }
def FnPostsAddNextWrongFalsely : Prop := fnPostsAddNextRow.holds Try.pinned (OpenSpec.ofChange fnPostsAddNextWrong)

/-- 'laws.FnPostsAddOf': WHATEVER THE INPUT: true; the input reads as it did. -/
def fnPostsAddOfSpec : ChangeSpec := { name := "fnPostsAddOf", fn := fun _ => fun
  | [d] => { results := [.lit (.bool true)], args := [d] }
  | _ => none }
def fnPostsAddOfRow : OpenClaim := { program := "ytfncmkmhdddmiab", sum := "a03096650aa42d8e74fc33b04d53c77226307dce1946cc05fb500cdbb8e82f73", func := "loop.example/fanoutlog/laws.FnPostsAddOf", spec := "fnPostsAddOf", apart := false }
def FnPostsAddOfSaid : Prop := fnPostsAddOfRow.holds Try.pinned (OpenSpec.ofChange fnPostsAddOfSpec)

/-- ITS FALSE NEIGHBOUR: 'it returns false'. Refute it at one input. -/
def fnPostsAddOfWrong : ChangeSpec := { name := "fnPostsAddOf", fn := fun _ => fun
  | [d] => { results := [.lit (.bool false)], args := [d] }
  | _ => none }
def FnPostsAddOfWrongFalsely : Prop := fnPostsAddOfRow.holds Try.pinned (OpenSpec.ofChange fnPostsAddOfWrong)

/-- 'laws.FnPostsOf': WHATEVER THE INPUT: true; the input reads as it did. -/
def fnPostsOfSpec : ChangeSpec := { name := "fnPostsOf", fn := fun _ => fun
  | [d] => { results := [.lit (.bool true)], args := [d] }
  | _ => none }
def fnPostsOfRow : OpenClaim := { program := "ytfncmkmhdddmiab", sum := "a03096650aa42d8e74fc33b04d53c77226307dce1946cc05fb500cdbb8e82f73", func := "loop.example/fanoutlog/laws.FnPostsOf", spec := "fnPostsOf", apart := false }
def FnPostsOfSaid : Prop := fnPostsOfRow.holds Try.pinned (OpenSpec.ofChange fnPostsOfSpec)

/-- ITS FALSE NEIGHBOUR: 'it returns false'. Refute it at one input. -/
def fnPostsOfWrong : ChangeSpec := { name := "fnPostsOf", fn := fun _ => fun
  | [d] => { results := [.lit (.bool false)], args := [d] }
  | _ => none }
def FnPostsOfWrongFalsely : Prop := fnPostsOfRow.holds Try.pinned (OpenSpec.ofChange fnPostsOfWrong)

/-- 'laws.FnPostsOfAll': WHATEVER THE INPUT: true; the input reads as it did. -/
def fnPostsOfAllSpec : ChangeSpec := { name := "fnPostsOfAll", fn := fun _ => fun
  | [d] => { results := [.lit (.bool true)], args := [d] }
  | _ => none }
def fnPostsOfAllRow : OpenClaim := { program := "ytfncmkmhdddmiab", sum := "a03096650aa42d8e74fc33b04d53c77226307dce1946cc05fb500cdbb8e82f73", func := "loop.example/fanoutlog/laws.FnPostsOfAll", spec := "fnPostsOfAll", apart := false }
def FnPostsOfAllSaid : Prop := fnPostsOfAllRow.holds Try.pinned (OpenSpec.ofChange fnPostsOfAllSpec)

/-- ITS FALSE NEIGHBOUR: 'it returns false'. Refute it at one input. -/
def fnPostsOfAllWrong : ChangeSpec := { name := "fnPostsOfAll", fn := fun _ => fun
  | [d] => { results := [.lit (.bool false)], args := [d] }
  | _ => none }
def FnPostsOfAllWrongFalsely : Prop := fnPostsOfAllRow.holds Try.pinned (OpenSpec.ofChange fnPostsOfAllWrong)

/-- 'laws.FnPostsAuthor': WHATEVER THE INPUT: true; the input reads as it did. -/
def fnPostsAuthorSpec : ChangeSpec := { name := "fnPostsAuthor", fn := fun _ => fun
  | [d] => { results := [.lit (.bool true)], args := [d] }
  | _ => none }
def fnPostsAuthorRow : OpenClaim := { program := "ytfncmkmhdddmiab", sum := "a03096650aa42d8e74fc33b04d53c77226307dce1946cc05fb500cdbb8e82f73", func := "loop.example/fanoutlog/laws.FnPostsAuthor", spec := "fnPostsAuthor", apart := false }
def FnPostsAuthorSaid : Prop := fnPostsAuthorRow.holds Try.pinned (OpenSpec.ofChange fnPostsAuthorSpec)

/-- ITS FALSE NEIGHBOUR: 'it returns false'. Refute it at one input. -/
def fnPostsAuthorWrong : ChangeSpec := { name := "fnPostsAuthor", fn := fun _ => fun
  | [d] => { results := [.lit (.bool false)], args := [d] }
  | _ => none }
def FnPostsAuthorWrongFalsely : Prop := fnPostsAuthorRow.holds Try.pinned (OpenSpec.ofChange fnPostsAuthorWrong)

/-- 'laws.FnPosts': WHATEVER THE INPUT: true; the input reads as it did. -/
def fnPostsSpec : ChangeSpec := { name := "fnPosts", fn := fun _ => fun
  | [d1, d2] => { results := [.lit (.bool true)], args := [d1, d2] }
  | _ => none }
def fnPostsRow : OpenClaim := { program := "ytfncmkmhdddmiab", sum := "a03096650aa42d8e74fc33b04d53c77226307dce1946cc05fb500cdbb8e82f73", func := "loop.example/fanoutlog/laws.FnPosts", spec := "fnPosts", apart := false }
def FnPostsSaid : Prop := fnPostsRow.holds Try.pinned (OpenSpec.ofChange fnPostsSpec)

/-- ITS FALSE NEIGHBOUR: 'it returns false'. Refute it at one input. -/
def fnPostsWrong : ChangeSpec := { name := "fnPosts", fn := fun _ => fun
  | [d1, d2] => { results := [.lit (.bool false)], args := [d1, d2] }
  | _ => none }
def FnPostsWrongFalsely : Prop := fnPostsRow.holds Try.pinned (OpenSpec.ofChange fnPostsWrong)

/-- 'laws.FnPostsRoom': WHATEVER THE INPUT: true; the input reads as it did. -/
def fnPostsRoomSpec : ChangeSpec := { name := "fnPostsRoom", fn := fun _ => fun
  | [d] => { results := [.lit (.bool true)], args := [d] }
  | _ => none }
def fnPostsRoomRow : OpenClaim := { program := "ytfncmkmhdddmiab", sum := "a03096650aa42d8e74fc33b04d53c77226307dce1946cc05fb500cdbb8e82f73", func := "loop.example/fanoutlog/laws.FnPostsRoom", spec := "fnPostsRoom", apart := false }
def FnPostsRoomSaid : Prop := fnPostsRoomRow.holds Try.pinned (OpenSpec.ofChange fnPostsRoomSpec)

/-- ITS FALSE NEIGHBOUR: 'it returns false'. Refute it at one input. -/
def fnPostsRoomWrong : ChangeSpec := { name := "fnPostsRoom", fn := fun _ => fun
  | [d] => { results := [.lit (.bool false)], args := [d] }
  | _ => none }
def FnPostsRoomWrongFalsely : Prop := fnPostsRoomRow.holds Try.pinned (OpenSpec.ofChange fnPostsRoomWrong)

/-- 'laws.FnPostsEach': WHATEVER THE INPUT: true; the input reads as it did. -/
def fnPostsEachSpec : ChangeSpec := { name := "fnPostsEach", fn := fun _ => fun
  | [d1, d2] => { results := [.lit (.bool true)], args := [d1, d2] }
  | _ => none }
def fnPostsEachRow : OpenClaim := { program := "ytfncmkmhdddmiab", sum := "a03096650aa42d8e74fc33b04d53c77226307dce1946cc05fb500cdbb8e82f73", func := "loop.example/fanoutlog/laws.FnPostsEach", spec := "fnPostsEach", apart := false }
def FnPostsEachSaid : Prop := fnPostsEachRow.holds Try.pinned (OpenSpec.ofChange fnPostsEachSpec)

/-- ITS FALSE NEIGHBOUR: 'it returns false'. Refute it at one input. -/
def fnPostsEachWrong : ChangeSpec := { name := "fnPostsEach", fn := fun _ => fun
  | [d1, d2] => { results := [.lit (.bool false)], args := [d1, d2] }
  | _ => none }
def FnPostsEachWrongFalsely : Prop := fnPostsEachRow.holds Try.pinned (OpenSpec.ofChange fnPostsEachWrong)

/-- 'laws.FnExactPostsValid': WHATEVER THE INPUT: true; the input reads as it did. -/
def fnExactPostsValidSpec : ChangeSpec := { name := "fnExactPostsValid", fn := fun _ => fun
  | [d] => { results := [.lit (.bool true)], args := [d] }
  | _ => none }
def fnExactPostsValidRow : OpenClaim := { program := "ytfncmkmhdddmiab", sum := "a03096650aa42d8e74fc33b04d53c77226307dce1946cc05fb500cdbb8e82f73", func := "loop.example/fanoutlog/laws.FnExactPostsValid", spec := "fnExactPostsValid", apart := false }
def FnExactPostsValidSaid : Prop := fnExactPostsValidRow.holds Try.pinned (OpenSpec.ofChange fnExactPostsValidSpec)

/-- ITS FALSE NEIGHBOUR: 'it returns false'. Refute it at one input. -/
def fnExactPostsValidWrong : ChangeSpec := { name := "fnExactPostsValid", fn := fun _ => fun
  | [d] => { results := [.lit (.bool false)], args := [d] }
  | _ => none }
def FnExactPostsValidWrongFalsely : Prop := fnExactPostsValidRow.holds Try.pinned (OpenSpec.ofChange fnExactPostsValidWrong)

/-- 'laws.FnExactPostsAdd': WHATEVER THE INPUT: true; the input reads as it did. -/
def fnExactPostsAddSpec : ChangeSpec := { name := "fnExactPostsAdd", fn := fun _ => fun
  | [d1, d2] => { results := [.lit (.bool true)], args := [d1, d2] }
  | _ => none }
def fnExactPostsAddRow : OpenClaim := { program := "ytfncmkmhdddmiab", sum := "a03096650aa42d8e74fc33b04d53c77226307dce1946cc05fb500cdbb8e82f73", func := "loop.example/fanoutlog/laws.FnExactPostsAdd", spec := "fnExactPostsAdd", apart := false }
def FnExactPostsAddSaid : Prop := fnExactPostsAddRow.holds Try.pinned (OpenSpec.ofChange fnExactPostsAddSpec)

/-- ITS FALSE NEIGHBOUR: 'it returns false'. Refute it at one input. -/
def fnExactPostsAddWrong : ChangeSpec := { name := "fnExactPostsAdd", fn := fun _ => fun
  | [d1, d2] => { results := [.lit (.bool false)], args := [d1, d2] }
  | _ => none }
def FnExactPostsAddWrongFalsely : Prop := fnExactPostsAddRow.holds Try.pinned (OpenSpec.ofChange fnExactPostsAddWrong)

/-- 'laws.FnExactPostsOf': WHATEVER THE INPUT: true; the input reads as it did. -/
def fnExactPostsOfSpec : ChangeSpec := { name := "fnExactPostsOf", fn := fun _ => fun
  | [d1, d2] => { results := [.lit (.bool true)], args := [d1, d2] }
  | _ => none }
def fnExactPostsOfRow : OpenClaim := { program := "ytfncmkmhdddmiab", sum := "a03096650aa42d8e74fc33b04d53c77226307dce1946cc05fb500cdbb8e82f73", func := "loop.example/fanoutlog/laws.FnExactPostsOf", spec := "fnExactPostsOf", apart := false }
def FnExactPostsOfSaid : Prop := fnExactPostsOfRow.holds Try.pinned (OpenSpec.ofChange fnExactPostsOfSpec)

/-- ITS FALSE NEIGHBOUR: 'it returns false'. Refute it at one input. -/
def fnExactPostsOfWrong : ChangeSpec := { name := "fnExactPostsOf", fn := fun _ => fun
  | [d1, d2] => { results := [.lit (.bool false)], args := [d1, d2] }
  | _ => none }
def FnExactPostsOfWrongFalsely : Prop := fnExactPostsOfRow.holds Try.pinned (OpenSpec.ofChange fnExactPostsOfWrong)

/-- 'laws.FnExactPostsAuthor': WHATEVER THE INPUT: true; the input reads as it did. -/
def fnExactPostsAuthorSpec : ChangeSpec := { name := "fnExactPostsAuthor", fn := fun _ => fun
  | [d1, d2] => { results := [.lit (.bool true)], args := [d1, d2] }
  | _ => none }
def fnExactPostsAuthorRow : OpenClaim := { program := "ytfncmkmhdddmiab", sum := "a03096650aa42d8e74fc33b04d53c77226307dce1946cc05fb500cdbb8e82f73", func := "loop.example/fanoutlog/laws.FnExactPostsAuthor", spec := "fnExactPostsAuthor", apart := false }
def FnExactPostsAuthorSaid : Prop := fnExactPostsAuthorRow.holds Try.pinned (OpenSpec.ofChange fnExactPostsAuthorSpec)

/-- ITS FALSE NEIGHBOUR: 'it returns false'. Refute it at one input. -/
def fnExactPostsAuthorWrong : ChangeSpec := { name := "fnExactPostsAuthor", fn := fun _ => fun
  | [d1, d2] => { results := [.lit (.bool false)], args := [d1, d2] }
  | _ => none }
def FnExactPostsAuthorWrongFalsely : Prop := fnExactPostsAuthorRow.holds Try.pinned (OpenSpec.ofChange fnExactPostsAuthorWrong)

/- THE SECOND FORM. 'bulk': how many values and letters a reading holds, each counted each time it is reached (what is shared counts as often as it is met; a slice's spare places count too). A statement '..UptoSaid' is the law's where the arguments, and the package variables that the reading takes, are together of bulk at most 1048576: NARROWER than '..Said'. Prove '..Said' where nothing that the law and all that it calls make is longer than what came in: it says more and counts as full. Else prove '..UptoSaid'. A law counts once. -/
mutual
def uptoBulk {H : Type} : DataW H → Nat
  | .lit (.string bytes) => bytes.length + 1
  | .lit _ => 1
  | .nil => 1
  | .ptr d => uptoBulk d + 1
  | .slice elems spare => uptoBulkAll elems + uptoBulkAll spare + 1
  | .agg parts => uptoBulkAll parts + 1
  | .iface _ d => uptoBulk d + 1
  | .map entries => uptoBulkEntries entries + 1
  | .held _ => 1
def uptoBulkAll {H : Type} : List (DataW H) → Nat
  | [] => 0
  | d :: r => uptoBulk d + uptoBulkAll r
def uptoBulkEntries {H : Type} : List (Lit × DataW H) → Nat
  | [] => 0
  | x :: r => uptoBulkEntry x + uptoBulkEntries r
def uptoBulkEntry {H : Type} : Lit × DataW H → Nat
  | (.string bytes, d) => bytes.length + uptoBulk d + 1
  | (_, d) => uptoBulk d + 1
 end
def uptoSmall : (H : Type) → List (DataW H) → Bool := fun _ ds => decide (uptoBulkAll ds ≤ 1048576)
def OpenSpec.upto (s : _root_.Go.ChangeSpec) : _root_.Go.OpenSpec := { _root_.Go.OpenSpec.ofChange s with cond := some uptoSmall }

/-- 'laws.FnPostsAdd', WHERE WHAT IT READS IS OF BULK AT MOST 1048576: true; the input reads as it did. -/
def fnPostsAddUptoRow : OpenClaim := { program := "ytfncmkmhdddmiab", sum := "a03096650aa42d8e74fc33b04d53c77226307dce1946cc05fb500cdbb8e82f73", func := "loop.example/fanoutlog/laws.FnPostsAdd", spec := "fnPostsAdd", apart := false, narrowed := true }
def FnPostsAddUptoSaid : Prop := fnPostsAddUptoRow.holds Try.pinned (OpenSpec.upto fnPostsAddSpec)

/-- 'laws.FnPostsAddNext', WHERE WHAT IT READS IS OF BULK AT MOST 1048576: true; the input reads as it did. -/
def fnPostsAddNextUptoRow : OpenClaim := { program := "ytfncmkmhdddmiab", sum := "a03096650aa42d8e74fc33b04d53c77226307dce1946cc05fb500cdbb8e82f73", func := "loop.example/fanoutlog/laws.FnPostsAddNext", spec := "fnPostsAddNext", apart := false, narrowed := true }
def FnPostsAddNextUptoSaid : Prop := fnPostsAddNextUptoRow.holds Try.pinned (OpenSpec.upto fnPostsAddNextSpec)

/-- 'laws.FnPostsAddOf', WHERE WHAT IT READS IS OF BULK AT MOST 1048576: true; the input reads as it did. -/
def fnPostsAddOfUptoRow : OpenClaim := { program := "ytfncmkmhdddmiab", sum := "a03096650aa42d8e74fc33b04d53c77226307dce1946cc05fb500cdbb8e82f73", func := "loop.example/fanoutlog/laws.FnPostsAddOf", spec := "fnPostsAddOf", apart := false, narrowed := true }
def FnPostsAddOfUptoSaid : Prop := fnPostsAddOfUptoRow.holds Try.pinned (OpenSpec.upto fnPostsAddOfSpec)

/-- 'laws.FnPostsOf', WHERE WHAT IT READS IS OF BULK AT MOST 1048576: true; the input reads as it did. -/
def fnPostsOfUptoRow : OpenClaim := { program := "ytfncmkmhdddmiab", sum := "a03096650aa42d8e74fc33b04d53c77226307dce1946cc05fb500cdbb8e82f73", func := "loop.example/fanoutlog/laws.FnPostsOf", spec := "fnPostsOf", apart := false, narrowed := true }
def FnPostsOfUptoSaid : Prop := fnPostsOfUptoRow.holds Try.pinned (OpenSpec.upto fnPostsOfSpec)

/-- 'laws.FnPostsOfAll', WHERE WHAT IT READS IS OF BULK AT MOST 1048576: true; the input reads as it did. -/
def fnPostsOfAllUptoRow : OpenClaim := { program := "ytfncmkmhdddmiab", sum := "a03096650aa42d8e74fc33b04d53c77226307dce1946cc05fb500cdbb8e82f73", func := "loop.example/fanoutlog/laws.FnPostsOfAll", spec := "fnPostsOfAll", apart := false, narrowed := true }
def FnPostsOfAllUptoSaid : Prop := fnPostsOfAllUptoRow.holds Try.pinned (OpenSpec.upto fnPostsOfAllSpec)

/-- 'laws.FnPostsAuthor', WHERE WHAT IT READS IS OF BULK AT MOST 1048576: true; the input reads as it did. -/
def fnPostsAuthorUptoRow : OpenClaim := { program := "ytfncmkmhdddmiab", sum := "a03096650aa42d8e74fc33b04d53c77226307dce1946cc05fb500cdbb8e82f73", func := "loop.example/fanoutlog/laws.FnPostsAuthor", spec := "fnPostsAuthor", apart := false, narrowed := true }
def FnPostsAuthorUptoSaid : Prop := fnPostsAuthorUptoRow.holds Try.pinned (OpenSpec.upto fnPostsAuthorSpec)

/-- 'laws.FnPosts', WHERE WHAT IT READS IS OF BULK AT MOST 1048576: true; the input reads as it did. -/
def fnPostsUptoRow : OpenClaim := { program := "ytfncmkmhdddmiab", sum := "a03096650aa42d8e74fc33b04d53c77226307dce1946cc05fb500cdbb8e82f73", func := "loop.example/fanoutlog/laws.FnPosts", spec := "fnPosts", apart := false, narrowed := true }
def FnPostsUptoSaid : Prop := fnPostsUptoRow.holds Try.pinned (OpenSpec.upto fnPostsSpec)

/-- 'laws.FnPostsRoom', WHERE WHAT IT READS IS OF BULK AT MOST 1048576: true; the input reads as it did. -/
def fnPostsRoomUptoRow : OpenClaim := { program := "ytfncmkmhdddmiab", sum := "a03096650aa42d8e74fc33b04d53c77226307dce1946cc05fb500cdbb8e82f73", func := "loop.example/fanoutlog/laws.FnPostsRoom", spec := "fnPostsRoom", apart := false, narrowed := true }
def FnPostsRoomUptoSaid : Prop := fnPostsRoomUptoRow.holds Try.pinned (OpenSpec.upto fnPostsRoomSpec)

/-- 'laws.FnPostsEach', WHERE WHAT IT READS IS OF BULK AT MOST 1048576: true; the input reads as it did. -/
def fnPostsEachUptoRow : OpenClaim := { program := "ytfncmkmhdddmiab", sum := "a03096650aa42d8e74fc33b04d53c77226307dce1946cc05fb500cdbb8e82f73", func := "loop.example/fanoutlog/laws.FnPostsEach", spec := "fnPostsEach", apart := false, narrowed := true }
def FnPostsEachUptoSaid : Prop := fnPostsEachUptoRow.holds Try.pinned (OpenSpec.upto fnPostsEachSpec)

/-- 'laws.FnExactPostsValid', WHERE WHAT IT READS IS OF BULK AT MOST 1048576: true; the input reads as it did. -/
def fnExactPostsValidUptoRow : OpenClaim := { program := "ytfncmkmhdddmiab", sum := "a03096650aa42d8e74fc33b04d53c77226307dce1946cc05fb500cdbb8e82f73", func := "loop.example/fanoutlog/laws.FnExactPostsValid", spec := "fnExactPostsValid", apart := false, narrowed := true }
def FnExactPostsValidUptoSaid : Prop := fnExactPostsValidUptoRow.holds Try.pinned (OpenSpec.upto fnExactPostsValidSpec)

/-- 'laws.FnExactPostsAdd', WHERE WHAT IT READS IS OF BULK AT MOST 1048576: true; the input reads as it did. -/
def fnExactPostsAddUptoRow : OpenClaim := { program := "ytfncmkmhdddmiab", sum := "a03096650aa42d8e74fc33b04d53c77226307dce1946cc05fb500cdbb8e82f73", func := "loop.example/fanoutlog/laws.FnExactPostsAdd", spec := "fnExactPostsAdd", apart := false, narrowed := true }
def FnExactPostsAddUptoSaid : Prop := fnExactPostsAddUptoRow.holds Try.pinned (OpenSpec.upto fnExactPostsAddSpec)

/-- 'laws.FnExactPostsOf', WHERE WHAT IT READS IS OF BULK AT MOST 1048576: true; the input reads as it did. -/
def fnExactPostsOfUptoRow : OpenClaim := { program := "ytfncmkmhdddmiab", sum := "a03096650aa42d8e74fc33b04d53c77226307dce1946cc05fb500cdbb8e82f73", func := "loop.example/fanoutlog/laws.FnExactPostsOf", spec := "fnExactPostsOf", apart := false, narrowed := true }
def FnExactPostsOfUptoSaid : Prop := fnExactPostsOfUptoRow.holds Try.pinned (OpenSpec.upto fnExactPostsOfSpec)

/-- 'laws.FnExactPostsAuthor', WHERE WHAT IT READS IS OF BULK AT MOST 1048576: true; the input reads as it did. -/
def fnExactPostsAuthorUptoRow : OpenClaim := { program := "ytfncmkmhdddmiab", sum := "a03096650aa42d8e74fc33b04d53c77226307dce1946cc05fb500cdbb8e82f73", func := "loop.example/fanoutlog/laws.FnExactPostsAuthor", spec := "fnExactPostsAuthor", apart := false, narrowed := true }
def FnExactPostsAuthorUptoSaid : Prop := fnExactPostsAuthorUptoRow.holds Try.pinned (OpenSpec.upto fnExactPostsAuthorSpec)

end Rows
end Go.Proofs.Ytfncmkmhdddmiab
