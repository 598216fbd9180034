/- The end of a line: the spec's. -/
import Derived.Test.YtmofnmklodmkmaaDoorRf
import Derived.Test.YtmofnmklodmkmaaDoorJnl
set_option linter.unusedVariables false
set_option linter.unusedSimpArgs false
namespace Go.Proofs.YtmofnmklodmkmaaDoor
open Go.RowKit

/-- Where a line ends, or that there is none. -/
def LEnd (s : ByteArray) (a : Nat) (e : Ending) : Prop := (e = .returned (.int .i64 (-1)) ∧ (10 : UInt8) ∉ s.data.toList.drop a) ∨ ∃ l rest, e = .returned (.int .i64 ((a + l.length : Nat) : Int)) ∧ s.data.toList.drop a = l ++ 10 :: rest ∧ (10 : UInt8) ∉ l

end Go.Proofs.YtmofnmklodmkmaaDoor
