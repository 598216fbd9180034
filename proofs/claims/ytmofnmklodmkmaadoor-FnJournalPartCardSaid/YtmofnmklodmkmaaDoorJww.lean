/- What is asked of the world where errors.As is come to, too. -/
import Derived.Test.YtmofnmklodmkmaaDoorLbs
set_option linter.unusedVariables false
namespace Go.Proofs.YtmofnmklodmkmaaDoor
open Go.RowKit
end Go.Proofs.YtmofnmklodmkmaaDoor
