/- Records and journals of the program. -/
import Derived.Test.YtmofnmklodmkmaaDoorJww
import Derived.Test.YtmofnmklodmkmaaDoorJr7
import Derived.Test.YtmofnmklodmkmaaDoorRo
import Derived.Test.YtmofnmklodmkmaaDoorIrk
import Derived.Test.YtmofnmklodmkmaaDoorIrt
import Derived.Test.YtmofnmklodmkmaaDoorIjt
set_option linter.unusedVariables false
namespace Go.Proofs.YtmofnmklodmkmaaDoor
end Go.Proofs.YtmofnmklodmkmaaDoor
