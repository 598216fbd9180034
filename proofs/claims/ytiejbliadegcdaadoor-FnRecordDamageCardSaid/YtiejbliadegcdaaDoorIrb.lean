/- Records of the program. -/
import Derived.Test.YtiejbliadegcdaaDoorIrk
import Derived.Test.YtiejbliadegcdaaDoorIrt
import Derived.Test.YtiejbliadegcdaaDoorIrg
namespace Go.Proofs.YtiejbliadegcdaaDoor
end Go.Proofs.YtiejbliadegcdaaDoor
