/- Where a name stands: slices.BinarySearch, nameList.place. -/
import Derived.Test.YtiejbliadegcdaaDoorNs3
namespace Go.Proofs.YtiejbliadegcdaaDoor
open Go.RowKit

end Go.Proofs.YtiejbliadegcdaaDoor
