/- Where a name stands: slices.BinarySearch, nameList.place. -/
import Derived.Test.YtmofnmklodmkmaaDoorNs3
namespace Go.Proofs.YtmofnmklodmkmaaDoor
open Go.RowKit

end Go.Proofs.YtmofnmklodmkmaaDoor
