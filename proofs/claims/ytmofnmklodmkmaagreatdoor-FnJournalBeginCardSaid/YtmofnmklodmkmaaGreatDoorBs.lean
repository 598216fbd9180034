/- Where a name stands: slices.BinarySearch, nameList.place. -/
import Derived.Test.YtmofnmklodmkmaaGreatDoorNs3
namespace Go.Proofs.YtmofnmklodmkmaaGreatDoor
open Go.RowKit

end Go.Proofs.YtmofnmklodmkmaaGreatDoor
