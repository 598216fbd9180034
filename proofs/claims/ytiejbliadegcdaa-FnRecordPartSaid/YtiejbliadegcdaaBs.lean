/- Where a name stands: slices.BinarySearch, nameList.place. -/
import Derived.Test.YtiejbliadegcdaaNs3
namespace Go.Proofs.Ytiejbliadegcdaa
open Go.RowKit

end Go.Proofs.Ytiejbliadegcdaa
