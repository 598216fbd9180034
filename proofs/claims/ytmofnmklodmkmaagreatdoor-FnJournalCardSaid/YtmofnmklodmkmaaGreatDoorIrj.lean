/- Records and journals of the program. -/
import Derived.Test.YtmofnmklodmkmaaGreatDoorJww
import Derived.Test.YtmofnmklodmkmaaGreatDoorJr7
import Derived.Test.YtmofnmklodmkmaaGreatDoorRo
import Derived.Test.YtmofnmklodmkmaaGreatDoorIrk
import Derived.Test.YtmofnmklodmkmaaGreatDoorIrt
import Derived.Test.YtmofnmklodmkmaaGreatDoorIjt
import Derived.Test.YtmofnmklodmkmaaGreatDoorZp
set_option linter.unusedVariables false
namespace Go.Proofs.YtmofnmklodmkmaaGreatDoor
end Go.Proofs.YtmofnmklodmkmaaGreatDoor
