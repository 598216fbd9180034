/- Records of the program. -/
import Derived.Test.YtiejbliadegcdaaIrk
namespace Go.Proofs.Ytiejbliadegcdaa
end Go.Proofs.Ytiejbliadegcdaa
