/- Walk of FnRecordCut. -/
import Derived.Test.YtiejbliadegcdaaDrR3
import Derived.Test.YtiejbliadegcdaaLRf
set_option linter.unusedVariables false
set_option linter.unusedSimpArgs false
namespace Go.Proofs.Ytiejbliadegcdaa
open Go.RowKit Go.BigFrame

end Go.Proofs.Ytiejbliadegcdaa
