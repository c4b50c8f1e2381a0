
/- Contract: which of two keys comes first. -/
import Derived.Test.YtedolfggbgmklaaOrdNewer
namespace Go.Proofs.Ytedolfggbgmklaa
open Go.RowKit
set_option linter.unusedVariables false
set_option maxRecDepth 100000

end Go.Proofs.Ytedolfggbgmklaa
