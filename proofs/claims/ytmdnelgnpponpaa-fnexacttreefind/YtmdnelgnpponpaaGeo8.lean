/- The specification's SidesMeet answers as the landed one does. -/
import Derived.Test.YtmdnelgnpponpaaGeo6
namespace Go.Proofs.Ytmdnelgnpponpaa
open Go.RowKit
set_option linter.unusedSimpArgs false
set_option linter.unusedVariables false
end Go.Proofs.Ytmdnelgnpponpaa
