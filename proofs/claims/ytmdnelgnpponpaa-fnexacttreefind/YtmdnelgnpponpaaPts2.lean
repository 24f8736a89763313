/- Lists of points: one held against the other; the one behind. -/
import Derived.Test.YtmdnelgnpponpaaPts
namespace Go.Proofs.Ytmdnelgnpponpaa
open Go.RowKit
set_option linter.unusedSimpArgs false
set_option linter.unusedVariables false
end Go.Proofs.Ytmdnelgnpponpaa
