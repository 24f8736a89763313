/- Texts of stores, joined: DrawB. -/
import Derived.Test.YtjafahhoihlliaaGreatDoorJ28
import Derived.Test.YtjafahhoihlliaaGreatDoorJ21
namespace Go.Proofs.YtjafahhoihlliaaGreatDoor
open Go.RowKit
set_option linter.unusedVariables false
set_option linter.unusedSimpArgs false
def Cd2 (z : Int) : Prop := -40010 ≤ z ∧ z ≤ 40010
end Go.Proofs.YtjafahhoihlliaaGreatDoor
