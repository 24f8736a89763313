/- A reader of bytes: what it reads at a place, and that it refuses by a panic. -/
import Derived.Test.YtfmchkagdaaeeaaGreatDoorGetM
import Derived.Deep.RegionWith
import Derived.WalkLawsBesides
namespace Go.Proofs.YtfmchkagdaaeeaaGreatDoor
open Go.RowKit
/-- A reader's refusal. -/
def Refused (e : Ending) : Prop := ∃ t, e = .panicked [{ v := .iface 47 (.agg #[.string t]), recovered := false }]
end Go.Proofs.YtfmchkagdaaeeaaGreatDoor
