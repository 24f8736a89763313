/- The landed CheckSum and the specification's answer the same number at every text: contracts for the statement on them. -/
import Derived.Test.YtfmchkagdaaeeaaGreatDoorSplit
import Derived.Test.YtfmchkagdaaeeaaGreatDoorDec
import Derived.WalkKit
import Derived.Handy
import Derived.Laws.BitsAllLaws
namespace Go.Proofs.YtfmchkagdaaeeaaGreatDoor
open Go.RowKit
def cs (s : ByteArray) : Nat → Nat × Nat
  | 0 => (1, 0)
  | k + 1 => (((cs s k).1 + by8 s k) % 65521, ((cs s k).2 + ((cs s k).1 + by8 s k) % 65521) % 65521)
def sum (s : ByteArray) : Nat := 65536 * (cs s s.size).2 + (cs s s.size).1
end Go.Proofs.YtfmchkagdaaeeaaGreatDoor
