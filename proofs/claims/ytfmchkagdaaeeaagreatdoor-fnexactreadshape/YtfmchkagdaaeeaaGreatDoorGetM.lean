/- Plain lists: a number is read back from its groups of seven bits just where none of them is needless. -/
import Derived.Test.YtfmchkagdaaeeaaGreatDoorDrawP
import Derived.Laws.BitsAllLaws
import Derived.Laws.BytesArg
import Derived.Test.YtfmchkagdaaeeaaGreatDoorSum
import Derived.Lib.Strings
import Derived.Lib.RabinKarpLaws
namespace Go.Proofs.YtfmchkagdaaeeaaGreatDoor
/-- What groups of seven bits come to, the lowest first. -/
def val : List Nat → Nat
  | [] => 0
  | d :: t => d % 128 + 128 * val t
def acc (s : ByteArray) (i : Nat) : Nat → Nat
  | 0 => 0
  | j + 1 => acc s i j + by8 s (i + j) % 128 * 128 ^ j
end Go.Proofs.YtfmchkagdaaeeaaGreatDoor
