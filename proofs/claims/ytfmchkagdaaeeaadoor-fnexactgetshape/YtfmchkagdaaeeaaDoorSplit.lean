/- Plain lists: the library's splitting at blanks is the scan that the specification's Words makes. -/
import Derived.Lib.SplitLaws
import Derived.Lib.IndexLaws
import Derived.Lib.RabinKarpLaws
namespace Go.Proofs.YtfmchkagdaaeeaaDoor
def by8 (s : ByteArray) (k : Nat) : Nat := if h : k < s.size then (s[k]'h).toNat else 0
theorem by8_at (s : ByteArray) (k : Nat) (h : k < s.size) : (s[k]'h).toNat = by8 s k := by unfold by8; rw [dif_pos h]
def rest (s : ByteArray) : Nat → Nat → Nat → List ByteArray
  | 0, from_, _ => [s.extract from_ s.size]
  | f + 1, from_, i => if by8 s i = 32 then s.extract from_ i :: rest s f (i + 1) (i + 1) else rest s f from_ (i + 1)
end Go.Proofs.YtfmchkagdaaeeaaDoor
