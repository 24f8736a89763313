/- A byte of a text as a number. -/
import Derived.WalkKit
namespace Go.Proofs.Ytaiifgmlnjgkpaa.Sum
open Go.RowKit
def by8 (s : ByteArray) (k : Nat) : Nat := if h : k < s.size then (s[k]'h).toNat else 0
theorem by8_lt (s : ByteArray) (k : Nat) : by8 s k ≤ 255 := by
  unfold by8; split
  · have := (s[k]).toNat_lt; omega
  · omega
theorem by8_at (s : ByteArray) (k : Nat) (h : k < s.size) : (s[k]'h).toNat = by8 s k := by unfold by8; rw [dif_pos h]
end Go.Proofs.Ytaiifgmlnjgkpaa.Sum
