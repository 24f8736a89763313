/- What a law of moves needs besides. -/
import Derived.Test.YtkncdncpgjpemaaMove2
namespace Go.Proofs.Ytkncdncpgjpemaa
open Go.RowKit
theorem OwnP.grown {w w' : World} {a : Option Addr} {ps : List (Int × Int)} {r : Option Nat} (h : OwnP w a ps) (hg : w.grownBy w' r) (hne : ∀ c off, a = some ⟨c, off, none⟩ → some c ≠ r) : OwnP w' a ps := by
  rcases h with ⟨rfl, rfl⟩ | ⟨b, rfl, h⟩
  · exact .inl ⟨rfl, rfl⟩
  · exact .inr ⟨b, rfl, PtsOwn.of_block h (hg.block b h.1 (hne b 0 rfl)) hg.size⟩
theorem OwnP.lt {w : World} {a : Option Addr} {ps : List (Int × Int)} (h : OwnP w a ps) : ∀ c off, a = some ⟨c, off, none⟩ → c < w.heap.size := by
  intro c off e
  rcases h with ⟨rfl, rfl⟩ | ⟨b, rfl, h⟩
  · cases e
  · cases e; exact h.1
end Go.Proofs.Ytkncdncpgjpemaa
