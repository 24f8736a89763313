/- The marks that a law lays into a list of points, and that they are held. -/
import Derived.Test.YtkncdncpgjpemaaAreaM
import Derived.Test.YtkncdncpgjpemaaDrawP
import Derived.Test.YtkncdncpgjpemaaShLaw
namespace Go.Proofs.Ytkncdncpgjpemaa
open Go.RowKit
set_option linter.unusedVariables false
set_option linter.unusedSimpArgs false
/-- A list of points that may be written into: nil, or a block of its own. -/
def OwnP (w : World) (a : Option Addr) (ps : List (Int × Int)) : Prop := (a = none ∧ ps = []) ∨ ∃ b, a = some ⟨b, 0, none⟩ ∧ PtsOwn w b ps
theorem OwnP.pts {w : World} {a : Option Addr} {ps : List (Int × Int)} (h : OwnP w a ps) : Pts w a ps := by
  rcases h with ⟨rfl, rfl⟩ | ⟨b, rfl, h⟩
  · exact .inl rfl
  · exact h.pts
theorem OwnP.below {w w' : World} {a : Option Addr} {ps : List (Int × Int)} (h : OwnP w a ps) (H : Below w.heap.size w w') : OwnP w' a ps := by
  rcases h with ⟨rfl, rfl⟩ | ⟨b, rfl, h⟩
  · exact .inl ⟨rfl, rfl⟩
  · exact .inr ⟨b, rfl, h.below H⟩
theorem take_of (f : Nat → Int × Int) (n k : Nat) (h : k ≤ n) : (tk f n).take k = tk f k := by
  unfold tk
  rw [← List.map_take, List.take_range, Nat.min_eq_left h]
end Go.Proofs.Ytkncdncpgjpemaa
