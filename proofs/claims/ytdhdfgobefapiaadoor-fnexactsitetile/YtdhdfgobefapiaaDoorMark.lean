/- The marks that a law lays into a list of points, and that they are held. -/
import Derived.Test.YtdhdfgobefapiaaDoorAreaM
import Derived.Test.YtdhdfgobefapiaaDoorDrawP
import Derived.Test.YtdhdfgobefapiaaDoorShLaw
namespace Go.Proofs.YtdhdfgobefapiaaDoor
open Go.RowKit
set_option linter.unusedVariables false
set_option linter.unusedSimpArgs false
/-- A list of points that may be written into: nil, or a block of its own. -/
def OwnP (w : World) (a : Option Addr) (ps : List (Int × Int)) : Prop := (a = none ∧ ps = []) ∨ ∃ b, a = some ⟨b, 0, none⟩ ∧ PtsOwn w b ps
theorem OwnP.pts {w : World} {a : Option Addr} {ps : List (Int × Int)} (h : OwnP w a ps) : Pts w a ps := by
  rcases h with ⟨rfl, rfl⟩ | ⟨b, rfl, h⟩
  · exact .inl rfl
  · exact h.pts
theorem OwnP.below {w w' : World} {a : Option Addr} {ps : List (Int × Int)} (h : OwnP w a ps) (H : Below w.heap.size w w') : OwnP w' a ps := by
  rcases h with ⟨rfl, rfl⟩ | ⟨b, rfl, h⟩
  · exact .inl ⟨rfl, rfl⟩
  · exact .inr ⟨b, rfl, h.below H⟩
end Go.Proofs.YtdhdfgobefapiaaDoor
