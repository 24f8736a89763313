/- Whether two shapes meet: the landed function and the specification's. -/
import Derived.Test.YtmnnbifekbacnaaDoorMeet3
import Derived.Test.YtmnnbifekbacnaaDoorShapeSp
import Derived.Test.YtmnnbifekbacnaaDoorHas4
import Derived.Test.YtmnnbifekbacnaaDoorGeo8
namespace Go.Proofs.YtmnnbifekbacnaaDoor
open Go.RowKit
set_option linter.unusedSimpArgs false
set_option linter.unusedVariables false
def smP (k1 : Int) (ps : List (Int × Int)) (k2 : Int) (qs : List (Int × Int)) : Bool := shok k1 ps && shok k2 qs && (allM (sdl k1 ps) (sdl k2 qs) (sdl k1 ps).length || (hasP k1 ps (qs.getD 0 (0, 0)).1 (qs.getD 0 (0, 0)).2 || hasP k2 qs (ps.getD 0 (0, 0)).1 (ps.getD 0 (0, 0)).2))
theorem fig_any (k : Int) (a : Option Addr) (n cap : Nat) (ps : List (Int × Int)) (hs : shok k ps = true) (w : World) : Calls Tryd.prog 18 #[shv k a n cap] w fun e w' => e = .returned (figv k a n cap) ∧ Below w.heap.size w w' := by
  rcases shok_kind hs with ⟨rfl, _⟩ | ⟨rfl, _⟩ | ⟨rfl, _⟩ | ⟨rfl, _⟩
  · exact fig_dot a n cap w
  · exact fig_path a n cap w
  · exact fig_block a n cap w
  · exact fig_ring a n cap w
end Go.Proofs.YtmnnbifekbacnaaDoor
