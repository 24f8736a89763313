/- The table of the tiles' sides, as a row lists it; tiles as the laws hold them. -/
import Derived.Test.YtdhdfgobefapiaaDoorTile3
import Derived.Lib.LaidTab
namespace Go.Proofs.YtdhdfgobefapiaaDoor
open Go.RowKit
set_option linter.unusedSimpArgs false
set_option linter.unusedVariables false
theorem tab_of_is {W : World} {name : String} (h : Lib.TabIs Tryd.prog W name .i64 [65536, 32768, 16384, 8192, 4096, 2048, 1024, 512, 256]) (hg : Tryd.prog.globalNamed name = some 0) : Tab W := by
  intro k hk
  have := h.cell hg k (by simp; omega)
  rw [this]
  rcases (show k = 0 ∨ k = 1 ∨ k = 2 ∨ k = 3 ∨ k = 4 ∨ k = 5 ∨ k = 6 ∨ k = 7 ∨ k = 8 by omega) with h | h | h | h | h | h | h | h | h <;> subst h <;> rfl
theorem to_tile (l c r : Int) (w : World) : Calls Tryd.prog 7 #[.agg #[.int .i64 l, .int .i64 c, .int .i64 r]] w fun e w' => e = .returned (.agg #[.int .i64 l, .int .i64 c, .int .i64 r]) ∧ Below w.heap.size w w' := by
  go_enter Tryd.func7, Tryd.ntmps7
  go_wp2_with fail
  exact bodyPost_ret (v := .agg #[.int .i64 l, .int .i64 c, .int .i64 r]) (by simp [results, Tryd.results7, go_sem]) rfl ⟨rfl, by (repeat (first | with_reducible exact Below.refl _ _ | with_reducible refine balloc ?_ _))⟩
end Go.Proofs.YtdhdfgobefapiaaDoor
