/- Lists of points: one held against the other; the one behind. -/
import Derived.Test.YtkncdncpgjpemaaPts
namespace Go.Proofs.Ytkncdncpgjpemaa
open Go.RowKit
set_option linter.unusedSimpArgs false
set_option linter.unusedVariables false
set_option maxHeartbeats 400000 in
theorem impl_behind (a : Option Addr) (cap : Nat) (ps : List (Int × Int)) (k : Nat) (w : World) (hm : ps.length ≤ 1099511627776) (hc : ps.length ≤ cap) (hk : k < ps.length) (h : Pts w a ps) : Calls Try.prog 91 #[.slice a ps.length cap, .int .i64 k] w fun e w' => e = .returned (.agg #[.int .i64 (ps.getD ((k + 1) % ps.length) (0, 0)).1, .int .i64 (ps.getD ((k + 1) % ps.length) (0, 0)).2]) ∧ Below w.heap.size w w' := by
  rcases h with rfl | ⟨b, off, rfl, hbs, hp⟩
  · simp at hk
  have hj : (k + 1) % ps.length < ps.length := Nat.mod_lt _ (by omega)
  obtain ⟨c0, c1⟩ := hp ((k + 1) % ps.length) hj
  have e1 : ((k : Int) + 1).tmod (ps.length : Int) = (((k + 1) % ps.length : Nat) : Int) := by
    rw [show ((k : Int) + 1) = ((k + 1 : Nat) : Int) by omega]; rfl
  have hz : ¬ ((ps.length : Int) = 0) := by omega
  generalize hx : (ps.getD ((k + 1) % ps.length) (0, 0)).1 = x at c0
  generalize hy : (ps.getD ((k + 1) % ps.length) (0, 0)).2 = y at c1
  generalize hjj : (k + 1) % ps.length = j at *
  have Hp := hid hp
  clear hp hx hy hjj
  go_enter Try.func91, Try.ntmps91
  go_wp2_with fail
  exact bodyPost_ret (v := .agg #[.int .i64 x, .int .i64 y]) (by simp [results, Try.results91, go_sem]) rfl ⟨rfl, (Below.refl _ _).alloc (Nat.le_refl _) _⟩
end Go.Proofs.Ytkncdncpgjpemaa
