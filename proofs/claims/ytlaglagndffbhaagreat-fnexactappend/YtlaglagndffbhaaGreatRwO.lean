/- Rows as a law is given them: counted, opened. -/
import Derived.Test.YtlaglagndffbhaaGreatRwE
import Derived.Deep.SlicePairs
namespace Go.Proofs.YtlaglagndffbhaaGreat
open Go.RowKit
set_option linter.unusedSimpArgs false
set_option linter.unusedVariables false
/-- A row at a place, of any length. -/
def RwL (w : World) (b o : Nat) (r : Rw) : Prop :=
  ∃ a cap, w.cell? ⟨b, o, none⟩ = some (.int .i64 r.1) ∧ w.cell? ⟨b, o + 1, none⟩ = some (.int .i64 r.2.1) ∧ w.cell? ⟨b, o + 2, none⟩ = some (.int .i64 r.2.2.1) ∧ w.cell? ⟨b, o + 3, none⟩ = some (.int .i64 r.2.2.2.1) ∧ w.cell? ⟨b, o + 4, none⟩ = some (.slice a r.2.2.2.2.length cap) ∧ r.2.2.2.2.length ≤ cap ∧ r.2.2.2.2.length ≤ 9223372036854775807 ∧ Pts w a r.2.2.2.2
def RwsL (w : World) (a : Option Addr) (rs : List Rw) : Prop := rs = [] ∨ ∃ b o, a = some ⟨b, o, none⟩ ∧ b < w.heap.size ∧ ∀ j (h : j < rs.length), RwL w b (o + j * 5) rs[j]
theorem RwL.below {w w' : World} {b o : Nat} {r : Rw} (hb : b < w.heap.size) (h : RwL w b o r) (H : Below w.heap.size w w') : RwL w' b o r := by
  obtain ⟨a, cap, h0, h1, h2, h3, h4, h5, h6, h7⟩ := h
  exact ⟨a, cap, keepcell H h0, keepcell H h1, keepcell H h2, keepcell H h3, keepcell H h4, h5, h6, h7.below H⟩
theorem RwsL.below {w w' : World} {a : Option Addr} {rs : List Rw} (h : RwsL w a rs) (H : Below w.heap.size w w') : RwsL w' a rs := by
  rcases h with h | ⟨b, o, h1, h2, h3⟩
  · exact .inl h
  · exact .inr ⟨b, o, h1, Nat.lt_of_lt_of_le h2 H.size, fun j hj => (h3 j hj).below h2 H⟩
theorem RwsL.at {w : World} {a : Option Addr} {rs : List Rw} (h : RwsL w a rs) (j : Nat) (hj : j < rs.length) : ∃ b o, a = some ⟨b, o, none⟩ ∧ b < w.heap.size ∧ RwL w b (o + j * 5) rs[j] := by
  rcases h with h | ⟨b, o, h1, h2, h3⟩
  · subst h; exact absurd hj (by simp)
  · exact ⟨b, o, h1, h2, h3 j hj⟩
theorem RwsL.rws {w : World} {a : Option Addr} {rs : List Rw} (h : RwsL w a rs) (hl : ∀ m (h : m < rs.length), rs[m].2.2.2.2.length ≤ 1048576) : Rws (fun _ => True) w a rs := by
  rcases h with h | ⟨b, o, h1, h2, h3⟩
  · exact .inl h
  · refine .inr ⟨b, o, h1, h2, fun j hj => ?_⟩
    obtain ⟨a, cap, k0, k1, k2, k3, k4, k5, k6, k7⟩ := h3 j hj
    have := hl j hj
    exact ⟨a, cap, k0, k1, k2, k3, k4, k5, by omega, k7, fun _ _ _ => trivial⟩
theorem cellsShape : Tryz.prog.cellsOf 35 = 2 := by kernel_rfl
theorem cellsPoint : Tryz.prog.cellsOf 100 = 2 := by kernel_rfl
theorem open_points {H : Type} {enc : TypeId × Value → H} {W : World} {base fuel : Nat} {v : Value} {x : DataW H × List MemPlace} (h : DataW.trod enc Tryz.prog W base (fun _ => true) true fuel 33 [v] = some x) : ∃ (a : Option Addr) (cap : Nat) (ps : List (Int × Int)), v = .slice a ps.length cap ∧ PtsIn W a cap ps := by
  rcases Go.Deep.open_slice_pairs Tryz.underlying33 Tryz.underlying100 cellsPoint rfl rfl (by kernel_rfl) (by kernel_rfl) h with ⟨hcs, _⟩ | ⟨x, l, c, m, n, V0, V1, D0, D1, P0, P1, hcs, _, hl, hm, hmm, _, hall⟩
  · simp at hcs
    exact ⟨none, 0, [], hcs, ptsIn_nil _ _⟩
  · simp at hcs
    obtain ⟨ps, hp, hw⟩ := ptsIn_of hl hm (fun j hj => by
      obtain ⟨h1, h2, h3, h4⟩ := hall j (by rw [hmm]; simp; omega)
      obtain ⟨z0, e0, _, y0⟩ := DataW.trod_int Tryz.underlying3 h3
      obtain ⟨z1, e1, _, y1⟩ := DataW.trod_int Tryz.underlying3 h4
      simp at e0 e1
      exact ⟨z0, z1, by rw [h1, e0], by rw [h2, e1], y0, y1⟩)
    exact ⟨some x, c, ps, by rw [hcs, hp], hw⟩
end Go.Proofs.YtlaglagndffbhaaGreat
