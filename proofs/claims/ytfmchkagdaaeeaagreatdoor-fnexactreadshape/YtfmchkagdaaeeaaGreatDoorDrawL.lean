/- Lists of points that are drawn. -/
import Derived.Test.YtfmchkagdaaeeaaGreatDoorDrawP
import Derived.OwnWalk
import Derived.Deep.AppendLies
namespace Go.Proofs.YtfmchkagdaaeeaaGreatDoor
open Go.RowKit
set_option linter.unusedVariables false
set_option linter.unusedSimpArgs false
theorem Tryz.infoP2 : (Tryz.prog.info? 41).map (fun i => (i.zero, i.size, i.bytes)) = some (some (.agg #[.int .i64 0, .int .i64 0]), 2, 16) := by kernel_rfl
def flat2 (qs : List (Int × Int)) : List Value := qs.flatMap fun q => [.int .i64 q.1, .int .i64 q.2]
theorem flat2_snoc (qs : List (Int × Int)) (x y : Int) : flat2 (qs ++ [(x, y)]) = flat2 qs ++ [.int .i64 x, .int .i64 y] := by simp [flat2]
theorem flat2_at (qs : List (Int × Int)) : ∀ k, k < qs.length → (flat2 qs)[k * 2]? = some (.int .i64 (qs.getD k (0, 0)).1) ∧ (flat2 qs)[k * 2 + 1]? = some (.int .i64 (qs.getD k (0, 0)).2) := by
  induction qs with
  | nil => intro k hk; simp at hk
  | cons q r ih =>
    intro k hk
    cases k with
    | zero => simp [flat2]
    | succ k =>
      have := ih k (by simpa using hk)
      simp only [flat2, List.flatMap_cons, List.getD_cons_succ] at this ⊢
      rw [show (k + 1) * 2 = k * 2 + 2 by omega]
      simpa [List.getElem?_append_right] using this
/-- A list of points in a block of its own. -/
def PtRow (w : World) (B : Nat) (v : Value) (ps : List (Int × Int)) : Prop := w.ownsRow B 41 2 v ps.length (flat2 ps)
theorem PtRow.pts {w : World} {B : Nat} {v : Value} {ps : List (Int × Int)} (h : PtRow w B v ps) : ∃ ao cap, v = .slice ao ps.length cap ∧ ps.length ≤ cap ∧ Pts w ao ps := by
  have h' := h
  rcases h.2 with ⟨rfl, hn⟩ | ⟨g, cap, cur, rfl, hb, hg, hc, _⟩
  · refine ⟨none, 0, by rw [hn], by omega, .inl (List.length_eq_zero_iff.1 hn)⟩
  · refine ⟨_, cap, rfl, hc, .inr ⟨g, 0, rfl, (Array.getElem?_eq_some_iff.1 hg).1, ?_⟩⟩
    intro k hk
    obtain ⟨f0, f1⟩ := flat2_at ps k hk
    have hcs := World.ownsRow.cells h' rfl
    have q0 := hcs _ _ f0
    have q1 := hcs _ _ f1
    rw [Addr.add_mid] at q0 q1
    exact ⟨q0, by rw [Nat.add_assoc]; exact q1⟩
end Go.Proofs.YtfmchkagdaaeeaaGreatDoor
