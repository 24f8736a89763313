/- Whether a figure has a point: the landed ones. -/
import Derived.Test.YtlaglagndffbhaaGreatShBox
namespace Go.Proofs.YtlaglagndffbhaaGreat
open Go.RowKit
set_option linter.unusedSimpArgs false
set_option linter.unusedVariables false
def alongSides (ps : List (Int × Int)) : List Sd := (List.range (ps.length - 1)).map fun k => ((ps.getD k (0, 0)).1, (ps.getD k (0, 0)).2, (ps.getD (k + 1) (0, 0)).1, (ps.getD (k + 1) (0, 0)).2)
theorem along_len (ps : List (Int × Int)) : (alongSides ps).length = ps.length - 1 := by simp [alongSides]
theorem along_at (ps : List (Int × Int)) (k : Nat) (hk : k < ps.length - 1) : (alongSides ps).getD k (0, 0, 0, 0) = ((ps.getD k (0, 0)).1, (ps.getD k (0, 0)).2, (ps.getD (k + 1) (0, 0)).1, (ps.getD (k + 1) (0, 0)).2) := by
  simp [alongSides, List.getD_eq_getElem?_getD, List.getElem?_map, List.getElem?_range hk]
theorem along_in {ps : List (Int × Int)} (h : allok ps = true) : ∀ k, k < (alongSides ps).length → SdIn ((alongSides ps).getD k (0, 0, 0, 0)) := by
  intro k hk
  rw [along_len] at hk
  rw [along_at ps k hk]
  obtain ⟨i1, i2⟩ := allok_in h k (by omega)
  obtain ⟨i3, i4⟩ := allok_in h (k + 1) (by omega)
  exact ⟨i1, i2, i3, i4⟩
/-- Whether one of the first k sides has p. -/
def anyOn (px py : Int) (qs : List Sd) : Nat → Bool
  | 0 => false
  | k + 1 => anyOn px py qs k || onb px py (qs.getD k (0, 0, 0, 0)).1 (qs.getD k (0, 0, 0, 0)).2.1 (qs.getD k (0, 0, 0, 0)).2.2.1 (qs.getD k (0, 0, 0, 0)).2.2.2
theorem any_mono {px py : Int} {qs : List Sd} {k : Nat} (h : anyOn px py qs k = true) : ∀ m, k ≤ m → anyOn px py qs m = true
  | 0, hm => by obtain rfl : k = 0 := by omega
                exact h
  | m + 1, hm => by
    by_cases e : k = m + 1
    · subst e; exact h
    · rw [anyOn, any_mono h m (by omega)]; rfl
end Go.Proofs.YtlaglagndffbhaaGreat
