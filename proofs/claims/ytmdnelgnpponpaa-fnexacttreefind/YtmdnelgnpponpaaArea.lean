/- What points go around: the landed function and the specification's. -/
import Derived.Test.YtmdnelgnpponpaaPts2
import Derived.Test.YtmdnelgnpponpaaGeo3
namespace Go.Proofs.Ytmdnelgnpponpaa
open Go.RowKit
set_option linter.unusedSimpArgs false
set_option linter.unusedVariables false
/-- The point behind the k-th: the last goes back to the first. -/
def nxt (ps : List (Int × Int)) (k : Nat) : Int × Int := ps.getD ((k + 1) % ps.length) (0, 0)
def areaTo (ps : List (Int × Int)) : Nat → Int
  | 0 => 0
  | k + 1 => areaTo ps k + ((ps.getD k (0, 0)).1 * (nxt ps k).2 - (nxt ps k).1 * (ps.getD k (0, 0)).2)
def area2 (ps : List (Int × Int)) : Int := if ps.length ≤ 1000 ∧ allok ps = true then areaTo ps ps.length else 0
theorem allok_in {ps : List (Int × Int)} (h : allok ps = true) (k : Nat) (hk : k < ps.length) : In (ps.getD k (0, 0)).1 ∧ In (ps.getD k (0, 0)).2 := by
  rw [allok, List.all_eq_true] at h
  refine in_of_pok (h _ ?_)
  rw [List.getD_eq_getElem?_getD, List.getElem?_eq_getElem hk]
  exact List.getElem_mem hk
theorem nxt_in {ps : List (Int × Int)} (h : allok ps = true) (k : Nat) (hk : k < ps.length) : In (nxt ps k).1 ∧ In (nxt ps k).2 :=
  allok_in h _ (Nat.mod_lt _ (by omega))
theorem side_bd {x y u v : Int} (h1 : In x) (h2 : In y) (h3 : In u) (h4 : In v) : (-3600000000 ≤ x * v ∧ x * v ≤ 3600000000) ∧ (-3600000000 ≤ u * y ∧ u * y ≤ 3600000000) := by
  unfold In at *
  exact ⟨mulb x v (by omega) (by omega) (by omega) (by omega), mulb u y (by omega) (by omega) (by omega) (by omega)⟩
theorem area_bd {ps : List (Int × Int)} (h : allok ps = true) : ∀ k, k ≤ ps.length → -(7200000000 * (k : Int)) ≤ areaTo ps k ∧ areaTo ps k ≤ 7200000000 * (k : Int)
  | 0, _ => by simp [areaTo]
  | k + 1, hk => by
    obtain ⟨a, b⟩ := area_bd h k (by omega)
    obtain ⟨c, d⟩ := allok_in h k (by omega)
    obtain ⟨e, f⟩ := nxt_in h k (by omega)
    have := side_bd c d e f
    rw [areaTo]
    omega
end Go.Proofs.Ytmdnelgnpponpaa
