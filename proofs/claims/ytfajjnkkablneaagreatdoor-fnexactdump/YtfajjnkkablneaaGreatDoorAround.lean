/- The least box around points: the landed function and the specification's. -/
import Derived.Test.YtfajjnkkablneaaGreatDoorRing2
import Derived.Test.YtfajjnkkablneaaGreatDoorGeo10
namespace Go.Proofs.YtfajjnkkablneaaGreatDoor
open Go.RowKit
set_option linter.unusedSimpArgs false
set_option linter.unusedVariables false
def aok (ps : List (Int × Int)) : Bool := !ps.isEmpty && allok ps
def aX (ps : List (Int × Int)) : Int := if aok ps = true then ps.tail.foldl (fun m p => min m p.1) (ps.getD 0 (0, 0)).1 else 0
def aY (ps : List (Int × Int)) : Int := if aok ps = true then ps.tail.foldl (fun m p => min m p.2) (ps.getD 0 (0, 0)).2 else 0
def bX (ps : List (Int × Int)) : Int := if aok ps = true then ps.tail.foldl (fun m p => max m p.1) (ps.getD 0 (0, 0)).1 else 0
def bY' (ps : List (Int × Int)) : Int := if aok ps = true then ps.tail.foldl (fun m p => max m p.2) (ps.getD 0 (0, 0)).2 else 0
theorem keephdrew2 {w : World} {b : Nat} {o : Obj} (h : w.heap[b]? = some o) : w.drew.heap[b]? = some o := h
theorem set4 {w w1 : World} {B : Nat} {o0 o1 o2 o3 : Value} {t : TypeId} (gz : w1.heap[B]? = some (.cells #[o0, o1, o2, o3] t (0, 0))) (hb : Below w.heap.size w w1) (hB : w.heap.size ≤ B) (a b c d : Value) :
    ((((w1.setCell ⟨B, 0, none⟩ a).setCell ⟨B, 1, none⟩ b).setCell ⟨B, 2, none⟩ c).setCell ⟨B, 3, none⟩ d).heap[B]? = some (.cells #[a, b, c, d] t (0, 0)) ∧ Below w.heap.size w ((((w1.setCell ⟨B, 0, none⟩ a).setCell ⟨B, 1, none⟩ b).setCell ⟨B, 2, none⟩ c).setCell ⟨B, 3, none⟩ d) :=
  ⟨set_at (set_at (set_at (set_at gz))), bset (bset (bset (bset hb hB _) hB _) hB _) hB _⟩
theorem a_no {ps : List (Int × Int)} (h : aok ps = false) : aX ps = 0 ∧ aY ps = 0 ∧ bX ps = 0 ∧ bY' ps = 0 := by
  unfold aX aY bX bY'; rw [h]; exact ⟨rfl, rfl, rfl, rfl⟩
theorem PtsAt.tail {w : World} {b off : Nat} {p : Int × Int} {ps : List (Int × Int)} (h : PtsAt w b off (p :: ps)) : PtsAt w b (off + 2) ps := by
  intro k hk
  obtain ⟨h1, h2⟩ := h (k + 1) (by simp; omega)
  simp only [List.getD_cons_succ] at h1 h2
  rw [show off + (k + 1) * 2 = off + 2 + k * 2 by omega] at h1 h2
  exact ⟨h1, h2⟩
end Go.Proofs.YtfajjnkkablneaaGreatDoor
