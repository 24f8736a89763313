/- What the turns and sides have of themselves: the same from each point on, whichever side is told first, and boxes that meet where sides do. -/
import Derived.Test.YtkncdncpgjpemaaGeo6
import Derived.Test.YtkncdncpgjpemaaAround
import Derived.Test.YtkncdncpgjpemaaGeo7
import Derived.Test.YtkncdncpgjpemaaGeo8
namespace Go.Proofs.Ytkncdncpgjpemaa
open Go.RowKit
theorem cr_swap (ax ay bx bY cx cy : Int) : cr bx bY ax ay cx cy = - cr ax ay bx bY cx cy := by
  unfold cr; grind
theorem cr_self (ax ay bx bY : Int) : cr ax ay bx bY ax ay = 0 := by unfold cr; grind
theorem onb_swap (px py ax ay bx bY : Int) : onb px py bx bY ax ay = onb px py ax ay bx bY := by
  unfold onb
  rw [cr_swap ax ay bx bY px py, Int.min_comm bx ax, Int.min_comm bY ay, Int.max_comm bx ax, Int.max_comm bY ay]
  congr 1
  rw [decide_eq_decide]
  omega
theorem onb_self (ax ay bx bY : Int) : onb ax ay ax ay bx bY = true := by
  unfold onb hasb
  rw [cr_self]
  simp
  omega
theorem onb_self2 (ax ay bx bY : Int) : onb bx bY ax ay bx bY = true := by rw [onb_swap, onb_self]
def smv (ax ay bx bY cx cy dx dy : Int) : Bool := allok [(ax, ay), (bx, bY), (cx, cy), (dx, dy)] && smeet ax ay bx bY cx cy dx dy
theorem crossb_comm (ax ay bx bY cx cy dx dy : Int) : crossb cx cy dx dy ax ay bx bY = crossb ax ay bx bY cx cy dx dy := by
  unfold crossb; rw [Bool.and_comm]
theorem sg_neg_iff (x y : Int) (h : sg x * sg y < 0) : (x < 0 ∧ 0 < y) ∨ (0 < x ∧ y < 0) := by
  unfold sg at h
  split at h <;> split at h <;> (try split at h) <;> (try split at h) <;> first | omega | skip
/-- Two weighted means are the same number: the spans that they lie in meet. -/
theorem span_lt {A B C D ax bx cx dx m : Int} (hA : 0 < A) (hB : 0 < B) (hC : 0 < C) (hD : 0 < D) (hs : A + B = C + D) (he : A * bx + B * ax = C * dx + D * cx) (h1 : ax ≤ m) (h2 : bx ≤ m) (h3 : m < cx) (h4 : m < dx) : False := by
  have e1 : A * bx ≤ A * m := Int.mul_le_mul_of_nonneg_left h2 (by omega)
  have e2 : B * ax ≤ B * m := Int.mul_le_mul_of_nonneg_left h1 (by omega)
  have e3 : C * (m + 1) ≤ C * dx := Int.mul_le_mul_of_nonneg_left (by omega) (by omega)
  have e4 : D * (m + 1) ≤ D * cx := Int.mul_le_mul_of_nonneg_left (by omega) (by omega)
  have e5 : A * m + B * m = C * m + D * m := by rw [← Int.add_mul, ← Int.add_mul, hs]
  rw [Int.mul_add] at e3 e4
  omega
theorem cross_id (ax ay bx bY cx cy dx dy : Int) : cr cx cy dx dy ax ay * bx - cr cx cy dx dy bx bY * ax + cr ax ay bx bY cx cy * dx - cr ax ay bx bY dx dy * cx = 0 := by
  unfold cr; grind
theorem cross_idy (ax ay bx bY cx cy dx dy : Int) : cr cx cy dx dy ax ay * bY - cr cx cy dx dy bx bY * ay + cr ax ay bx bY cx cy * dy - cr ax ay bx bY dx dy * cy = 0 := by
  unfold cr; grind
theorem cross_sum (ax ay bx bY cx cy dx dy : Int) : cr cx cy dx dy ax ay - cr cx cy dx dy bx bY + cr ax ay bx bY cx cy - cr ax ay bx bY dx dy = 0 := by
  unfold cr; grind
theorem span_meet {A B C D ax bx cx dx : Int} (hA : 0 < A) (hB : 0 < B) (hC : 0 < C) (hD : 0 < D) (hs : A + B = C + D) (he : A * bx + B * ax = C * dx + D * cx) : min ax bx ≤ max cx dx ∧ min cx dx ≤ max ax bx := by
  constructor
  · refine Int.not_lt.1 fun h => span_lt (m := max cx dx) hC hD hA hB hs.symm he.symm ?_ ?_ ?_ ?_ <;> omega
  · refine Int.not_lt.1 fun h => span_lt (m := max ax bx) hA hB hC hD hs he ?_ ?_ ?_ ?_ <;> omega
theorem cross_meet {ax ay bx bY cx cy dx dy : Int} (h : crossb ax ay bx bY cx cy dx dy = true) : meetb (min ax bx) (min ay bY) (max ax bx) (max ay bY) (min cx dx) (min cy dy) (max cx dx) (max cy dy) = true := by
  unfold crossb at h
  simp only [Bool.and_eq_true, decide_eq_true_eq] at h
  have h1 := sg_neg_iff _ _ h.1
  have h2 := sg_neg_iff _ _ h.2
  have i1 := cross_id ax ay bx bY cx cy dx dy
  have i2 := cross_idy ax ay bx bY cx cy dx dy
  have i3 := cross_sum ax ay bx bY cx cy dx dy
  clear h
  generalize cr cx cy dx dy ax ay = A at *
  generalize cr cx cy dx dy bx bY = B at *
  generalize cr ax ay bx bY cx cy = C at *
  generalize cr ax ay bx bY dx dy = D at *
  have key : ∀ a b c d : Int, A * b - B * a + C * d - D * c = 0 → min a b ≤ max c d ∧ min c d ≤ max a b := by
    intro a b c d e
    rcases h2 with ⟨a1, a2⟩ | ⟨a1, a2⟩
    · have c1 : 0 < C ∧ D < 0 := by omega
      refine span_meet (A := -A) (B := B) (C := C) (D := -D) (by omega) (by omega) (by omega) (by omega) (by omega) ?_
      rw [Int.neg_mul, Int.neg_mul]; omega
    · have c1 : C < 0 ∧ 0 < D := by omega
      refine span_meet (A := A) (B := -B) (C := -C) (D := D) (by omega) (by omega) (by omega) (by omega) (by omega) ?_
      rw [Int.neg_mul, Int.neg_mul]; omega
  have kx := key ax bx cx dx i1
  have ky := key ay bY cy dy i2
  unfold meetb
  simp only [Bool.and_eq_true, decide_eq_true_eq]
  omega
theorem on_meet {ax ay bx bY cx cy dx dy : Int} (h : onb cx cy ax ay bx bY = true) : meetb (min ax bx) (min ay bY) (max ax bx) (max ay bY) (min cx dx) (min cy dy) (max cx dx) (max cy dy) = true := by
  unfold onb hasb at h
  unfold meetb
  simp only [Bool.and_eq_true, decide_eq_true_eq] at h ⊢
  omega
theorem meetb_comm (a b c d e f g h : Int) : meetb e f g h a b c d = meetb a b c d e f g h := by
  unfold meetb
  cases decide (a ≤ g) <;> cases decide (e ≤ c) <;> cases decide (b ≤ h) <;> cases decide (f ≤ d) <;> rfl
theorem smv_meet {ax ay bx bY cx cy dx dy : Int} (h : smv ax ay bx bY cx cy dx dy = true) : meetb (min ax bx) (min ay bY) (max ax bx) (max ay bY) (min cx dx) (min cy dy) (max cx dx) (max cy dy) = true := by
  unfold smv smeet at h
  simp only [Bool.and_eq_true, Bool.or_eq_true] at h
  obtain ⟨_, h | ((h | h) | h) | h⟩ := h
  · exact cross_meet h
  · exact on_meet h
  · have := on_meet (dx := cx) (dy := cy) h
    rwa [Int.min_comm dx cx, Int.min_comm dy cy, Int.max_comm dx cx, Int.max_comm dy cy] at this
  · rw [meetb_comm]; exact on_meet h
  · rw [meetb_comm]
    have := on_meet (dx := ax) (dy := ay) h
    rwa [Int.min_comm bx ax, Int.min_comm bY ay, Int.max_comm bx ax, Int.max_comm bY ay] at this
end Go.Proofs.Ytkncdncpgjpemaa
