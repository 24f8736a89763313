/- Turns and sides: the small functions that the landed text and the specification reckon with. -/
import Derived.Test.YtmdnelgnpponpaaGeo
namespace Go.Proofs.Ytmdnelgnpponpaa
open Go.RowKit
set_option linter.unusedSimpArgs false
set_option linter.unusedVariables false
/-- Twice the area of a triangle, with its sign. -/
def cr (ax ay bx bY cx cy : Int) : Int := (bx - ax) * (cy - ay) - (cx - ax) * (bY - ay)
def sg (z : Int) : Int := if z < 0 then -1 else if 0 < z then 1 else 0
/-- A coordinate, as bounds. -/
def In (x : Int) : Prop := -30000 ≤ x ∧ x ≤ 30000
theorem mulb (x y : Int) (h1 : -60000 ≤ x) (h2 : x ≤ 60000) (h3 : -60000 ≤ y) (h4 : y ≤ 60000) : -3600000000 ≤ x * y ∧ x * y ≤ 3600000000 := by
  have a := Int.mul_nonneg (show 0 ≤ 60000 - x by omega) (show 0 ≤ 60000 - y by omega)
  have b := Int.mul_nonneg (show 0 ≤ 60000 + x by omega) (show 0 ≤ 60000 + y by omega)
  have c := Int.mul_nonneg (show 0 ≤ 60000 - x by omega) (show 0 ≤ 60000 + y by omega)
  have d := Int.mul_nonneg (show 0 ≤ 60000 + x by omega) (show 0 ≤ 60000 - y by omega)
  simp only [Int.sub_mul, Int.add_mul, Int.mul_sub, Int.mul_add] at a b c d
  omega
theorem sg_bd (z : Int) : -1 ≤ sg z ∧ sg z ≤ 1 := by unfold sg; split <;> (try split) <;> omega
theorem in_of_pok {x y : Int} (h : pok x y = true) : In x ∧ In y := by
  simp only [pok, cok, Bool.and_eq_true, decide_eq_true_eq] at h
  exact h
theorem isnan_calls (x : Int) (w : World) : Calls Try.prog 95 #[.int .i64 x] w fun e w' => e = .returned (.bool false) ∧ w' = w := by
  go_enter Try.func95, Try.ntmps95
  go_wp2
  go_ret
  exact ⟨by simp, rfl⟩
theorem spec_min (a b : Int) (w : World) : Calls Try.prog 75 #[.int .i64 a, .int .i64 b] w fun e w' => e = .returned (.int .i64 (min a b)) ∧ w' = w := by
  by_cases h : a < b
  · have e : min a b = a := by omega
    go_enter Try.func75, Try.ntmps75
    go_wp2_with fail
    go_ret
    exact ⟨by first | rfl | (rw [e]; rfl), rfl⟩
  · have e : min a b = b := by omega
    go_enter Try.func75, Try.ntmps75
    go_wp2_with fail
    go_ret
    exact ⟨by first | rfl | (rw [e]; rfl), rfl⟩
theorem spec_max (a b : Int) (w : World) : Calls Try.prog 76 #[.int .i64 a, .int .i64 b] w fun e w' => e = .returned (.int .i64 (max a b)) ∧ w' = w := by
  by_cases h : b < a
  · have e : max a b = a := by omega
    go_enter Try.func76, Try.ntmps76
    go_wp2_with fail
    go_ret
    exact ⟨by first | rfl | (rw [e]; rfl), rfl⟩
  · have e : max a b = b := by omega
    go_enter Try.func76, Try.ntmps76
    go_wp2_with fail
    go_ret
    exact ⟨by first | rfl | (rw [e]; rfl), rfl⟩
end Go.Proofs.Ytmdnelgnpponpaa
