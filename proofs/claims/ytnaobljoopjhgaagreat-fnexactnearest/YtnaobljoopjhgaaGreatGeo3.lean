/- Turns and sides: the small functions that the landed text and the specification reckon with. -/
import Derived.Test.YtnaobljoopjhgaaGreatGeo
namespace Go.Proofs.YtnaobljoopjhgaaGreat
open Go.RowKit
set_option linter.unusedSimpArgs false
set_option linter.unusedVariables false
/-- Twice the area of a triangle, with its sign. -/
def cr (ax ay bx bY cx cy : Int) : Int := (bx - ax) * (cy - ay) - (cx - ax) * (bY - ay)
def sg (z : Int) : Int := if z < 0 then -1 else if 0 < z then 1 else 0
/-- A coordinate, as bounds. -/
def In (x : Int) : Prop := -30000 ≤ x ∧ x ≤ 30000
theorem mulb (x y : Int) (h1 : -60000 ≤ x) (h2 : x ≤ 60000) (h3 : -60000 ≤ y) (h4 : y ≤ 60000) : -3600000000 ≤ x * y ∧ x * y ≤ 3600000000 := by
  have a := Int.mul_nonneg (show 0 ≤ 60000 - x by omega) (show 0 ≤ 60000 - y by omega)
  have b := Int.mul_nonneg (show 0 ≤ 60000 + x by omega) (show 0 ≤ 60000 + y by omega)
  have c := Int.mul_nonneg (show 0 ≤ 60000 - x by omega) (show 0 ≤ 60000 + y by omega)
  have d := Int.mul_nonneg (show 0 ≤ 60000 + x by omega) (show 0 ≤ 60000 - y by omega)
  simp only [Int.sub_mul, Int.add_mul, Int.mul_sub, Int.mul_add] at a b c d
  omega
theorem sg_bd (z : Int) : -1 ≤ sg z ∧ sg z ≤ 1 := by unfold sg; split <;> (try split) <;> omega
theorem in_of_pok {x y : Int} (h : pok x y = true) : In x ∧ In y := by
  simp only [pok, cok, Bool.and_eq_true, decide_eq_true_eq] at h
  exact h
theorem isnan_calls (x : Int) (w : World) : Calls Tryz.prog 94 #[.int .i64 x] w fun e w' => e = .returned (.bool false) ∧ w' = w := by
  go_enter Tryz.func94, Tryz.ntmps94
  go_wp2
  go_ret
  exact ⟨by simp, rfl⟩
theorem compare_calls (x : Int) (w : World) : Calls Tryz.prog 67 #[.int .i64 x, .int .i64 0] w fun e w' => e = .returned (.int .i64 (sg x)) ∧ w' = w := by
  by_cases h : x < 0
  · have e : sg x = -1 := by unfold sg; rw [if_pos h]
    go_enter Tryz.func67, Tryz.ntmps67
    go_wp2_with (go_at_call 94; refine (isnan_calls _ _).mono ?_; rintro e w' ⟨rfl, rfl⟩)
    go_ret
    exact ⟨by first | rfl | (rw [e]; rfl), rfl⟩
  · by_cases h2 : 0 < x
    · have e : sg x = 1 := by unfold sg; rw [if_neg h, if_pos h2]
      go_enter Tryz.func67, Tryz.ntmps67
      go_wp2_with (go_at_call 94; refine (isnan_calls _ _).mono ?_; rintro e w' ⟨rfl, rfl⟩)
      go_ret
      exact ⟨by first | rfl | (rw [e]; rfl), rfl⟩
    · obtain rfl : x = 0 := by omega
      go_enter Tryz.func67, Tryz.ntmps67
      go_wp2_with (go_at_call 94; refine (isnan_calls _ _).mono ?_; rintro e w' ⟨rfl, rfl⟩)
      go_ret
      exact ⟨rfl, rfl⟩
theorem impl_minus (px py qx qy : Int) (h1 : In px) (h2 : In py) (h3 : In qx) (h4 : In qy) (w : World) : Calls Tryz.prog 156 #[.agg #[.int .i64 px, .int .i64 py], .agg #[.int .i64 qx, .int .i64 qy]] w fun e w' => e = .returned (.agg #[.int .i64 (px - qx), .int .i64 (py - qy)]) ∧ Below w.heap.size w w' := by
  obtain ⟨a1, a2⟩ := h1
  obtain ⟨a3, a4⟩ := h2
  obtain ⟨a5, a6⟩ := h3
  obtain ⟨a7, a8⟩ := h4
  go_enter Tryz.func156, Tryz.ntmps156
  go_wp2_with fail
  refine bodyPost_ret (v := .agg #[.int .i64 (px - qx), .int .i64 (py - qy)]) (by simp [results, Tryz.results156, go_sem]) rfl ⟨rfl, ?_⟩
  (repeat (first | exact Below.refl _ _ | (refine btrans ?_ (by assumption)) | refine bdrew ?_ | refine balloc ?_ _))
theorem impl_cross (px py qx qy : Int) (h1 : -60000 ≤ px ∧ px ≤ 60000) (h2 : -60000 ≤ py ∧ py ≤ 60000) (h3 : -60000 ≤ qx ∧ qx ≤ 60000) (h4 : -60000 ≤ qy ∧ qy ≤ 60000) (w : World) : Calls Tryz.prog 147 #[.agg #[.int .i64 px, .int .i64 py], .agg #[.int .i64 qx, .int .i64 qy]] w fun e w' => e = .returned (.int .i64 (px * qy - qx * py)) ∧ Below w.heap.size w w' := by
  obtain ⟨a1, a2⟩ := mulb px qy h1.1 h1.2 h4.1 h4.2
  obtain ⟨a3, a4⟩ := mulb qx py h3.1 h3.2 h2.1 h2.2
  clear h1 h2 h3 h4
  go_enter Tryz.func147, Tryz.ntmps147
  go_wp2_with fail
  go_ret
  exact ⟨rfl, by (repeat (first | exact Below.refl _ _ | (refine btrans ?_ (by assumption)) | refine bdrew ?_ | refine balloc ?_ _))⟩
set_option maxHeartbeats 1000000 in
theorem impl_turn (px py bx bY cx cy : Int) (h1 : In px) (h2 : In py) (h3 : In bx) (h4 : In bY) (h5 : In cx) (h6 : In cy) (w : World) : Calls Tryz.prog 154 #[.agg #[.int .i64 px, .int .i64 py], .agg #[.int .i64 bx, .int .i64 bY], .agg #[.int .i64 cx, .int .i64 cy]] w fun e w' => e = .returned (.int .i64 (sg (cr px py bx bY cx cy))) ∧ Below w.heap.size w w' := by
  have hd1 : -60000 ≤ bx - px ∧ bx - px ≤ 60000 := by unfold In at *; omega
  have hd2 : -60000 ≤ bY - py ∧ bY - py ≤ 60000 := by unfold In at *; omega
  have hd3 : -60000 ≤ cx - px ∧ cx - px ≤ 60000 := by unfold In at *; omega
  have hd4 : -60000 ≤ cy - py ∧ cy - py ≤ 60000 := by unfold In at *; omega
  go_enter Tryz.func154, Tryz.ntmps154
  go_wp2_with fail
  go_region_held3 (fun w' => w'.cell? ⟨w.heap.size, 0, none⟩ = some (.int .i64 px) ∧ w'.cell? ⟨w.heap.size, 1, none⟩ = some (.int .i64 py) ∧ w'.cell? ⟨w.heap.size + 1, 0, none⟩ = some (.int .i64 bx) ∧ w'.cell? ⟨w.heap.size + 1, 1, none⟩ = some (.int .i64 bY) ∧ w'.cell? ⟨w.heap.size + 1 + 1, 0, none⟩ = some (.int .i64 cx) ∧ w'.cell? ⟨w.heap.size + 1 + 1, 1, none⟩ = some (.int .i64 cy)) ((repeat' apply And.intro) <;> (repeat (first | assumption | (refine newcell _ _ _ _ _ _ ?_ rfl; simp; done) | refine keepcell (by assumption) ?_ | refine keepdrew ?_ | refine keepalloc ?_ _)))
    (first
      | (go_at_call 156; refine (impl_minus _ _ _ _ (by assumption) (by assumption) (by assumption) (by assumption) _).mono ?_; rintro e w' ⟨rfl, hb⟩)
      | (go_at_call 147; refine (impl_cross _ _ _ _ hd1 hd2 hd3 hd4 _).mono ?_; rintro e w' ⟨rfl, hb⟩)
      | (go_at_call 67; refine (compare_calls _ _).mono ?_; rintro e w' ⟨rfl, hw⟩; replace hw := hw.symm; subst hw))
  go_wp2_with fail
  go_ret
  exact ⟨rfl, by (repeat (first | exact Below.refl _ _ | (refine btrans ?_ (by assumption)) | refine bdrew ?_ | refine balloc ?_ _))⟩
theorem spec_sign (x : Int) (w : World) : Calls Tryz.prog 107 #[.int .i64 x] w fun e w' => e = .returned (.int .i64 (sg x)) ∧ w' = w := by
  by_cases h : x < 0
  · have e : sg x = -1 := by unfold sg; rw [if_pos h]
    go_enter Tryz.func107, Tryz.ntmps107
    go_wp2_with fail
    go_ret
    exact ⟨by first | rfl | (rw [e]; rfl), rfl⟩
  · by_cases h2 : 0 < x
    · have e : sg x = 1 := by unfold sg; rw [if_neg h, if_pos h2]
      go_enter Tryz.func107, Tryz.ntmps107
      go_wp2_with fail
      go_ret
      exact ⟨by first | rfl | (rw [e]; rfl), rfl⟩
    · obtain rfl : x = 0 := by omega
      go_enter Tryz.func107, Tryz.ntmps107
      go_wp2_with fail
      go_ret
      exact ⟨rfl, rfl⟩
theorem spec_min (a b : Int) (w : World) : Calls Tryz.prog 77 #[.int .i64 a, .int .i64 b] w fun e w' => e = .returned (.int .i64 (min a b)) ∧ w' = w := by
  by_cases h : a < b
  · have e : min a b = a := by omega
    go_enter Tryz.func77, Tryz.ntmps77
    go_wp2_with fail
    go_ret
    exact ⟨by first | rfl | (rw [e]; rfl), rfl⟩
  · have e : min a b = b := by omega
    go_enter Tryz.func77, Tryz.ntmps77
    go_wp2_with fail
    go_ret
    exact ⟨by first | rfl | (rw [e]; rfl), rfl⟩
theorem spec_max (a b : Int) (w : World) : Calls Tryz.prog 78 #[.int .i64 a, .int .i64 b] w fun e w' => e = .returned (.int .i64 (max a b)) ∧ w' = w := by
  by_cases h : b < a
  · have e : max a b = a := by omega
    go_enter Tryz.func78, Tryz.ntmps78
    go_wp2_with fail
    go_ret
    exact ⟨by first | rfl | (rw [e]; rfl), rfl⟩
  · have e : max a b = b := by omega
    go_enter Tryz.func78, Tryz.ntmps78
    go_wp2_with fail
    go_ret
    exact ⟨by first | rfl | (rw [e]; rfl), rfl⟩
set_option maxHeartbeats 400000 in
theorem spec_cross (ax ay bx bY cx cy : Int) (h1 : In ax) (h2 : In ay) (h3 : In bx) (h4 : In bY) (h5 : In cx) (h6 : In cy) (w : World) : Calls Tryz.prog 96 #[.agg #[.int .i64 ax, .int .i64 ay], .agg #[.int .i64 bx, .int .i64 bY], .agg #[.int .i64 cx, .int .i64 cy]] w fun e w' => e = .returned (.int .i64 (cr ax ay bx bY cx cy)) ∧ Below w.heap.size w w' := by
  obtain ⟨a1, a2⟩ := h1
  obtain ⟨a3, a4⟩ := h2
  obtain ⟨a5, a6⟩ := h3
  obtain ⟨a7, a8⟩ := h4
  obtain ⟨a9, a10⟩ := h5
  obtain ⟨a11, a12⟩ := h6
  obtain ⟨b1, b2⟩ := mulb (bx - ax) (cy - ay) (by omega) (by omega) (by omega) (by omega)
  obtain ⟨b3, b4⟩ := mulb (bY - ay) (cx - ax) (by omega) (by omega) (by omega) (by omega)
  go_enter Tryz.func96, Tryz.ntmps96
  go_wp2_with fail
  go_ret
  exact ⟨by rw [cr, Int.mul_comm (cx - ax)]; rfl, by (repeat (first | exact Below.refl _ _ | (refine btrans ?_ (by assumption)) | refine bdrew ?_ | refine balloc ?_ _))⟩
end Go.Proofs.YtnaobljoopjhgaaGreat
