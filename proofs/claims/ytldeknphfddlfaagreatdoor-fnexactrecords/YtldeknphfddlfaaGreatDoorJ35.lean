/- Texts of stores, joined: RwB. -/
import Derived.Test.YtldeknphfddlfaaGreatDoorJ31
import Derived.Test.YtldeknphfddlfaaGreatDoorJ34
namespace Go.Proofs.YtldeknphfddlfaaGreatDoor
open Go.RowKit
set_option linter.unusedSimpArgs false
set_option linter.unusedVariables false
def tr (r : Rw) : Tr := (r.1, r.2.1, r.2.2.1)
theorem thr_def (r : Rw) (t : Int) : thr (tr r) t = (decide (r.2.1 ≤ t) && (decide (r.2.2.1 = 0) || decide (t < r.2.2.1))) := rfl
def idb (x : Int) : Bool := decide (1 ≤ x) && decide (x ≤ 999999999)
/-- Whether a row is right in a list with that last moment, the shape told apart. -/
def rwb (now : Int) (r : Rw) : Bool := idb r.1 && (decide (1 ≤ r.2.1) && decide (r.2.1 ≤ now)) && (decide (r.2.2.1 = 0) || (decide (r.2.1 < r.2.2.1) && decide (r.2.2.1 ≤ now)))
theorem rwb_tmb {now : Int} {r : Rw} (h : rwb now r = true) : tmb (tr r) := by
  unfold rwb at h
  simp only [Bool.and_eq_true, Bool.or_eq_true, decide_eq_true_eq] at h
  refine ⟨h.1.2.1, ?_⟩
  rcases h.2 with h | h
  · exact .inl h
  · exact .inr h.1
theorem in_r (x a b : Int) (w : World) : Calls Tryz.prog 29 #[.int .i64 x, .int .i64 a, .int .i64 b] w fun e w' => e = .returned (.bool (decide (a ≤ x) && decide (x ≤ b))) ∧ w' = w := by
  by_cases h : a ≤ x
  · go_enter Tryz.func29, Tryz.ntmps29
    go_wp2
    go_ret
    exact ⟨by simp [h], rfl⟩
  · have hd : decide (a ≤ x) = false := by simpa using h
    go_enter Tryz.func29, Tryz.ntmps29
    go_wp2
    go_ret
    exact ⟨by simp [hd], rfl⟩
theorem spec_id (x : Int) (w : World) : Calls Tryz.prog 50 #[.int .i64 x] w fun e w' => e = .returned (.bool (idb x)) ∧ w' = w := by
  go_enter Tryz.func50, Tryz.ntmps50
  go_wp2_with fail
  refine (in_r x 1 999999999 _).mono ?_
  rintro e w1 ⟨rfl, rfl⟩
  go_wp2_with fail
  go_ret
  exact ⟨rfl, rfl⟩
theorem impl_id (x : Int) (w : World) : Calls Tryz.prog 78 #[.int .i64 x] w fun e w' => e = .returned (.bool (idb x)) ∧ w' = w := by
  by_cases h : 1 ≤ x
  · go_enter Tryz.func78, Tryz.ntmps78
    go_wp2
    go_ret
    exact ⟨by simp [idb, h], rfl⟩
  · have hd : decide (1 ≤ x) = false := by simpa using h
    go_enter Tryz.func78, Tryz.ntmps78
    go_wp2
    go_ret
    exact ⟨by unfold idb; rw [hd]; rfl, rfl⟩
end Go.Proofs.YtldeknphfddlfaaGreatDoor
