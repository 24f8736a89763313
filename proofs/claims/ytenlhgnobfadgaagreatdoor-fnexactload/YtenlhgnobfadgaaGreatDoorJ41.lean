/- Texts of stores, joined: RwB. -/
import Derived.Test.YtenlhgnobfadgaaGreatDoorJ35
import Derived.Test.YtenlhgnobfadgaaGreatDoorJ40
namespace Go.Proofs.YtenlhgnobfadgaaGreatDoor
open Go.RowKit
set_option linter.unusedSimpArgs false
set_option linter.unusedVariables false
def tr (r : Rw) : Tr := (r.1, r.2.1, r.2.2.1)
theorem thr_def (r : Rw) (t : Int) : thr (tr r) t = (decide (r.2.1 ≤ t) && (decide (r.2.2.1 = 0) || decide (t < r.2.2.1))) := rfl
set_option maxHeartbeats 1000000 in
theorem spec_there (r : Rw) (a : Option Addr) (cap : Nat) (t : Int) (w : World) : Calls Tryz.prog 75 #[rwv r a cap, .int .i64 t] w fun e w' => e = .returned (.bool (thr (tr r) t)) ∧ Below w.heap.size w w' := by
  rw [thr_def]
  obtain ⟨id, fr, te, kd, ps⟩ := r
  unfold rwv
  simp only
  generalize ps.length = n
  by_cases h1 : fr ≤ t
  · by_cases h2 : te = 0
    · go_enter Tryz.func75, Tryz.ntmps75
      go_wp2
      go_ret
      exact ⟨by simp [h1, h2], balloc (Below.refl _ _) _⟩
    · have h3 : (te == 0) = false := by simpa using h2
      go_enter Tryz.func75, Tryz.ntmps75
      go_wp2
      go_ret
      exact ⟨by simp [h1, h2], balloc (Below.refl _ _) _⟩
  · have h3 : decide (fr ≤ t) = false := by simpa using h1
    go_enter Tryz.func75, Tryz.ntmps75
    go_wp2
    go_ret
    exact ⟨by simp [h1], balloc (Below.refl _ _) _⟩
set_option maxHeartbeats 1000000 in
theorem impl_ended (r : Rw) (a : Option Addr) (cap : Nat) (t : Int) (w : World) : Calls Tryz.prog 80 #[rwv r a cap, .int .i64 t] w fun e w' => e = .returned (.bool (decide (r.2.2.1 ≠ 0) && decide (r.2.2.1 ≤ t))) ∧ Below w.heap.size w w' := by
  obtain ⟨id, fr, te, kd, ps⟩ := r
  unfold rwv
  simp only
  generalize ps.length = n
  by_cases h2 : te = 0
  · go_enter Tryz.func80, Tryz.ntmps80
    go_wp2
    go_ret
    exact ⟨by simp [h2], balloc (Below.refl _ _) _⟩
  · have h3 : (te != 0) = true := by simpa using h2
    go_enter Tryz.func80, Tryz.ntmps80
    go_wp2
    go_ret
    exact ⟨by simp [h2], balloc (Below.refl _ _) _⟩
set_option maxHeartbeats 1000000 in
theorem impl_there (r : Rw) (a : Option Addr) (cap : Nat) (t : Int) (w : World) : Calls Tryz.prog 48 #[rwv r a cap, .int .i64 t] w fun e w' => e = .returned (.bool (thr (tr r) t)) ∧ Below w.heap.size w w' := by
  have HE := hid (fun w => impl_ended r a cap t w)
  rw [thr_def]
  obtain ⟨id, fr, te, kd, ps⟩ := r
  unfold rwv at *
  simp only at *
  generalize ps.length = n at *
  by_cases h1 : fr ≤ t
  · have e : (decide (fr ≤ t) && (decide (te = 0) || decide (t < te))) = !(decide (te ≠ 0) && decide (te ≤ t)) := by
      by_cases h2 : te = 0
      · simp [h1, h2]
      · by_cases h3 : te ≤ t
        · have : ¬ t < te := by omega
          simp [h1, h2, h3, this]
        · have : t < te := by omega
          simp [h1, h2, h3, this]
    rw [e]
    generalize (decide (te ≠ 0) && decide (te ≤ t)) = q at *
    clear e
    go_enter Tryz.func48, Tryz.ntmps48
    go_wp2_with fail
    refine (HE.out _).mono ?_
    rintro e w1 ⟨rfl, hb⟩
    go_wp2_with fail
    go_ret
    exact ⟨rfl, btrans (balloc (Below.refl _ _) _) hb⟩
  · have h3 : decide (fr ≤ t) = false := by simpa using h1
    clear HE
    go_enter Tryz.func48, Tryz.ntmps48
    go_wp2_with fail
    go_ret
    exact ⟨by simp [h1], balloc (Below.refl _ _) _⟩
def idb (x : Int) : Bool := decide (1 ≤ x) && decide (x ≤ 999999999)
/-- Whether a row is right in a list with that last moment, the shape told apart. -/
def rwb (now : Int) (r : Rw) : Bool := idb r.1 && (decide (1 ≤ r.2.1) && decide (r.2.1 ≤ now)) && (decide (r.2.2.1 = 0) || (decide (r.2.1 < r.2.2.1) && decide (r.2.2.1 ≤ now)))
theorem rwb_tmb {now : Int} {r : Rw} (h : rwb now r = true) : tmb (tr r) := by
  unfold rwb at h
  simp only [Bool.and_eq_true, Bool.or_eq_true, decide_eq_true_eq] at h
  refine ⟨h.1.2.1, ?_⟩
  rcases h.2 with h | h
  · exact .inl h
  · exact .inr h.1
theorem in_r (x a b : Int) (w : World) : Calls Tryz.prog 54 #[.int .i64 x, .int .i64 a, .int .i64 b] w fun e w' => e = .returned (.bool (decide (a ≤ x) && decide (x ≤ b))) ∧ w' = w := by
  by_cases h : a ≤ x
  · go_enter Tryz.func54, Tryz.ntmps54
    go_wp2
    go_ret
    exact ⟨by simp [h], rfl⟩
  · have hd : decide (a ≤ x) = false := by simpa using h
    go_enter Tryz.func54, Tryz.ntmps54
    go_wp2
    go_ret
    exact ⟨by simp [hd], rfl⟩
theorem spec_id (x : Int) (w : World) : Calls Tryz.prog 20 #[.int .i64 x] w fun e w' => e = .returned (.bool (idb x)) ∧ w' = w := by
  go_enter Tryz.func20, Tryz.ntmps20
  go_wp2_with fail
  refine (in_r x 1 999999999 _).mono ?_
  rintro e w1 ⟨rfl, rfl⟩
  go_wp2_with fail
  go_ret
  exact ⟨rfl, rfl⟩
theorem impl_id (x : Int) (w : World) : Calls Tryz.prog 60 #[.int .i64 x] w fun e w' => e = .returned (.bool (idb x)) ∧ w' = w := by
  by_cases h : 1 ≤ x
  · go_enter Tryz.func60, Tryz.ntmps60
    go_wp2
    go_ret
    exact ⟨by simp [idb, h], rfl⟩
  · have hd : decide (1 ≤ x) = false := by simpa using h
    go_enter Tryz.func60, Tryz.ntmps60
    go_wp2
    go_ret
    exact ⟨by unfold idb; rw [hd]; rfl, rfl⟩
end Go.Proofs.YtenlhgnobfadgaaGreatDoor
