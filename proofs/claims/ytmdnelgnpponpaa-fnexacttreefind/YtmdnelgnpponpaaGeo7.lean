/- Boxes: the landed functions and the specification's, at any boxes. -/
import Derived.Test.YtmdnelgnpponpaaGeo2
import Derived.Test.YtmdnelgnpponpaaGeo4
namespace Go.Proofs.Ytmdnelgnpponpaa
open Go.RowKit
set_option linter.unusedSimpArgs false
set_option linter.unusedVariables false
theorem bok_le {a b c d : Int} (h : bok a b c d = true) : In a ∧ In b ∧ In c ∧ In d ∧ a ≤ c ∧ b ≤ d := by
  simp only [bok, cok, Bool.and_eq_true, decide_eq_true_eq] at h
  obtain ⟨⟨⟨⟨⟨h1, h2⟩, h3⟩, h4⟩, h5⟩, h6⟩ := h
  exact ⟨h1, h2, h3, h4, h5, h6⟩
def meetb (a b c d e f g h : Int) : Bool := decide (a ≤ g) && decide (e ≤ c) && decide (b ≤ h) && decide (f ≤ d)
set_option maxHeartbeats 2000000 in
theorem spec_boxok (a b c d : Int) (w : World) : Calls Try.prog 43 #[.agg #[.int .i64 a, .int .i64 b, .int .i64 c, .int .i64 d]] w fun e w' => e = .returned (.bool (bok a b c d)) ∧ Below w.heap.size w w' := by
  unfold bok
  cases h1 : cok a
  · go_enter Try.func43, Try.ntmps43
    go_wp2_with (go_at_call 60; refine (spec_coord _ _).mono ?_; rintro e w' ⟨rfl, rfl⟩)
    go_ret
    exact ⟨by simp, by (repeat (first | exact Below.refl _ _ | (refine btrans ?_ (by assumption)) | refine bdrew ?_ | refine balloc ?_ _))⟩
  · skip
    cases h2 : cok b
    · go_enter Try.func43, Try.ntmps43
      go_wp2_with (go_at_call 60; refine (spec_coord _ _).mono ?_; rintro e w' ⟨rfl, rfl⟩)
      go_ret
      exact ⟨by simp, by (repeat (first | exact Below.refl _ _ | (refine btrans ?_ (by assumption)) | refine bdrew ?_ | refine balloc ?_ _))⟩
    · skip
      cases h3 : cok c
      · go_enter Try.func43, Try.ntmps43
        go_wp2_with (go_at_call 60; refine (spec_coord _ _).mono ?_; rintro e w' ⟨rfl, rfl⟩)
        go_ret
        exact ⟨by simp, by (repeat (first | exact Below.refl _ _ | (refine btrans ?_ (by assumption)) | refine bdrew ?_ | refine balloc ?_ _))⟩
      · skip
        cases h4 : cok d
        · go_enter Try.func43, Try.ntmps43
          go_wp2_with (go_at_call 60; refine (spec_coord _ _).mono ?_; rintro e w' ⟨rfl, rfl⟩)
          go_ret
          exact ⟨by simp, by (repeat (first | exact Below.refl _ _ | (refine btrans ?_ (by assumption)) | refine bdrew ?_ | refine balloc ?_ _))⟩
        · skip
          cases h5 : decide (a ≤ c)
          · go_enter Try.func43, Try.ntmps43
            go_wp2_with (go_at_call 60; refine (spec_coord _ _).mono ?_; rintro e w' ⟨rfl, rfl⟩)
            go_ret
            exact ⟨by simp, by (repeat (first | exact Below.refl _ _ | (refine btrans ?_ (by assumption)) | refine bdrew ?_ | refine balloc ?_ _))⟩
          · go_enter Try.func43, Try.ntmps43
            go_wp2_with (go_at_call 60; refine (spec_coord _ _).mono ?_; rintro e w' ⟨rfl, rfl⟩)
            go_ret
            exact ⟨by simp, by (repeat (first | exact Below.refl _ _ | (refine btrans ?_ (by assumption)) | refine bdrew ?_ | refine balloc ?_ _))⟩
set_option maxHeartbeats 2000000 in
theorem impl_BoxMeets (a b c d e f g h : Int) (w : World) : Calls Try.prog 47 #[.agg #[.int .i64 a, .int .i64 b, .int .i64 c, .int .i64 d], .agg #[.int .i64 e, .int .i64 f, .int .i64 g, .int .i64 h]] w fun e' w' => e' = .returned (.bool (bok a b c d && bok e f g h && meetb a b c d e f g h)) ∧ Below w.heap.size w w' := by
  cases hA : bok a b c d
  · go_enter Try.func47, Try.ntmps47
    go_wp2_with fail
    refine (impl_boxok _ _ _ _ _).mono ?_
    rw [hA]
    rintro e' w1 ⟨rfl, hb1⟩
    go_wp2_with fail
    go_ret
    exact ⟨by simp, by (repeat (first | exact Below.refl _ _ | (refine btrans ?_ (by assumption)) | refine bdrew ?_ | refine balloc ?_ _))⟩
  cases hB : bok e f g h
  · go_enter Try.func47, Try.ntmps47
    go_wp2_with fail
    refine (impl_boxok _ _ _ _ _).mono ?_
    rw [hA]
    rintro e' w1 ⟨rfl, hb1⟩
    have q0 : w1.cell? ⟨w.heap.size, 0, none⟩ = some (.int .i64 a) := by (repeat (first | assumption | (refine newcell _ _ _ _ _ _ ?_ rfl; simp; done) | refine keepcell (by assumption) ?_ | refine keepdrew ?_ | refine keepalloc ?_ _))
    have q1 : w1.cell? ⟨w.heap.size, 1, none⟩ = some (.int .i64 b) := by (repeat (first | assumption | (refine newcell _ _ _ _ _ _ ?_ rfl; simp; done) | refine keepcell (by assumption) ?_ | refine keepdrew ?_ | refine keepalloc ?_ _))
    have q2 : w1.cell? ⟨w.heap.size, 2, none⟩ = some (.int .i64 c) := by (repeat (first | assumption | (refine newcell _ _ _ _ _ _ ?_ rfl; simp; done) | refine keepcell (by assumption) ?_ | refine keepdrew ?_ | refine keepalloc ?_ _))
    have q3 : w1.cell? ⟨w.heap.size, 3, none⟩ = some (.int .i64 d) := by (repeat (first | assumption | (refine newcell _ _ _ _ _ _ ?_ rfl; simp; done) | refine keepcell (by assumption) ?_ | refine keepdrew ?_ | refine keepalloc ?_ _))
    have q4 : w1.cell? ⟨w.heap.size + 1, 0, none⟩ = some (.int .i64 e) := by (repeat (first | assumption | (refine newcell _ _ _ _ _ _ ?_ rfl; simp; done) | refine keepcell (by assumption) ?_ | refine keepdrew ?_ | refine keepalloc ?_ _))
    have q5 : w1.cell? ⟨w.heap.size + 1, 1, none⟩ = some (.int .i64 f) := by (repeat (first | assumption | (refine newcell _ _ _ _ _ _ ?_ rfl; simp; done) | refine keepcell (by assumption) ?_ | refine keepdrew ?_ | refine keepalloc ?_ _))
    have q6 : w1.cell? ⟨w.heap.size + 1, 2, none⟩ = some (.int .i64 g) := by (repeat (first | assumption | (refine newcell _ _ _ _ _ _ ?_ rfl; simp; done) | refine keepcell (by assumption) ?_ | refine keepdrew ?_ | refine keepalloc ?_ _))
    have q7 : w1.cell? ⟨w.heap.size + 1, 3, none⟩ = some (.int .i64 h) := by (repeat (first | assumption | (refine newcell _ _ _ _ _ _ ?_ rfl; simp; done) | refine keepcell (by assumption) ?_ | refine keepdrew ?_ | refine keepalloc ?_ _))
    go_wp2_with fail
    refine (impl_boxok _ _ _ _ _).mono ?_
    rw [hB]
    rintro e' w2 ⟨rfl, hb2⟩
    go_wp2_with fail
    go_ret
    exact ⟨by simp, by (repeat (first | exact Below.refl _ _ | (refine btrans ?_ (by assumption)) | refine bdrew ?_ | refine balloc ?_ _))⟩
  unfold meetb
  cases h1 : decide (a ≤ g)
  · go_enter Try.func47, Try.ntmps47
    go_wp2_with fail
    refine (impl_boxok _ _ _ _ _).mono ?_
    rw [hA]
    rintro e' w1 ⟨rfl, hb1⟩
    have q0 : w1.cell? ⟨w.heap.size, 0, none⟩ = some (.int .i64 a) := by (repeat (first | assumption | (refine newcell _ _ _ _ _ _ ?_ rfl; simp; done) | refine keepcell (by assumption) ?_ | refine keepdrew ?_ | refine keepalloc ?_ _))
    have q1 : w1.cell? ⟨w.heap.size, 1, none⟩ = some (.int .i64 b) := by (repeat (first | assumption | (refine newcell _ _ _ _ _ _ ?_ rfl; simp; done) | refine keepcell (by assumption) ?_ | refine keepdrew ?_ | refine keepalloc ?_ _))
    have q2 : w1.cell? ⟨w.heap.size, 2, none⟩ = some (.int .i64 c) := by (repeat (first | assumption | (refine newcell _ _ _ _ _ _ ?_ rfl; simp; done) | refine keepcell (by assumption) ?_ | refine keepdrew ?_ | refine keepalloc ?_ _))
    have q3 : w1.cell? ⟨w.heap.size, 3, none⟩ = some (.int .i64 d) := by (repeat (first | assumption | (refine newcell _ _ _ _ _ _ ?_ rfl; simp; done) | refine keepcell (by assumption) ?_ | refine keepdrew ?_ | refine keepalloc ?_ _))
    have q4 : w1.cell? ⟨w.heap.size + 1, 0, none⟩ = some (.int .i64 e) := by (repeat (first | assumption | (refine newcell _ _ _ _ _ _ ?_ rfl; simp; done) | refine keepcell (by assumption) ?_ | refine keepdrew ?_ | refine keepalloc ?_ _))
    have q5 : w1.cell? ⟨w.heap.size + 1, 1, none⟩ = some (.int .i64 f) := by (repeat (first | assumption | (refine newcell _ _ _ _ _ _ ?_ rfl; simp; done) | refine keepcell (by assumption) ?_ | refine keepdrew ?_ | refine keepalloc ?_ _))
    have q6 : w1.cell? ⟨w.heap.size + 1, 2, none⟩ = some (.int .i64 g) := by (repeat (first | assumption | (refine newcell _ _ _ _ _ _ ?_ rfl; simp; done) | refine keepcell (by assumption) ?_ | refine keepdrew ?_ | refine keepalloc ?_ _))
    have q7 : w1.cell? ⟨w.heap.size + 1, 3, none⟩ = some (.int .i64 h) := by (repeat (first | assumption | (refine newcell _ _ _ _ _ _ ?_ rfl; simp; done) | refine keepcell (by assumption) ?_ | refine keepdrew ?_ | refine keepalloc ?_ _))
    go_wp2_with fail
    refine (impl_boxok _ _ _ _ _).mono ?_
    rw [hB]
    rintro e' w2 ⟨rfl, hb2⟩
    have r0 : w2.cell? ⟨w.heap.size, 0, none⟩ = some (.int .i64 a) := by (repeat (first | assumption | (refine newcell _ _ _ _ _ _ ?_ rfl; simp; done) | refine keepcell (by assumption) ?_ | refine keepdrew ?_ | refine keepalloc ?_ _))
    have r1 : w2.cell? ⟨w.heap.size, 1, none⟩ = some (.int .i64 b) := by (repeat (first | assumption | (refine newcell _ _ _ _ _ _ ?_ rfl; simp; done) | refine keepcell (by assumption) ?_ | refine keepdrew ?_ | refine keepalloc ?_ _))
    have r2 : w2.cell? ⟨w.heap.size, 2, none⟩ = some (.int .i64 c) := by (repeat (first | assumption | (refine newcell _ _ _ _ _ _ ?_ rfl; simp; done) | refine keepcell (by assumption) ?_ | refine keepdrew ?_ | refine keepalloc ?_ _))
    have r3 : w2.cell? ⟨w.heap.size, 3, none⟩ = some (.int .i64 d) := by (repeat (first | assumption | (refine newcell _ _ _ _ _ _ ?_ rfl; simp; done) | refine keepcell (by assumption) ?_ | refine keepdrew ?_ | refine keepalloc ?_ _))
    have r4 : w2.cell? ⟨w.heap.size + 1, 0, none⟩ = some (.int .i64 e) := by (repeat (first | assumption | (refine newcell _ _ _ _ _ _ ?_ rfl; simp; done) | refine keepcell (by assumption) ?_ | refine keepdrew ?_ | refine keepalloc ?_ _))
    have r5 : w2.cell? ⟨w.heap.size + 1, 1, none⟩ = some (.int .i64 f) := by (repeat (first | assumption | (refine newcell _ _ _ _ _ _ ?_ rfl; simp; done) | refine keepcell (by assumption) ?_ | refine keepdrew ?_ | refine keepalloc ?_ _))
    have r6 : w2.cell? ⟨w.heap.size + 1, 2, none⟩ = some (.int .i64 g) := by (repeat (first | assumption | (refine newcell _ _ _ _ _ _ ?_ rfl; simp; done) | refine keepcell (by assumption) ?_ | refine keepdrew ?_ | refine keepalloc ?_ _))
    have r7 : w2.cell? ⟨w.heap.size + 1, 3, none⟩ = some (.int .i64 h) := by (repeat (first | assumption | (refine newcell _ _ _ _ _ _ ?_ rfl; simp; done) | refine keepcell (by assumption) ?_ | refine keepdrew ?_ | refine keepalloc ?_ _))
    go_wp2_with fail
    go_ret
    exact ⟨by simp, by (repeat (first | exact Below.refl _ _ | (refine btrans ?_ (by assumption)) | refine bdrew ?_ | refine balloc ?_ _))⟩
  · skip
    cases h2 : decide (e ≤ c)
    · go_enter Try.func47, Try.ntmps47
      go_wp2_with fail
      refine (impl_boxok _ _ _ _ _).mono ?_
      rw [hA]
      rintro e' w1 ⟨rfl, hb1⟩
      have q0 : w1.cell? ⟨w.heap.size, 0, none⟩ = some (.int .i64 a) := by (repeat (first | assumption | (refine newcell _ _ _ _ _ _ ?_ rfl; simp; done) | refine keepcell (by assumption) ?_ | refine keepdrew ?_ | refine keepalloc ?_ _))
      have q1 : w1.cell? ⟨w.heap.size, 1, none⟩ = some (.int .i64 b) := by (repeat (first | assumption | (refine newcell _ _ _ _ _ _ ?_ rfl; simp; done) | refine keepcell (by assumption) ?_ | refine keepdrew ?_ | refine keepalloc ?_ _))
      have q2 : w1.cell? ⟨w.heap.size, 2, none⟩ = some (.int .i64 c) := by (repeat (first | assumption | (refine newcell _ _ _ _ _ _ ?_ rfl; simp; done) | refine keepcell (by assumption) ?_ | refine keepdrew ?_ | refine keepalloc ?_ _))
      have q3 : w1.cell? ⟨w.heap.size, 3, none⟩ = some (.int .i64 d) := by (repeat (first | assumption | (refine newcell _ _ _ _ _ _ ?_ rfl; simp; done) | refine keepcell (by assumption) ?_ | refine keepdrew ?_ | refine keepalloc ?_ _))
      have q4 : w1.cell? ⟨w.heap.size + 1, 0, none⟩ = some (.int .i64 e) := by (repeat (first | assumption | (refine newcell _ _ _ _ _ _ ?_ rfl; simp; done) | refine keepcell (by assumption) ?_ | refine keepdrew ?_ | refine keepalloc ?_ _))
      have q5 : w1.cell? ⟨w.heap.size + 1, 1, none⟩ = some (.int .i64 f) := by (repeat (first | assumption | (refine newcell _ _ _ _ _ _ ?_ rfl; simp; done) | refine keepcell (by assumption) ?_ | refine keepdrew ?_ | refine keepalloc ?_ _))
      have q6 : w1.cell? ⟨w.heap.size + 1, 2, none⟩ = some (.int .i64 g) := by (repeat (first | assumption | (refine newcell _ _ _ _ _ _ ?_ rfl; simp; done) | refine keepcell (by assumption) ?_ | refine keepdrew ?_ | refine keepalloc ?_ _))
      have q7 : w1.cell? ⟨w.heap.size + 1, 3, none⟩ = some (.int .i64 h) := by (repeat (first | assumption | (refine newcell _ _ _ _ _ _ ?_ rfl; simp; done) | refine keepcell (by assumption) ?_ | refine keepdrew ?_ | refine keepalloc ?_ _))
      go_wp2_with fail
      refine (impl_boxok _ _ _ _ _).mono ?_
      rw [hB]
      rintro e' w2 ⟨rfl, hb2⟩
      have r0 : w2.cell? ⟨w.heap.size, 0, none⟩ = some (.int .i64 a) := by (repeat (first | assumption | (refine newcell _ _ _ _ _ _ ?_ rfl; simp; done) | refine keepcell (by assumption) ?_ | refine keepdrew ?_ | refine keepalloc ?_ _))
      have r1 : w2.cell? ⟨w.heap.size, 1, none⟩ = some (.int .i64 b) := by (repeat (first | assumption | (refine newcell _ _ _ _ _ _ ?_ rfl; simp; done) | refine keepcell (by assumption) ?_ | refine keepdrew ?_ | refine keepalloc ?_ _))
      have r2 : w2.cell? ⟨w.heap.size, 2, none⟩ = some (.int .i64 c) := by (repeat (first | assumption | (refine newcell _ _ _ _ _ _ ?_ rfl; simp; done) | refine keepcell (by assumption) ?_ | refine keepdrew ?_ | refine keepalloc ?_ _))
      have r3 : w2.cell? ⟨w.heap.size, 3, none⟩ = some (.int .i64 d) := by (repeat (first | assumption | (refine newcell _ _ _ _ _ _ ?_ rfl; simp; done) | refine keepcell (by assumption) ?_ | refine keepdrew ?_ | refine keepalloc ?_ _))
      have r4 : w2.cell? ⟨w.heap.size + 1, 0, none⟩ = some (.int .i64 e) := by (repeat (first | assumption | (refine newcell _ _ _ _ _ _ ?_ rfl; simp; done) | refine keepcell (by assumption) ?_ | refine keepdrew ?_ | refine keepalloc ?_ _))
      have r5 : w2.cell? ⟨w.heap.size + 1, 1, none⟩ = some (.int .i64 f) := by (repeat (first | assumption | (refine newcell _ _ _ _ _ _ ?_ rfl; simp; done) | refine keepcell (by assumption) ?_ | refine keepdrew ?_ | refine keepalloc ?_ _))
      have r6 : w2.cell? ⟨w.heap.size + 1, 2, none⟩ = some (.int .i64 g) := by (repeat (first | assumption | (refine newcell _ _ _ _ _ _ ?_ rfl; simp; done) | refine keepcell (by assumption) ?_ | refine keepdrew ?_ | refine keepalloc ?_ _))
      have r7 : w2.cell? ⟨w.heap.size + 1, 3, none⟩ = some (.int .i64 h) := by (repeat (first | assumption | (refine newcell _ _ _ _ _ _ ?_ rfl; simp; done) | refine keepcell (by assumption) ?_ | refine keepdrew ?_ | refine keepalloc ?_ _))
      go_wp2_with fail
      go_ret
      exact ⟨by simp, by (repeat (first | exact Below.refl _ _ | (refine btrans ?_ (by assumption)) | refine bdrew ?_ | refine balloc ?_ _))⟩
    · skip
      cases h3 : decide (b ≤ h)
      · go_enter Try.func47, Try.ntmps47
        go_wp2_with fail
        refine (impl_boxok _ _ _ _ _).mono ?_
        rw [hA]
        rintro e' w1 ⟨rfl, hb1⟩
        have q0 : w1.cell? ⟨w.heap.size, 0, none⟩ = some (.int .i64 a) := by (repeat (first | assumption | (refine newcell _ _ _ _ _ _ ?_ rfl; simp; done) | refine keepcell (by assumption) ?_ | refine keepdrew ?_ | refine keepalloc ?_ _))
        have q1 : w1.cell? ⟨w.heap.size, 1, none⟩ = some (.int .i64 b) := by (repeat (first | assumption | (refine newcell _ _ _ _ _ _ ?_ rfl; simp; done) | refine keepcell (by assumption) ?_ | refine keepdrew ?_ | refine keepalloc ?_ _))
        have q2 : w1.cell? ⟨w.heap.size, 2, none⟩ = some (.int .i64 c) := by (repeat (first | assumption | (refine newcell _ _ _ _ _ _ ?_ rfl; simp; done) | refine keepcell (by assumption) ?_ | refine keepdrew ?_ | refine keepalloc ?_ _))
        have q3 : w1.cell? ⟨w.heap.size, 3, none⟩ = some (.int .i64 d) := by (repeat (first | assumption | (refine newcell _ _ _ _ _ _ ?_ rfl; simp; done) | refine keepcell (by assumption) ?_ | refine keepdrew ?_ | refine keepalloc ?_ _))
        have q4 : w1.cell? ⟨w.heap.size + 1, 0, none⟩ = some (.int .i64 e) := by (repeat (first | assumption | (refine newcell _ _ _ _ _ _ ?_ rfl; simp; done) | refine keepcell (by assumption) ?_ | refine keepdrew ?_ | refine keepalloc ?_ _))
        have q5 : w1.cell? ⟨w.heap.size + 1, 1, none⟩ = some (.int .i64 f) := by (repeat (first | assumption | (refine newcell _ _ _ _ _ _ ?_ rfl; simp; done) | refine keepcell (by assumption) ?_ | refine keepdrew ?_ | refine keepalloc ?_ _))
        have q6 : w1.cell? ⟨w.heap.size + 1, 2, none⟩ = some (.int .i64 g) := by (repeat (first | assumption | (refine newcell _ _ _ _ _ _ ?_ rfl; simp; done) | refine keepcell (by assumption) ?_ | refine keepdrew ?_ | refine keepalloc ?_ _))
        have q7 : w1.cell? ⟨w.heap.size + 1, 3, none⟩ = some (.int .i64 h) := by (repeat (first | assumption | (refine newcell _ _ _ _ _ _ ?_ rfl; simp; done) | refine keepcell (by assumption) ?_ | refine keepdrew ?_ | refine keepalloc ?_ _))
        go_wp2_with fail
        refine (impl_boxok _ _ _ _ _).mono ?_
        rw [hB]
        rintro e' w2 ⟨rfl, hb2⟩
        have r0 : w2.cell? ⟨w.heap.size, 0, none⟩ = some (.int .i64 a) := by (repeat (first | assumption | (refine newcell _ _ _ _ _ _ ?_ rfl; simp; done) | refine keepcell (by assumption) ?_ | refine keepdrew ?_ | refine keepalloc ?_ _))
        have r1 : w2.cell? ⟨w.heap.size, 1, none⟩ = some (.int .i64 b) := by (repeat (first | assumption | (refine newcell _ _ _ _ _ _ ?_ rfl; simp; done) | refine keepcell (by assumption) ?_ | refine keepdrew ?_ | refine keepalloc ?_ _))
        have r2 : w2.cell? ⟨w.heap.size, 2, none⟩ = some (.int .i64 c) := by (repeat (first | assumption | (refine newcell _ _ _ _ _ _ ?_ rfl; simp; done) | refine keepcell (by assumption) ?_ | refine keepdrew ?_ | refine keepalloc ?_ _))
        have r3 : w2.cell? ⟨w.heap.size, 3, none⟩ = some (.int .i64 d) := by (repeat (first | assumption | (refine newcell _ _ _ _ _ _ ?_ rfl; simp; done) | refine keepcell (by assumption) ?_ | refine keepdrew ?_ | refine keepalloc ?_ _))
        have r4 : w2.cell? ⟨w.heap.size + 1, 0, none⟩ = some (.int .i64 e) := by (repeat (first | assumption | (refine newcell _ _ _ _ _ _ ?_ rfl; simp; done) | refine keepcell (by assumption) ?_ | refine keepdrew ?_ | refine keepalloc ?_ _))
        have r5 : w2.cell? ⟨w.heap.size + 1, 1, none⟩ = some (.int .i64 f) := by (repeat (first | assumption | (refine newcell _ _ _ _ _ _ ?_ rfl; simp; done) | refine keepcell (by assumption) ?_ | refine keepdrew ?_ | refine keepalloc ?_ _))
        have r6 : w2.cell? ⟨w.heap.size + 1, 2, none⟩ = some (.int .i64 g) := by (repeat (first | assumption | (refine newcell _ _ _ _ _ _ ?_ rfl; simp; done) | refine keepcell (by assumption) ?_ | refine keepdrew ?_ | refine keepalloc ?_ _))
        have r7 : w2.cell? ⟨w.heap.size + 1, 3, none⟩ = some (.int .i64 h) := by (repeat (first | assumption | (refine newcell _ _ _ _ _ _ ?_ rfl; simp; done) | refine keepcell (by assumption) ?_ | refine keepdrew ?_ | refine keepalloc ?_ _))
        go_wp2_with fail
        go_ret
        exact ⟨by simp, by (repeat (first | exact Below.refl _ _ | (refine btrans ?_ (by assumption)) | refine bdrew ?_ | refine balloc ?_ _))⟩
      · go_enter Try.func47, Try.ntmps47
        go_wp2_with fail
        refine (impl_boxok _ _ _ _ _).mono ?_
        rw [hA]
        rintro e' w1 ⟨rfl, hb1⟩
        have q0 : w1.cell? ⟨w.heap.size, 0, none⟩ = some (.int .i64 a) := by (repeat (first | assumption | (refine newcell _ _ _ _ _ _ ?_ rfl; simp; done) | refine keepcell (by assumption) ?_ | refine keepdrew ?_ | refine keepalloc ?_ _))
        have q1 : w1.cell? ⟨w.heap.size, 1, none⟩ = some (.int .i64 b) := by (repeat (first | assumption | (refine newcell _ _ _ _ _ _ ?_ rfl; simp; done) | refine keepcell (by assumption) ?_ | refine keepdrew ?_ | refine keepalloc ?_ _))
        have q2 : w1.cell? ⟨w.heap.size, 2, none⟩ = some (.int .i64 c) := by (repeat (first | assumption | (refine newcell _ _ _ _ _ _ ?_ rfl; simp; done) | refine keepcell (by assumption) ?_ | refine keepdrew ?_ | refine keepalloc ?_ _))
        have q3 : w1.cell? ⟨w.heap.size, 3, none⟩ = some (.int .i64 d) := by (repeat (first | assumption | (refine newcell _ _ _ _ _ _ ?_ rfl; simp; done) | refine keepcell (by assumption) ?_ | refine keepdrew ?_ | refine keepalloc ?_ _))
        have q4 : w1.cell? ⟨w.heap.size + 1, 0, none⟩ = some (.int .i64 e) := by (repeat (first | assumption | (refine newcell _ _ _ _ _ _ ?_ rfl; simp; done) | refine keepcell (by assumption) ?_ | refine keepdrew ?_ | refine keepalloc ?_ _))
        have q5 : w1.cell? ⟨w.heap.size + 1, 1, none⟩ = some (.int .i64 f) := by (repeat (first | assumption | (refine newcell _ _ _ _ _ _ ?_ rfl; simp; done) | refine keepcell (by assumption) ?_ | refine keepdrew ?_ | refine keepalloc ?_ _))
        have q6 : w1.cell? ⟨w.heap.size + 1, 2, none⟩ = some (.int .i64 g) := by (repeat (first | assumption | (refine newcell _ _ _ _ _ _ ?_ rfl; simp; done) | refine keepcell (by assumption) ?_ | refine keepdrew ?_ | refine keepalloc ?_ _))
        have q7 : w1.cell? ⟨w.heap.size + 1, 3, none⟩ = some (.int .i64 h) := by (repeat (first | assumption | (refine newcell _ _ _ _ _ _ ?_ rfl; simp; done) | refine keepcell (by assumption) ?_ | refine keepdrew ?_ | refine keepalloc ?_ _))
        go_wp2_with fail
        refine (impl_boxok _ _ _ _ _).mono ?_
        rw [hB]
        rintro e' w2 ⟨rfl, hb2⟩
        have r0 : w2.cell? ⟨w.heap.size, 0, none⟩ = some (.int .i64 a) := by (repeat (first | assumption | (refine newcell _ _ _ _ _ _ ?_ rfl; simp; done) | refine keepcell (by assumption) ?_ | refine keepdrew ?_ | refine keepalloc ?_ _))
        have r1 : w2.cell? ⟨w.heap.size, 1, none⟩ = some (.int .i64 b) := by (repeat (first | assumption | (refine newcell _ _ _ _ _ _ ?_ rfl; simp; done) | refine keepcell (by assumption) ?_ | refine keepdrew ?_ | refine keepalloc ?_ _))
        have r2 : w2.cell? ⟨w.heap.size, 2, none⟩ = some (.int .i64 c) := by (repeat (first | assumption | (refine newcell _ _ _ _ _ _ ?_ rfl; simp; done) | refine keepcell (by assumption) ?_ | refine keepdrew ?_ | refine keepalloc ?_ _))
        have r3 : w2.cell? ⟨w.heap.size, 3, none⟩ = some (.int .i64 d) := by (repeat (first | assumption | (refine newcell _ _ _ _ _ _ ?_ rfl; simp; done) | refine keepcell (by assumption) ?_ | refine keepdrew ?_ | refine keepalloc ?_ _))
        have r4 : w2.cell? ⟨w.heap.size + 1, 0, none⟩ = some (.int .i64 e) := by (repeat (first | assumption | (refine newcell _ _ _ _ _ _ ?_ rfl; simp; done) | refine keepcell (by assumption) ?_ | refine keepdrew ?_ | refine keepalloc ?_ _))
        have r5 : w2.cell? ⟨w.heap.size + 1, 1, none⟩ = some (.int .i64 f) := by (repeat (first | assumption | (refine newcell _ _ _ _ _ _ ?_ rfl; simp; done) | refine keepcell (by assumption) ?_ | refine keepdrew ?_ | refine keepalloc ?_ _))
        have r6 : w2.cell? ⟨w.heap.size + 1, 2, none⟩ = some (.int .i64 g) := by (repeat (first | assumption | (refine newcell _ _ _ _ _ _ ?_ rfl; simp; done) | refine keepcell (by assumption) ?_ | refine keepdrew ?_ | refine keepalloc ?_ _))
        have r7 : w2.cell? ⟨w.heap.size + 1, 3, none⟩ = some (.int .i64 h) := by (repeat (first | assumption | (refine newcell _ _ _ _ _ _ ?_ rfl; simp; done) | refine keepcell (by assumption) ?_ | refine keepdrew ?_ | refine keepalloc ?_ _))
        go_wp2_with fail
        go_ret
        exact ⟨by simp, by (repeat (first | exact Below.refl _ _ | (refine btrans ?_ (by assumption)) | refine bdrew ?_ | refine balloc ?_ _))⟩
set_option maxHeartbeats 2000000 in
theorem spec_BoxMeets (a b c d e f g h : Int) (w : World) : Calls Try.prog 61 #[.agg #[.int .i64 a, .int .i64 b, .int .i64 c, .int .i64 d], .agg #[.int .i64 e, .int .i64 f, .int .i64 g, .int .i64 h]] w fun e' w' => e' = .returned (.bool (bok a b c d && bok e f g h && meetb a b c d e f g h)) ∧ Below w.heap.size w w' := by
  cases hA : bok a b c d
  · go_enter Try.func61, Try.ntmps61
    go_wp2_with fail
    refine (spec_boxok _ _ _ _ _).mono ?_
    rw [hA]
    rintro e' w1 ⟨rfl, hb1⟩
    go_wp2_with fail
    go_ret
    exact ⟨by simp, by (repeat (first | exact Below.refl _ _ | (refine btrans ?_ (by assumption)) | refine bdrew ?_ | refine balloc ?_ _))⟩
  cases hB : bok e f g h
  · go_enter Try.func61, Try.ntmps61
    go_wp2_with fail
    refine (spec_boxok _ _ _ _ _).mono ?_
    rw [hA]
    rintro e' w1 ⟨rfl, hb1⟩
    have q0 : w1.cell? ⟨w.heap.size, 0, none⟩ = some (.int .i64 a) := by (repeat (first | assumption | (refine newcell _ _ _ _ _ _ ?_ rfl; simp; done) | refine keepcell (by assumption) ?_ | refine keepdrew ?_ | refine keepalloc ?_ _))
    have q1 : w1.cell? ⟨w.heap.size, 1, none⟩ = some (.int .i64 b) := by (repeat (first | assumption | (refine newcell _ _ _ _ _ _ ?_ rfl; simp; done) | refine keepcell (by assumption) ?_ | refine keepdrew ?_ | refine keepalloc ?_ _))
    have q2 : w1.cell? ⟨w.heap.size, 2, none⟩ = some (.int .i64 c) := by (repeat (first | assumption | (refine newcell _ _ _ _ _ _ ?_ rfl; simp; done) | refine keepcell (by assumption) ?_ | refine keepdrew ?_ | refine keepalloc ?_ _))
    have q3 : w1.cell? ⟨w.heap.size, 3, none⟩ = some (.int .i64 d) := by (repeat (first | assumption | (refine newcell _ _ _ _ _ _ ?_ rfl; simp; done) | refine keepcell (by assumption) ?_ | refine keepdrew ?_ | refine keepalloc ?_ _))
    have q4 : w1.cell? ⟨w.heap.size + 1, 0, none⟩ = some (.int .i64 e) := by (repeat (first | assumption | (refine newcell _ _ _ _ _ _ ?_ rfl; simp; done) | refine keepcell (by assumption) ?_ | refine keepdrew ?_ | refine keepalloc ?_ _))
    have q5 : w1.cell? ⟨w.heap.size + 1, 1, none⟩ = some (.int .i64 f) := by (repeat (first | assumption | (refine newcell _ _ _ _ _ _ ?_ rfl; simp; done) | refine keepcell (by assumption) ?_ | refine keepdrew ?_ | refine keepalloc ?_ _))
    have q6 : w1.cell? ⟨w.heap.size + 1, 2, none⟩ = some (.int .i64 g) := by (repeat (first | assumption | (refine newcell _ _ _ _ _ _ ?_ rfl; simp; done) | refine keepcell (by assumption) ?_ | refine keepdrew ?_ | refine keepalloc ?_ _))
    have q7 : w1.cell? ⟨w.heap.size + 1, 3, none⟩ = some (.int .i64 h) := by (repeat (first | assumption | (refine newcell _ _ _ _ _ _ ?_ rfl; simp; done) | refine keepcell (by assumption) ?_ | refine keepdrew ?_ | refine keepalloc ?_ _))
    go_wp2_with fail
    refine (spec_boxok _ _ _ _ _).mono ?_
    rw [hB]
    rintro e' w2 ⟨rfl, hb2⟩
    go_wp2_with fail
    go_ret
    exact ⟨by simp, by (repeat (first | exact Below.refl _ _ | (refine btrans ?_ (by assumption)) | refine bdrew ?_ | refine balloc ?_ _))⟩
  unfold meetb
  cases h1 : decide (a ≤ g)
  · go_enter Try.func61, Try.ntmps61
    go_wp2_with fail
    refine (spec_boxok _ _ _ _ _).mono ?_
    rw [hA]
    rintro e' w1 ⟨rfl, hb1⟩
    have q0 : w1.cell? ⟨w.heap.size, 0, none⟩ = some (.int .i64 a) := by (repeat (first | assumption | (refine newcell _ _ _ _ _ _ ?_ rfl; simp; done) | refine keepcell (by assumption) ?_ | refine keepdrew ?_ | refine keepalloc ?_ _))
    have q1 : w1.cell? ⟨w.heap.size, 1, none⟩ = some (.int .i64 b) := by (repeat (first | assumption | (refine newcell _ _ _ _ _ _ ?_ rfl; simp; done) | refine keepcell (by assumption) ?_ | refine keepdrew ?_ | refine keepalloc ?_ _))
    have q2 : w1.cell? ⟨w.heap.size, 2, none⟩ = some (.int .i64 c) := by (repeat (first | assumption | (refine newcell _ _ _ _ _ _ ?_ rfl; simp; done) | refine keepcell (by assumption) ?_ | refine keepdrew ?_ | refine keepalloc ?_ _))
    have q3 : w1.cell? ⟨w.heap.size, 3, none⟩ = some (.int .i64 d) := by (repeat (first | assumption | (refine newcell _ _ _ _ _ _ ?_ rfl; simp; done) | refine keepcell (by assumption) ?_ | refine keepdrew ?_ | refine keepalloc ?_ _))
    have q4 : w1.cell? ⟨w.heap.size + 1, 0, none⟩ = some (.int .i64 e) := by (repeat (first | assumption | (refine newcell _ _ _ _ _ _ ?_ rfl; simp; done) | refine keepcell (by assumption) ?_ | refine keepdrew ?_ | refine keepalloc ?_ _))
    have q5 : w1.cell? ⟨w.heap.size + 1, 1, none⟩ = some (.int .i64 f) := by (repeat (first | assumption | (refine newcell _ _ _ _ _ _ ?_ rfl; simp; done) | refine keepcell (by assumption) ?_ | refine keepdrew ?_ | refine keepalloc ?_ _))
    have q6 : w1.cell? ⟨w.heap.size + 1, 2, none⟩ = some (.int .i64 g) := by (repeat (first | assumption | (refine newcell _ _ _ _ _ _ ?_ rfl; simp; done) | refine keepcell (by assumption) ?_ | refine keepdrew ?_ | refine keepalloc ?_ _))
    have q7 : w1.cell? ⟨w.heap.size + 1, 3, none⟩ = some (.int .i64 h) := by (repeat (first | assumption | (refine newcell _ _ _ _ _ _ ?_ rfl; simp; done) | refine keepcell (by assumption) ?_ | refine keepdrew ?_ | refine keepalloc ?_ _))
    go_wp2_with fail
    refine (spec_boxok _ _ _ _ _).mono ?_
    rw [hB]
    rintro e' w2 ⟨rfl, hb2⟩
    have r0 : w2.cell? ⟨w.heap.size, 0, none⟩ = some (.int .i64 a) := by (repeat (first | assumption | (refine newcell _ _ _ _ _ _ ?_ rfl; simp; done) | refine keepcell (by assumption) ?_ | refine keepdrew ?_ | refine keepalloc ?_ _))
    have r1 : w2.cell? ⟨w.heap.size, 1, none⟩ = some (.int .i64 b) := by (repeat (first | assumption | (refine newcell _ _ _ _ _ _ ?_ rfl; simp; done) | refine keepcell (by assumption) ?_ | refine keepdrew ?_ | refine keepalloc ?_ _))
    have r2 : w2.cell? ⟨w.heap.size, 2, none⟩ = some (.int .i64 c) := by (repeat (first | assumption | (refine newcell _ _ _ _ _ _ ?_ rfl; simp; done) | refine keepcell (by assumption) ?_ | refine keepdrew ?_ | refine keepalloc ?_ _))
    have r3 : w2.cell? ⟨w.heap.size, 3, none⟩ = some (.int .i64 d) := by (repeat (first | assumption | (refine newcell _ _ _ _ _ _ ?_ rfl; simp; done) | refine keepcell (by assumption) ?_ | refine keepdrew ?_ | refine keepalloc ?_ _))
    have r4 : w2.cell? ⟨w.heap.size + 1, 0, none⟩ = some (.int .i64 e) := by (repeat (first | assumption | (refine newcell _ _ _ _ _ _ ?_ rfl; simp; done) | refine keepcell (by assumption) ?_ | refine keepdrew ?_ | refine keepalloc ?_ _))
    have r5 : w2.cell? ⟨w.heap.size + 1, 1, none⟩ = some (.int .i64 f) := by (repeat (first | assumption | (refine newcell _ _ _ _ _ _ ?_ rfl; simp; done) | refine keepcell (by assumption) ?_ | refine keepdrew ?_ | refine keepalloc ?_ _))
    have r6 : w2.cell? ⟨w.heap.size + 1, 2, none⟩ = some (.int .i64 g) := by (repeat (first | assumption | (refine newcell _ _ _ _ _ _ ?_ rfl; simp; done) | refine keepcell (by assumption) ?_ | refine keepdrew ?_ | refine keepalloc ?_ _))
    have r7 : w2.cell? ⟨w.heap.size + 1, 3, none⟩ = some (.int .i64 h) := by (repeat (first | assumption | (refine newcell _ _ _ _ _ _ ?_ rfl; simp; done) | refine keepcell (by assumption) ?_ | refine keepdrew ?_ | refine keepalloc ?_ _))
    go_wp2_with fail
    go_ret
    exact ⟨by simp, by (repeat (first | exact Below.refl _ _ | (refine btrans ?_ (by assumption)) | refine bdrew ?_ | refine balloc ?_ _))⟩
  · skip
    cases h2 : decide (e ≤ c)
    · go_enter Try.func61, Try.ntmps61
      go_wp2_with fail
      refine (spec_boxok _ _ _ _ _).mono ?_
      rw [hA]
      rintro e' w1 ⟨rfl, hb1⟩
      have q0 : w1.cell? ⟨w.heap.size, 0, none⟩ = some (.int .i64 a) := by (repeat (first | assumption | (refine newcell _ _ _ _ _ _ ?_ rfl; simp; done) | refine keepcell (by assumption) ?_ | refine keepdrew ?_ | refine keepalloc ?_ _))
      have q1 : w1.cell? ⟨w.heap.size, 1, none⟩ = some (.int .i64 b) := by (repeat (first | assumption | (refine newcell _ _ _ _ _ _ ?_ rfl; simp; done) | refine keepcell (by assumption) ?_ | refine keepdrew ?_ | refine keepalloc ?_ _))
      have q2 : w1.cell? ⟨w.heap.size, 2, none⟩ = some (.int .i64 c) := by (repeat (first | assumption | (refine newcell _ _ _ _ _ _ ?_ rfl; simp; done) | refine keepcell (by assumption) ?_ | refine keepdrew ?_ | refine keepalloc ?_ _))
      have q3 : w1.cell? ⟨w.heap.size, 3, none⟩ = some (.int .i64 d) := by (repeat (first | assumption | (refine newcell _ _ _ _ _ _ ?_ rfl; simp; done) | refine keepcell (by assumption) ?_ | refine keepdrew ?_ | refine keepalloc ?_ _))
      have q4 : w1.cell? ⟨w.heap.size + 1, 0, none⟩ = some (.int .i64 e) := by (repeat (first | assumption | (refine newcell _ _ _ _ _ _ ?_ rfl; simp; done) | refine keepcell (by assumption) ?_ | refine keepdrew ?_ | refine keepalloc ?_ _))
      have q5 : w1.cell? ⟨w.heap.size + 1, 1, none⟩ = some (.int .i64 f) := by (repeat (first | assumption | (refine newcell _ _ _ _ _ _ ?_ rfl; simp; done) | refine keepcell (by assumption) ?_ | refine keepdrew ?_ | refine keepalloc ?_ _))
      have q6 : w1.cell? ⟨w.heap.size + 1, 2, none⟩ = some (.int .i64 g) := by (repeat (first | assumption | (refine newcell _ _ _ _ _ _ ?_ rfl; simp; done) | refine keepcell (by assumption) ?_ | refine keepdrew ?_ | refine keepalloc ?_ _))
      have q7 : w1.cell? ⟨w.heap.size + 1, 3, none⟩ = some (.int .i64 h) := by (repeat (first | assumption | (refine newcell _ _ _ _ _ _ ?_ rfl; simp; done) | refine keepcell (by assumption) ?_ | refine keepdrew ?_ | refine keepalloc ?_ _))
      go_wp2_with fail
      refine (spec_boxok _ _ _ _ _).mono ?_
      rw [hB]
      rintro e' w2 ⟨rfl, hb2⟩
      have r0 : w2.cell? ⟨w.heap.size, 0, none⟩ = some (.int .i64 a) := by (repeat (first | assumption | (refine newcell _ _ _ _ _ _ ?_ rfl; simp; done) | refine keepcell (by assumption) ?_ | refine keepdrew ?_ | refine keepalloc ?_ _))
      have r1 : w2.cell? ⟨w.heap.size, 1, none⟩ = some (.int .i64 b) := by (repeat (first | assumption | (refine newcell _ _ _ _ _ _ ?_ rfl; simp; done) | refine keepcell (by assumption) ?_ | refine keepdrew ?_ | refine keepalloc ?_ _))
      have r2 : w2.cell? ⟨w.heap.size, 2, none⟩ = some (.int .i64 c) := by (repeat (first | assumption | (refine newcell _ _ _ _ _ _ ?_ rfl; simp; done) | refine keepcell (by assumption) ?_ | refine keepdrew ?_ | refine keepalloc ?_ _))
      have r3 : w2.cell? ⟨w.heap.size, 3, none⟩ = some (.int .i64 d) := by (repeat (first | assumption | (refine newcell _ _ _ _ _ _ ?_ rfl; simp; done) | refine keepcell (by assumption) ?_ | refine keepdrew ?_ | refine keepalloc ?_ _))
      have r4 : w2.cell? ⟨w.heap.size + 1, 0, none⟩ = some (.int .i64 e) := by (repeat (first | assumption | (refine newcell _ _ _ _ _ _ ?_ rfl; simp; done) | refine keepcell (by assumption) ?_ | refine keepdrew ?_ | refine keepalloc ?_ _))
      have r5 : w2.cell? ⟨w.heap.size + 1, 1, none⟩ = some (.int .i64 f) := by (repeat (first | assumption | (refine newcell _ _ _ _ _ _ ?_ rfl; simp; done) | refine keepcell (by assumption) ?_ | refine keepdrew ?_ | refine keepalloc ?_ _))
      have r6 : w2.cell? ⟨w.heap.size + 1, 2, none⟩ = some (.int .i64 g) := by (repeat (first | assumption | (refine newcell _ _ _ _ _ _ ?_ rfl; simp; done) | refine keepcell (by assumption) ?_ | refine keepdrew ?_ | refine keepalloc ?_ _))
      have r7 : w2.cell? ⟨w.heap.size + 1, 3, none⟩ = some (.int .i64 h) := by (repeat (first | assumption | (refine newcell _ _ _ _ _ _ ?_ rfl; simp; done) | refine keepcell (by assumption) ?_ | refine keepdrew ?_ | refine keepalloc ?_ _))
      go_wp2_with fail
      go_ret
      exact ⟨by simp, by (repeat (first | exact Below.refl _ _ | (refine btrans ?_ (by assumption)) | refine bdrew ?_ | refine balloc ?_ _))⟩
    · skip
      cases h3 : decide (b ≤ h)
      · go_enter Try.func61, Try.ntmps61
        go_wp2_with fail
        refine (spec_boxok _ _ _ _ _).mono ?_
        rw [hA]
        rintro e' w1 ⟨rfl, hb1⟩
        have q0 : w1.cell? ⟨w.heap.size, 0, none⟩ = some (.int .i64 a) := by (repeat (first | assumption | (refine newcell _ _ _ _ _ _ ?_ rfl; simp; done) | refine keepcell (by assumption) ?_ | refine keepdrew ?_ | refine keepalloc ?_ _))
        have q1 : w1.cell? ⟨w.heap.size, 1, none⟩ = some (.int .i64 b) := by (repeat (first | assumption | (refine newcell _ _ _ _ _ _ ?_ rfl; simp; done) | refine keepcell (by assumption) ?_ | refine keepdrew ?_ | refine keepalloc ?_ _))
        have q2 : w1.cell? ⟨w.heap.size, 2, none⟩ = some (.int .i64 c) := by (repeat (first | assumption | (refine newcell _ _ _ _ _ _ ?_ rfl; simp; done) | refine keepcell (by assumption) ?_ | refine keepdrew ?_ | refine keepalloc ?_ _))
        have q3 : w1.cell? ⟨w.heap.size, 3, none⟩ = some (.int .i64 d) := by (repeat (first | assumption | (refine newcell _ _ _ _ _ _ ?_ rfl; simp; done) | refine keepcell (by assumption) ?_ | refine keepdrew ?_ | refine keepalloc ?_ _))
        have q4 : w1.cell? ⟨w.heap.size + 1, 0, none⟩ = some (.int .i64 e) := by (repeat (first | assumption | (refine newcell _ _ _ _ _ _ ?_ rfl; simp; done) | refine keepcell (by assumption) ?_ | refine keepdrew ?_ | refine keepalloc ?_ _))
        have q5 : w1.cell? ⟨w.heap.size + 1, 1, none⟩ = some (.int .i64 f) := by (repeat (first | assumption | (refine newcell _ _ _ _ _ _ ?_ rfl; simp; done) | refine keepcell (by assumption) ?_ | refine keepdrew ?_ | refine keepalloc ?_ _))
        have q6 : w1.cell? ⟨w.heap.size + 1, 2, none⟩ = some (.int .i64 g) := by (repeat (first | assumption | (refine newcell _ _ _ _ _ _ ?_ rfl; simp; done) | refine keepcell (by assumption) ?_ | refine keepdrew ?_ | refine keepalloc ?_ _))
        have q7 : w1.cell? ⟨w.heap.size + 1, 3, none⟩ = some (.int .i64 h) := by (repeat (first | assumption | (refine newcell _ _ _ _ _ _ ?_ rfl; simp; done) | refine keepcell (by assumption) ?_ | refine keepdrew ?_ | refine keepalloc ?_ _))
        go_wp2_with fail
        refine (spec_boxok _ _ _ _ _).mono ?_
        rw [hB]
        rintro e' w2 ⟨rfl, hb2⟩
        have r0 : w2.cell? ⟨w.heap.size, 0, none⟩ = some (.int .i64 a) := by (repeat (first | assumption | (refine newcell _ _ _ _ _ _ ?_ rfl; simp; done) | refine keepcell (by assumption) ?_ | refine keepdrew ?_ | refine keepalloc ?_ _))
        have r1 : w2.cell? ⟨w.heap.size, 1, none⟩ = some (.int .i64 b) := by (repeat (first | assumption | (refine newcell _ _ _ _ _ _ ?_ rfl; simp; done) | refine keepcell (by assumption) ?_ | refine keepdrew ?_ | refine keepalloc ?_ _))
        have r2 : w2.cell? ⟨w.heap.size, 2, none⟩ = some (.int .i64 c) := by (repeat (first | assumption | (refine newcell _ _ _ _ _ _ ?_ rfl; simp; done) | refine keepcell (by assumption) ?_ | refine keepdrew ?_ | refine keepalloc ?_ _))
        have r3 : w2.cell? ⟨w.heap.size, 3, none⟩ = some (.int .i64 d) := by (repeat (first | assumption | (refine newcell _ _ _ _ _ _ ?_ rfl; simp; done) | refine keepcell (by assumption) ?_ | refine keepdrew ?_ | refine keepalloc ?_ _))
        have r4 : w2.cell? ⟨w.heap.size + 1, 0, none⟩ = some (.int .i64 e) := by (repeat (first | assumption | (refine newcell _ _ _ _ _ _ ?_ rfl; simp; done) | refine keepcell (by assumption) ?_ | refine keepdrew ?_ | refine keepalloc ?_ _))
        have r5 : w2.cell? ⟨w.heap.size + 1, 1, none⟩ = some (.int .i64 f) := by (repeat (first | assumption | (refine newcell _ _ _ _ _ _ ?_ rfl; simp; done) | refine keepcell (by assumption) ?_ | refine keepdrew ?_ | refine keepalloc ?_ _))
        have r6 : w2.cell? ⟨w.heap.size + 1, 2, none⟩ = some (.int .i64 g) := by (repeat (first | assumption | (refine newcell _ _ _ _ _ _ ?_ rfl; simp; done) | refine keepcell (by assumption) ?_ | refine keepdrew ?_ | refine keepalloc ?_ _))
        have r7 : w2.cell? ⟨w.heap.size + 1, 3, none⟩ = some (.int .i64 h) := by (repeat (first | assumption | (refine newcell _ _ _ _ _ _ ?_ rfl; simp; done) | refine keepcell (by assumption) ?_ | refine keepdrew ?_ | refine keepalloc ?_ _))
        go_wp2_with fail
        go_ret
        exact ⟨by simp, by (repeat (first | exact Below.refl _ _ | (refine btrans ?_ (by assumption)) | refine bdrew ?_ | refine balloc ?_ _))⟩
      · go_enter Try.func61, Try.ntmps61
        go_wp2_with fail
        refine (spec_boxok _ _ _ _ _).mono ?_
        rw [hA]
        rintro e' w1 ⟨rfl, hb1⟩
        have q0 : w1.cell? ⟨w.heap.size, 0, none⟩ = some (.int .i64 a) := by (repeat (first | assumption | (refine newcell _ _ _ _ _ _ ?_ rfl; simp; done) | refine keepcell (by assumption) ?_ | refine keepdrew ?_ | refine keepalloc ?_ _))
        have q1 : w1.cell? ⟨w.heap.size, 1, none⟩ = some (.int .i64 b) := by (repeat (first | assumption | (refine newcell _ _ _ _ _ _ ?_ rfl; simp; done) | refine keepcell (by assumption) ?_ | refine keepdrew ?_ | refine keepalloc ?_ _))
        have q2 : w1.cell? ⟨w.heap.size, 2, none⟩ = some (.int .i64 c) := by (repeat (first | assumption | (refine newcell _ _ _ _ _ _ ?_ rfl; simp; done) | refine keepcell (by assumption) ?_ | refine keepdrew ?_ | refine keepalloc ?_ _))
        have q3 : w1.cell? ⟨w.heap.size, 3, none⟩ = some (.int .i64 d) := by (repeat (first | assumption | (refine newcell _ _ _ _ _ _ ?_ rfl; simp; done) | refine keepcell (by assumption) ?_ | refine keepdrew ?_ | refine keepalloc ?_ _))
        have q4 : w1.cell? ⟨w.heap.size + 1, 0, none⟩ = some (.int .i64 e) := by (repeat (first | assumption | (refine newcell _ _ _ _ _ _ ?_ rfl; simp; done) | refine keepcell (by assumption) ?_ | refine keepdrew ?_ | refine keepalloc ?_ _))
        have q5 : w1.cell? ⟨w.heap.size + 1, 1, none⟩ = some (.int .i64 f) := by (repeat (first | assumption | (refine newcell _ _ _ _ _ _ ?_ rfl; simp; done) | refine keepcell (by assumption) ?_ | refine keepdrew ?_ | refine keepalloc ?_ _))
        have q6 : w1.cell? ⟨w.heap.size + 1, 2, none⟩ = some (.int .i64 g) := by (repeat (first | assumption | (refine newcell _ _ _ _ _ _ ?_ rfl; simp; done) | refine keepcell (by assumption) ?_ | refine keepdrew ?_ | refine keepalloc ?_ _))
        have q7 : w1.cell? ⟨w.heap.size + 1, 3, none⟩ = some (.int .i64 h) := by (repeat (first | assumption | (refine newcell _ _ _ _ _ _ ?_ rfl; simp; done) | refine keepcell (by assumption) ?_ | refine keepdrew ?_ | refine keepalloc ?_ _))
        go_wp2_with fail
        refine (spec_boxok _ _ _ _ _).mono ?_
        rw [hB]
        rintro e' w2 ⟨rfl, hb2⟩
        have r0 : w2.cell? ⟨w.heap.size, 0, none⟩ = some (.int .i64 a) := by (repeat (first | assumption | (refine newcell _ _ _ _ _ _ ?_ rfl; simp; done) | refine keepcell (by assumption) ?_ | refine keepdrew ?_ | refine keepalloc ?_ _))
        have r1 : w2.cell? ⟨w.heap.size, 1, none⟩ = some (.int .i64 b) := by (repeat (first | assumption | (refine newcell _ _ _ _ _ _ ?_ rfl; simp; done) | refine keepcell (by assumption) ?_ | refine keepdrew ?_ | refine keepalloc ?_ _))
        have r2 : w2.cell? ⟨w.heap.size, 2, none⟩ = some (.int .i64 c) := by (repeat (first | assumption | (refine newcell _ _ _ _ _ _ ?_ rfl; simp; done) | refine keepcell (by assumption) ?_ | refine keepdrew ?_ | refine keepalloc ?_ _))
        have r3 : w2.cell? ⟨w.heap.size, 3, none⟩ = some (.int .i64 d) := by (repeat (first | assumption | (refine newcell _ _ _ _ _ _ ?_ rfl; simp; done) | refine keepcell (by assumption) ?_ | refine keepdrew ?_ | refine keepalloc ?_ _))
        have r4 : w2.cell? ⟨w.heap.size + 1, 0, none⟩ = some (.int .i64 e) := by (repeat (first | assumption | (refine newcell _ _ _ _ _ _ ?_ rfl; simp; done) | refine keepcell (by assumption) ?_ | refine keepdrew ?_ | refine keepalloc ?_ _))
        have r5 : w2.cell? ⟨w.heap.size + 1, 1, none⟩ = some (.int .i64 f) := by (repeat (first | assumption | (refine newcell _ _ _ _ _ _ ?_ rfl; simp; done) | refine keepcell (by assumption) ?_ | refine keepdrew ?_ | refine keepalloc ?_ _))
        have r6 : w2.cell? ⟨w.heap.size + 1, 2, none⟩ = some (.int .i64 g) := by (repeat (first | assumption | (refine newcell _ _ _ _ _ _ ?_ rfl; simp; done) | refine keepcell (by assumption) ?_ | refine keepdrew ?_ | refine keepalloc ?_ _))
        have r7 : w2.cell? ⟨w.heap.size + 1, 3, none⟩ = some (.int .i64 h) := by (repeat (first | assumption | (refine newcell _ _ _ _ _ _ ?_ rfl; simp; done) | refine keepcell (by assumption) ?_ | refine keepdrew ?_ | refine keepalloc ?_ _))
        go_wp2_with fail
        go_ret
        exact ⟨by simp, by (repeat (first | exact Below.refl _ _ | (refine btrans ?_ (by assumption)) | refine bdrew ?_ | refine balloc ?_ _))⟩
end Go.Proofs.Ytmdnelgnpponpaa
