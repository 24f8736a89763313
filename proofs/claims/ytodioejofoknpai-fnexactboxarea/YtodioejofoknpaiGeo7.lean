/- Boxes: the landed functions and the specification's, at any boxes. -/
import Derived.Test.YtodioejofoknpaiGeo2
import Derived.Test.YtodioejofoknpaiGeo4
namespace Go.Proofs.Ytodioejofoknpai
open Go.RowKit
set_option linter.unusedSimpArgs false
set_option linter.unusedVariables false
theorem bok_le {a b c d : Int} (h : bok a b c d = true) : In a ∧ In b ∧ In c ∧ In d ∧ a ≤ c ∧ b ≤ d := by
  simp only [bok, cok, Bool.and_eq_true, decide_eq_true_eq] at h
  obtain ⟨⟨⟨⟨⟨h1, h2⟩, h3⟩, h4⟩, h5⟩, h6⟩ := h
  exact ⟨h1, h2, h3, h4, h5, h6⟩
def meetb (a b c d e f g h : Int) : Bool := decide (a ≤ g) && decide (e ≤ c) && decide (b ≤ h) && decide (f ≤ d)
set_option maxHeartbeats 2000000 in
theorem spec_boxok (a b c d : Int) (w : World) : Calls Try.prog 24 #[.agg #[.int .i64 a, .int .i64 b, .int .i64 c, .int .i64 d]] w fun e w' => e = .returned (.bool (bok a b c d)) ∧ Below w.heap.size w w' := by
  unfold bok
  cases h1 : cok a
  · go_enter Try.func24, Try.ntmps24
    go_wp2_with (go_at_call 41; refine (spec_coord _ _).mono ?_; rintro e w' ⟨rfl, rfl⟩)
    go_ret
    exact ⟨by simp, by (repeat (first | exact Below.refl _ _ | (refine btrans ?_ (by assumption)) | refine bdrew ?_ | refine balloc ?_ _))⟩
  · skip
    cases h2 : cok b
    · go_enter Try.func24, Try.ntmps24
      go_wp2_with (go_at_call 41; refine (spec_coord _ _).mono ?_; rintro e w' ⟨rfl, rfl⟩)
      go_ret
      exact ⟨by simp, by (repeat (first | exact Below.refl _ _ | (refine btrans ?_ (by assumption)) | refine bdrew ?_ | refine balloc ?_ _))⟩
    · skip
      cases h3 : cok c
      · go_enter Try.func24, Try.ntmps24
        go_wp2_with (go_at_call 41; refine (spec_coord _ _).mono ?_; rintro e w' ⟨rfl, rfl⟩)
        go_ret
        exact ⟨by simp, by (repeat (first | exact Below.refl _ _ | (refine btrans ?_ (by assumption)) | refine bdrew ?_ | refine balloc ?_ _))⟩
      · skip
        cases h4 : cok d
        · go_enter Try.func24, Try.ntmps24
          go_wp2_with (go_at_call 41; refine (spec_coord _ _).mono ?_; rintro e w' ⟨rfl, rfl⟩)
          go_ret
          exact ⟨by simp, by (repeat (first | exact Below.refl _ _ | (refine btrans ?_ (by assumption)) | refine bdrew ?_ | refine balloc ?_ _))⟩
        · skip
          cases h5 : decide (a ≤ c)
          · go_enter Try.func24, Try.ntmps24
            go_wp2_with (go_at_call 41; refine (spec_coord _ _).mono ?_; rintro e w' ⟨rfl, rfl⟩)
            go_ret
            exact ⟨by simp, by (repeat (first | exact Below.refl _ _ | (refine btrans ?_ (by assumption)) | refine bdrew ?_ | refine balloc ?_ _))⟩
          · go_enter Try.func24, Try.ntmps24
            go_wp2_with (go_at_call 41; refine (spec_coord _ _).mono ?_; rintro e w' ⟨rfl, rfl⟩)
            go_ret
            exact ⟨by simp, by (repeat (first | exact Below.refl _ _ | (refine btrans ?_ (by assumption)) | refine bdrew ?_ | refine balloc ?_ _))⟩
end Go.Proofs.Ytodioejofoknpai
