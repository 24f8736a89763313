/- Lists of points: one held against the other; the one behind. -/
import Derived.Test.YtaceibffgoaflaaPts
namespace Go.Proofs.Ytaceibffgoaflaa
open Go.RowKit
set_option linter.unusedSimpArgs false
set_option linter.unusedVariables false
theorem eq_point_same (a b : Int) (w : World) : Calls Try.prog 40 #[.agg #[.int .i64 a, .int .i64 b], .agg #[.int .i64 a, .int .i64 b]] w fun e w' => e = .returned (.bool true) ∧ Below w.heap.size w w' :=
  (eq_point a b a b w).mono fun e w' ⟨h1, h2⟩ => ⟨by rw [h1]; simp, h2⟩
set_option maxHeartbeats 1000000 in
theorem eq_points (a b : Option Addr) (cap cap' : Nat) (ps : List (Int × Int)) (w : World) (hm : ps.length ≤ 1099511627776) (hc : ps.length ≤ cap) (hc' : ps.length ≤ cap') (h : Pts w a ps) (h' : Pts w b ps) : Calls Try.prog 39 #[.slice a ps.length cap, .slice b ps.length cap'] w fun e w' => e = .returned (.bool true) ∧ Below w.heap.size w w' := by
  go_enter Try.func39, Try.ntmps39
  go_wp2_with fail
  go_loopw [5] (fun ti wr => ∃ k : Nat, ti = .int .i64 k ∧ k ≤ ps.length ∧ Below w.heap.size w wr) (fun ti _ => ps.length - (intOf ti).toNat)
  case atStart => exact ⟨0, rfl, Nat.zero_le _, Below.refl _ _⟩
  case round =>
    obtain ⟨k, rfl, hk, hb⟩ := hrel
    by_cases hlt : k < ps.length
    · rcases h with rfl | ⟨p, off, rfl, hps, hp⟩
      · simp at hlt
      rcases h' with rfl | ⟨q, off', rfl, hqs, hq⟩
      · simp at hlt
      obtain ⟨c0, c1⟩ := hp.below hps hb k hlt
      obtain ⟨d0, d1⟩ := hq.below hqs hb k hlt
      generalize hx : (ps.getD k (0, 0)).1 = x at c0 d0
      generalize hy : (ps.getD k (0, 0)).2 = y at c1 d1
      have Hp := hid hp
      have Hq := hid hq
      clear hx hy hp hq
      have hk0 : (0 : Int) ≤ (k : Int) := by omega
      have hk1 : (k : Int) < (ps.length : Int) := by omega
      go_wp2_with fail
      go_region_held3 (fun w' => w'.cell? ⟨p, off + k * 2, none⟩ = some (.int .i64 x) ∧ w'.cell? ⟨p, off + k * 2 + 1, none⟩ = some (.int .i64 y) ∧ w'.cell? ⟨q, off' + k * 2, none⟩ = some (.int .i64 x) ∧ w'.cell? ⟨q, off' + k * 2 + 1, none⟩ = some (.int .i64 y)) (first | (obtain ⟨zz0, zz1, zz2, zz3⟩ := (by with_reducible assumption : _ ∧ _); (repeat' apply And.intro) <;> (repeat (first | with_reducible assumption | refine keepcell (by with_reducible assumption) ?_ | refine keepdrew ?_ | refine keepalloc ?_ _)); done) | ((repeat' apply And.intro) <;> (repeat (first | with_reducible assumption | (refine newcell _ _ _ _ _ _ ?_ rfl; simp; done) | refine keepcell (by with_reducible assumption) ?_ | refine keepdrew ?_ | refine keepalloc ?_ _))))
        (first
          | (go_at_call 40; refine (eq_point_same _ _ _).mono ?_; rintro e w1 ⟨rfl, hb1⟩))
      go_wp2_with fail
      go_roundw
      case rel => exact ⟨k + 1, by go_num, by omega, by (repeat (first | exact Below.refl _ _ | (refine btrans ?_ (by with_reducible assumption)) | refine bdrew ?_ | refine balloc ?_ _))⟩
      case measure => simp [intOf]; omega
    · have hk' : k = ps.length := by omega
      go_wp2_with fail
      go_ret
      exact ⟨rfl, hb⟩
end Go.Proofs.Ytaceibffgoaflaa
