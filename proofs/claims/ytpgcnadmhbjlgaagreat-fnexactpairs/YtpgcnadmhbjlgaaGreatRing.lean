/- What is inside of what points go around: the landed functions. -/
import Derived.Test.YtpgcnadmhbjlgaaGreatArea
import Derived.Test.YtpgcnadmhbjlgaaGreatGeo5
namespace Go.Proofs.YtpgcnadmhbjlgaaGreat
open Go.RowKit
set_option linter.unusedSimpArgs false
set_option linter.unusedVariables false
/-- Whether the level way from p to the far right crosses the side from a to b. -/
def wayb (px py ax ay bx bY : Int) : Bool := if bY < ay then (decide (bY ≤ py) && decide (py < ay) && decide (0 < cr bx bY ax ay px py)) else (decide (ay ≤ py) && decide (py < bY) && decide (0 < cr ax ay bx bY px py))
theorem sg_pos (z : Int) : decide (0 < sg z) = decide (0 < z) := by
  unfold sg
  split
  · rw [decide_eq_false (by omega), decide_eq_false (by omega)]
  · split
    · rw [decide_eq_true (by omega), decide_eq_true (by omega)]
    · rw [decide_eq_false (by omega), decide_eq_false (by omega)]
def sideOn (px py : Int) (ps : List (Int × Int)) (k : Nat) : Bool := onb px py (ps.getD k (0, 0)).1 (ps.getD k (0, 0)).2 (nxt ps k).1 (nxt ps k).2
def sideCr (px py : Int) (ps : List (Int × Int)) (k : Nat) : Bool := wayb px py (ps.getD k (0, 0)).1 (ps.getD k (0, 0)).2 (nxt ps k).1 (nxt ps k).2
def oddTo (px py : Int) (ps : List (Int × Int)) : Nat → Bool
  | 0 => false
  | k + 1 => oddTo px py ps k != sideCr px py ps k
def b2i (b : Bool) : Int := if b then 1 else 0
def ringv (px py : Int) (ps : List (Int × Int)) : Int := if (List.range ps.length).any (sideOn px py ps) = true then 2 else b2i (oddTo px py ps ps.length)
theorem ringv_on {px py : Int} {ps : List (Int × Int)} {k : Nat} (hk : k < ps.length) (h : sideOn px py ps k = true) : ringv px py ps = 2 := by
  unfold ringv
  rw [if_pos]
  rw [List.any_eq_true]
  exact ⟨k, by simpa using hk, h⟩
theorem ringv_off {px py : Int} {ps : List (Int × Int)} (h : ∀ j, j < ps.length → sideOn px py ps j = false) : ringv px py ps = b2i (oddTo px py ps ps.length) := by
  unfold ringv
  rw [if_neg]
  rw [List.any_eq_true]
  rintro ⟨j, hj, h2⟩
  rw [h j (by simpa using hj)] at h2
  cases h2
set_option maxHeartbeats 1000000 in
theorem impl_leftof (px py ax ay bx bY : Int) (h1 : In px) (h2 : In py) (h3 : In ax) (h4 : In ay) (h5 : In bx) (h6 : In bY) (w : World) : Calls Tryz.prog 157 #[.agg #[.int .i64 px, .int .i64 py], .agg #[.int .i64 ax, .int .i64 ay], .agg #[.int .i64 bx, .int .i64 bY]] w fun e w' => e = .returned (.bool (wayb px py ax ay bx bY)) ∧ Below w.heap.size w w' := by
  by_cases h : bY < ay
  · have hv : wayb px py ax ay bx bY = (decide (bY ≤ py) && decide (py < ay) && decide (0 < cr bx bY ax ay px py)) := by unfold wayb; rw [if_pos h]
    rw [hv]
    clear hv
    cases g1 : decide (bY ≤ py)
    · go_enter Tryz.func157, Tryz.ntmps157
      go_wp2_with fail
      go_ret
      exact ⟨by first | rfl | simp, by (repeat (first | with_reducible exact Below.refl _ _ | with_reducible assumption | (with_reducible refine btrans ?_ (by with_reducible assumption)) | with_reducible refine bdrew ?_ | with_reducible refine balloc ?_ _))⟩
    cases g2 : decide (py < ay)
    · go_enter Tryz.func157, Tryz.ntmps157
      go_wp2_with fail
      go_ret
      exact ⟨by first | rfl | simp, by (repeat (first | with_reducible exact Below.refl _ _ | with_reducible assumption | (with_reducible refine btrans ?_ (by with_reducible assumption)) | with_reducible refine bdrew ?_ | with_reducible refine balloc ?_ _))⟩
    have hsg := sg_pos (cr bx bY ax ay px py)
    have ht := fun w' => impl_turn bx bY ax ay px py h5 h6 h3 h4 h1 h2 w'
    generalize cr bx bY ax ay px py = z at *
    have Ht := hid ht
    have Hsg := hid hsg
    clear ht hsg
    go_enter Tryz.func157, Tryz.ntmps157
    go_wp2_with fail
    refine (Ht.out _).mono ?_
    rintro e w1 ⟨rfl, hb1⟩
    go_wp2_with fail
    go_ret
    exact ⟨by rw [← Hsg.out]; first | rfl | simp, by (repeat (first | with_reducible exact Below.refl _ _ | with_reducible assumption | (with_reducible refine btrans ?_ (by with_reducible assumption)) | with_reducible refine bdrew ?_ | with_reducible refine balloc ?_ _))⟩
  · have hv : wayb px py ax ay bx bY = (decide (ay ≤ py) && decide (py < bY) && decide (0 < cr ax ay bx bY px py)) := by unfold wayb; rw [if_neg h]
    have h' : ¬ (ay > bY) := h
    rw [hv]
    clear hv
    cases g1 : decide (ay ≤ py)
    · go_enter Tryz.func157, Tryz.ntmps157
      go_wp2_with fail
      go_ret
      exact ⟨by first | rfl | simp, by (repeat (first | with_reducible exact Below.refl _ _ | with_reducible assumption | (with_reducible refine btrans ?_ (by with_reducible assumption)) | with_reducible refine bdrew ?_ | with_reducible refine balloc ?_ _))⟩
    cases g2 : decide (py < bY)
    · go_enter Tryz.func157, Tryz.ntmps157
      go_wp2_with fail
      go_ret
      exact ⟨by first | rfl | simp, by (repeat (first | with_reducible exact Below.refl _ _ | with_reducible assumption | (with_reducible refine btrans ?_ (by with_reducible assumption)) | with_reducible refine bdrew ?_ | with_reducible refine balloc ?_ _))⟩
    have hsg := sg_pos (cr ax ay bx bY px py)
    have ht := fun w' => impl_turn ax ay bx bY px py h3 h4 h5 h6 h1 h2 w'
    generalize cr ax ay bx bY px py = z at *
    have Ht := hid ht
    have Hsg := hid hsg
    clear ht hsg
    go_enter Tryz.func157, Tryz.ntmps157
    go_wp2_with fail
    refine (Ht.out _).mono ?_
    rintro e w1 ⟨rfl, hb1⟩
    go_wp2_with fail
    go_ret
    exact ⟨by rw [← Hsg.out]; first | rfl | simp, by (repeat (first | with_reducible exact Below.refl _ _ | with_reducible assumption | (with_reducible refine btrans ?_ (by with_reducible assumption)) | with_reducible refine bdrew ?_ | with_reducible refine balloc ?_ _))⟩
set_option maxHeartbeats 2000000 in
theorem impl_inring (px py : Int) (a : Option Addr) (cap : Nat) (ps : List (Int × Int)) (w : World) (h1 : In px) (h2 : In py) (ha : allok ps = true) (hm : ps.length ≤ 1099511627776) (hc : ps.length ≤ cap) (h : Pts w a ps) : Calls Tryz.prog 154 #[.agg #[.int .i64 px, .int .i64 py], .slice a ps.length cap] w fun e w' => e = .returned (.int .i64 (ringv px py ps)) ∧ Below w.heap.size w w' := by
  have Ha := hid ha
  have Hh := hid h
  clear ha h
  go_enter Tryz.func154, Tryz.ntmps154
  go_wp2_with fail
  go_loopw [5, 11] (fun tw ti wr => ∃ k : Nat, tw = .int .i64 (b2i (oddTo px py ps k)) ∧ ti = .int .i64 k ∧ k ≤ ps.length ∧ Below w.heap.size w wr ∧ wr.cell? ⟨w.heap.size, 0, none⟩ = some (.int .i64 px) ∧ wr.cell? ⟨w.heap.size, 1, none⟩ = some (.int .i64 py) ∧ Hid (∀ j, j < k → sideOn px py ps j = false)) (fun _ ti _ => ps.length - (intOf ti).toNat)
  case atStart => exact ⟨0, rfl, rfl, Nat.zero_le _, by (repeat (first | with_reducible exact Below.refl _ _ | with_reducible assumption | (with_reducible refine btrans ?_ (by with_reducible assumption)) | with_reducible refine bdrew ?_ | with_reducible refine balloc ?_ _)), newcell _ _ _ _ _ _ rfl rfl, newcell _ _ _ _ _ _ rfl rfl, fun j hj => absurd hj (by omega)⟩
  case round =>
    obtain ⟨k, rfl, rfl, hk, hb, p0, p1, H⟩ := hrel
    by_cases hlt : k < ps.length
    · have hp := Hh.out.below hb
      have hbh : ∀ w', Pts w' a ps → Calls Tryz.prog 117 #[.slice a ps.length cap, .int .i64 k] w' fun e w'' => e = .returned (.agg #[.int .i64 (nxt ps k).1, .int .i64 (nxt ps k).2]) ∧ Below w'.heap.size w' w'' := fun w' hw' => impl_behind a cap ps k w' hm hc hlt hw'
      obtain ⟨i1, i2⟩ := allok_in Ha.out k hlt
      obtain ⟨i3, i4⟩ := nxt_in Ha.out k hlt
      have hon := fun w' => impl_onside px py (ps.getD k (0, 0)).1 (ps.getD k (0, 0)).2 (nxt ps k).1 (nxt ps k).2 h1 h2 i1 i2 i3 i4 w'
      have hcr := fun w' => impl_leftof px py (ps.getD k (0, 0)).1 (ps.getD k (0, 0)).2 (nxt ps k).1 (nxt ps k).2 h1 h2 i1 i2 i3 i4 w'
      have hs1 : sideOn px py ps k = onb px py (ps.getD k (0, 0)).1 (ps.getD k (0, 0)).2 (nxt ps k).1 (nxt ps k).2 := rfl
      have hs2 : oddTo px py ps (k + 1) = (oddTo px py ps k != wayb px py (ps.getD k (0, 0)).1 (ps.getD k (0, 0)).2 (nxt ps k).1 (nxt ps k).2) := rfl
      rcases hp with rfl | ⟨b, off, rfl, hbs, hq⟩
      · simp at hlt
      obtain ⟨c0, c1⟩ := hq k hlt
      generalize (ps.getD k (0, 0)).1 = x at *
      generalize (ps.getD k (0, 0)).2 = y at *
      generalize (nxt ps k).1 = u at *
      generalize (nxt ps k).2 = v at *
      generalize onb px py x y u v = on at *
      generalize wayb px py x y u v = cs at *
      generalize oddTo px py ps k = od at *
      have Hq := hid hq
      have Hbh := hid hbh
      have Hon := hid hon
      have Hcr := hid hcr
      have Hs1 := hid hs1
      have Hs2 := hid hs2
      clear hq hbh hon hcr hs1 hs2 i1 i2 i3 i4
      have hbd : 0 ≤ b2i od ∧ b2i od ≤ 1 := by cases od <;> decide
      go_wp2_with fail
      refine (Hbh.out _ ?_).mono ?_
      · exact Hh.out.below (by (repeat (first | with_reducible exact Below.refl _ _ | with_reducible assumption | (with_reducible refine btrans ?_ (by with_reducible assumption)) | with_reducible refine bdrew ?_ | with_reducible refine balloc ?_ _)))
      rintro e w1 ⟨rfl, hb1⟩
      have q0 : w1.cell? ⟨w.heap.size, 0, none⟩ = some (.int .i64 px) := by (repeat (first | with_reducible assumption | (refine newcell _ _ _ _ _ _ ?_ rfl; simp; done) | refine keepcell (by with_reducible assumption) ?_ | refine keepdrew ?_ | refine keepalloc ?_ _))
      have q1 : w1.cell? ⟨w.heap.size, 1, none⟩ = some (.int .i64 py) := by (repeat (first | with_reducible assumption | (refine newcell _ _ _ _ _ _ ?_ rfl; simp; done) | refine keepcell (by with_reducible assumption) ?_ | refine keepdrew ?_ | refine keepalloc ?_ _))
      have q2 : w1.cell? ⟨wr.heap.size, 0, none⟩ = some (.int .i64 x) := by (repeat (first | with_reducible assumption | (refine newcell _ _ _ _ _ _ ?_ rfl; simp; done) | refine keepcell (by with_reducible assumption) ?_ | refine keepdrew ?_ | refine keepalloc ?_ _))
      have q3 : w1.cell? ⟨wr.heap.size, 1, none⟩ = some (.int .i64 y) := by (repeat (first | with_reducible assumption | (refine newcell _ _ _ _ _ _ ?_ rfl; simp; done) | refine keepcell (by with_reducible assumption) ?_ | refine keepdrew ?_ | refine keepalloc ?_ _))
      have hz1 : wr.heap.size < w1.heap.size := World.block_lt_of_cell? w1 _ q2
      have hz0 : w.heap.size < w1.heap.size := World.block_lt_of_cell? w1 _ q0
      go_wp2_with fail
      refine (Hon.out _).mono ?_
      rintro e w2 ⟨rfl, hb2⟩
      have r0 : w2.cell? ⟨w.heap.size, 0, none⟩ = some (.int .i64 px) := by (repeat (first | with_reducible assumption | (refine newcell _ _ _ _ _ _ ?_ rfl; simp; done) | refine keepcell (by with_reducible assumption) ?_ | refine keepdrew ?_ | refine keepalloc ?_ _))
      have r1 : w2.cell? ⟨w.heap.size, 1, none⟩ = some (.int .i64 py) := by (repeat (first | with_reducible assumption | (refine newcell _ _ _ _ _ _ ?_ rfl; simp; done) | refine keepcell (by with_reducible assumption) ?_ | refine keepdrew ?_ | refine keepalloc ?_ _))
      have r2 : w2.cell? ⟨wr.heap.size, 0, none⟩ = some (.int .i64 x) := by (repeat (first | with_reducible assumption | (refine newcell _ _ _ _ _ _ ?_ rfl; simp; done) | refine keepcell (by with_reducible assumption) ?_ | refine keepdrew ?_ | refine keepalloc ?_ _))
      have r3 : w2.cell? ⟨wr.heap.size, 1, none⟩ = some (.int .i64 y) := by (repeat (first | with_reducible assumption | (refine newcell _ _ _ _ _ _ ?_ rfl; simp; done) | refine keepcell (by with_reducible assumption) ?_ | refine keepdrew ?_ | refine keepalloc ?_ _))
      have r4 : w2.cell? ⟨w1.heap.size, 0, none⟩ = some (.int .i64 u) := by (repeat (first | with_reducible assumption | (refine newcell _ _ _ _ _ _ ?_ rfl; simp; done) | refine keepcell (by with_reducible assumption) ?_ | refine keepdrew ?_ | refine keepalloc ?_ _))
      have r5 : w2.cell? ⟨w1.heap.size, 1, none⟩ = some (.int .i64 v) := by (repeat (first | with_reducible assumption | (refine newcell _ _ _ _ _ _ ?_ rfl; simp; done) | refine keepcell (by with_reducible assumption) ?_ | refine keepdrew ?_ | refine keepalloc ?_ _))
      cases on
      · go_wp2_with fail
        refine (Hcr.out _).mono ?_
        rintro e w3 ⟨rfl, hb3⟩
        have s0 : w3.cell? ⟨w.heap.size, 0, none⟩ = some (.int .i64 px) := by (repeat (first | with_reducible assumption | (refine newcell _ _ _ _ _ _ ?_ rfl; simp; done) | refine keepcell (by with_reducible assumption) ?_ | refine keepdrew ?_ | refine keepalloc ?_ _))
        have s1 : w3.cell? ⟨w.heap.size, 1, none⟩ = some (.int .i64 py) := by (repeat (first | with_reducible assumption | (refine newcell _ _ _ _ _ _ ?_ rfl; simp; done) | refine keepcell (by with_reducible assumption) ?_ | refine keepdrew ?_ | refine keepalloc ?_ _))
        cases cs
        · go_wp2_with fail
          go_roundw
          case rel =>
            refine ⟨k + 1, by rw [Hs2.out]; simp, by go_num, by omega, by (repeat (first | with_reducible exact Below.refl _ _ | with_reducible assumption | (with_reducible refine btrans ?_ (by with_reducible assumption)) | with_reducible refine bdrew ?_ | with_reducible refine balloc ?_ _)), s0, s1, hid fun j hj => ?_⟩
            by_cases e : j = k
            · subst e; rw [Hs1.out]
            · exact H.out j (by omega)
          case measure => simp [intOf]; omega
        · go_wp2_with fail
          go_roundw
          case rel =>
            refine ⟨k + 1, by rw [Hs2.out]; cases od <;> rfl, by go_num, by omega, by (repeat (first | with_reducible exact Below.refl _ _ | with_reducible assumption | (with_reducible refine btrans ?_ (by with_reducible assumption)) | with_reducible refine bdrew ?_ | with_reducible refine balloc ?_ _)), s0, s1, hid fun j hj => ?_⟩
            by_cases e : j = k
            · subst e; rw [Hs1.out]
            · exact H.out j (by omega)
          case measure => simp [intOf]; omega
      · go_wp2_with fail
        go_ret
        exact ⟨by rw [ringv_on hlt Hs1.out]; rfl, by (repeat (first | with_reducible exact Below.refl _ _ | with_reducible assumption | (with_reducible refine btrans ?_ (by with_reducible assumption)) | with_reducible refine bdrew ?_ | with_reducible refine balloc ?_ _))⟩
    · have hk' : k = ps.length := by omega
      subst hk'
      go_wp2_with fail
      go_ret
      exact ⟨by rw [ringv_off H.out]; rfl, hb⟩
end Go.Proofs.YtpgcnadmhbjlgaaGreat
