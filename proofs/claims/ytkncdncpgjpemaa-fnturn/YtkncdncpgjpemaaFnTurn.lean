/- A turn is the same from each of its three points on, and the other one when two are changed for each other. -/
import Derived.Test.YtkncdncpgjpemaaRows
import Derived.Test.YtkncdncpgjpemaaFacts
import Derived.Test.YtkncdncpgjpemaaCode
import Derived.Test.YtkncdncpgjpemaaDrawT
import Derived.Test.YtkncdncpgjpemaaSym
import Derived.WalkKit
import Derived.Deep.DeepCutAuto
import Derived.ProofKit
import Derived.OpenShut
import Derived.ShutString
import Derived.ChangeOld
import Derived.Below
import Derived.Carry
import Derived.Lib.SmallJoins
import Derived.Deep.SlicePairs
namespace Go.Proofs.Ytkncdncpgjpemaa.fnTurn
open Go.ChangeShapes Go.WideShapes Go.ChangeAt Go.RowKit Go.Joins
set_option linter.unusedVariables false
set_option linter.unusedSimpArgs false
theorem own : ownKnob Try.prog.godebug = none := by kernel_rfl
theorem laidOut : laidOutB Try.prog = true := by kernel_rfl
set_option maxRecDepth 100000 in
set_option maxHeartbeats 2000000 in
theorem walk (a0 : Option Addr) (len0 cap0 : Nat) (z0 : List Int) (w : World) (w0 : IsRow .u8 w a0 len0 cap0 z0) :
    Calls Try.prog 3 #[.slice a0 len0 cap0] w fun e w' => e = .returned (.bool true) ∧ Below w.heap.size w w' := by
  have hlen := len_of w0
  by_cases hbig : len0 ≤ 1048576
  rotate_left
  · have hd : 1048576 < (len0 : Int) := by omega
    clear w0
    go_enter Try.func3, Try.ntmps3
    go_wp2_with (go_at_call 12; go_in)
    go_ret
    exact ⟨rfl, Below.refl _ _⟩
  have hc := code_of w0 hbig
  have hd : (len0 : Int) ≤ 1048576 := by omega
  have HC := hid hc
  clear hc w0
  go_enter Try.func3, Try.ntmps3
  go_wp2_with (go_at_call 12; go_in)
  refine (draw_turn _ a0 len0 cap0 HC.out).mono ?_
  rintro e w1 ⟨ax, ay, bx, bY, cx, cy, rfl, hb1⟩
  go_wp2_with fail
  refine (impl_Turn ax ay bx bY cx cy _).mono ?_
  rintro e w2 ⟨rfl, hb2⟩
  have c0 : w2.cell? ⟨w1.heap.size, 0, none⟩ = some (.int .i64 ax) := by (repeat (first | with_reducible assumption | (refine newcell _ _ _ _ _ _ ?_ rfl; simp; done) | refine keepcell (by with_reducible assumption) ?_ | refine keepdrew ?_ | refine keepalloc ?_ _))
  have c1 : w2.cell? ⟨w1.heap.size, 1, none⟩ = some (.int .i64 ay) := by (repeat (first | with_reducible assumption | (refine newcell _ _ _ _ _ _ ?_ rfl; simp; done) | refine keepcell (by with_reducible assumption) ?_ | refine keepdrew ?_ | refine keepalloc ?_ _))
  have c2 : w2.cell? ⟨w1.heap.size + 1, 0, none⟩ = some (.int .i64 bx) := by (repeat (first | with_reducible assumption | (refine newcell _ _ _ _ _ _ ?_ rfl; simp; done) | refine keepcell (by with_reducible assumption) ?_ | refine keepdrew ?_ | refine keepalloc ?_ _))
  have c3 : w2.cell? ⟨w1.heap.size + 1, 1, none⟩ = some (.int .i64 bY) := by (repeat (first | with_reducible assumption | (refine newcell _ _ _ _ _ _ ?_ rfl; simp; done) | refine keepcell (by with_reducible assumption) ?_ | refine keepdrew ?_ | refine keepalloc ?_ _))
  have c4 : w2.cell? ⟨w1.heap.size + 1 + 1, 0, none⟩ = some (.int .i64 cx) := by (repeat (first | with_reducible assumption | (refine newcell _ _ _ _ _ _ ?_ rfl; simp; done) | refine keepcell (by with_reducible assumption) ?_ | refine keepdrew ?_ | refine keepalloc ?_ _))
  have c5 : w2.cell? ⟨w1.heap.size + 1 + 1, 1, none⟩ = some (.int .i64 cy) := by (repeat (first | with_reducible assumption | (refine newcell _ _ _ _ _ _ ?_ rfl; simp; done) | refine keepcell (by with_reducible assumption) ?_ | refine keepdrew ?_ | refine keepalloc ?_ _))
  have hB2 : Below w.heap.size w w2 := by (repeat (first | with_reducible exact Below.refl _ _ | with_reducible assumption | (with_reducible refine btrans ?_ (by with_reducible assumption)) | with_reducible refine bdrew ?_ | with_reducible refine balloc ?_ _))
  clear hb1 hb2
  go_wp2_with fail
  refine (draw_onside _ a0 len0 cap0 ((HC.out.below hB2).mono hB2.size)).mono ?_
  rintro e w3 ⟨px, py, qx, qy, rx, ry, rfl, hb3⟩
  have d0 : w3.cell? ⟨w1.heap.size, 0, none⟩ = some (.int .i64 ax) := by (repeat (first | with_reducible assumption | (refine newcell _ _ _ _ _ _ ?_ rfl; simp; done) | refine keepcell (by with_reducible assumption) ?_ | refine keepdrew ?_ | refine keepalloc ?_ _))
  have d1 : w3.cell? ⟨w1.heap.size, 1, none⟩ = some (.int .i64 ay) := by (repeat (first | with_reducible assumption | (refine newcell _ _ _ _ _ _ ?_ rfl; simp; done) | refine keepcell (by with_reducible assumption) ?_ | refine keepdrew ?_ | refine keepalloc ?_ _))
  have d2 : w3.cell? ⟨w1.heap.size + 1, 0, none⟩ = some (.int .i64 bx) := by (repeat (first | with_reducible assumption | (refine newcell _ _ _ _ _ _ ?_ rfl; simp; done) | refine keepcell (by with_reducible assumption) ?_ | refine keepdrew ?_ | refine keepalloc ?_ _))
  have d3 : w3.cell? ⟨w1.heap.size + 1, 1, none⟩ = some (.int .i64 bY) := by (repeat (first | with_reducible assumption | (refine newcell _ _ _ _ _ _ ?_ rfl; simp; done) | refine keepcell (by with_reducible assumption) ?_ | refine keepdrew ?_ | refine keepalloc ?_ _))
  have d4 : w3.cell? ⟨w1.heap.size + 1 + 1, 0, none⟩ = some (.int .i64 cx) := by (repeat (first | with_reducible assumption | (refine newcell _ _ _ _ _ _ ?_ rfl; simp; done) | refine keepcell (by with_reducible assumption) ?_ | refine keepdrew ?_ | refine keepalloc ?_ _))
  have d5 : w3.cell? ⟨w1.heap.size + 1 + 1, 1, none⟩ = some (.int .i64 cy) := by (repeat (first | with_reducible assumption | (refine newcell _ _ _ _ _ _ ?_ rfl; simp; done) | refine keepcell (by with_reducible assumption) ?_ | refine keepdrew ?_ | refine keepalloc ?_ _))
  replace hB2 := btrans hB2 hb3
  clear hb3 c0 c1 c2 c3 c4 c5
  go_wp2_with fail
  refine (impl_OnSide px py qx qy rx ry _).mono ?_
  rintro e w4 ⟨rfl, hb4⟩
  have k0 : w4.cell? ⟨w1.heap.size, 0, none⟩ = some (.int .i64 ax) := by (repeat (first | with_reducible assumption | (refine newcell _ _ _ _ _ _ ?_ rfl; simp; done) | refine keepcell (by with_reducible assumption) ?_ | refine keepdrew ?_ | refine keepalloc ?_ _))
  have k1 : w4.cell? ⟨w1.heap.size, 1, none⟩ = some (.int .i64 ay) := by (repeat (first | with_reducible assumption | (refine newcell _ _ _ _ _ _ ?_ rfl; simp; done) | refine keepcell (by with_reducible assumption) ?_ | refine keepdrew ?_ | refine keepalloc ?_ _))
  have k2 : w4.cell? ⟨w1.heap.size + 1, 0, none⟩ = some (.int .i64 bx) := by (repeat (first | with_reducible assumption | (refine newcell _ _ _ _ _ _ ?_ rfl; simp; done) | refine keepcell (by with_reducible assumption) ?_ | refine keepdrew ?_ | refine keepalloc ?_ _))
  have k3 : w4.cell? ⟨w1.heap.size + 1, 1, none⟩ = some (.int .i64 bY) := by (repeat (first | with_reducible assumption | (refine newcell _ _ _ _ _ _ ?_ rfl; simp; done) | refine keepcell (by with_reducible assumption) ?_ | refine keepdrew ?_ | refine keepalloc ?_ _))
  have k4 : w4.cell? ⟨w1.heap.size + 1 + 1, 0, none⟩ = some (.int .i64 cx) := by (repeat (first | with_reducible assumption | (refine newcell _ _ _ _ _ _ ?_ rfl; simp; done) | refine keepcell (by with_reducible assumption) ?_ | refine keepdrew ?_ | refine keepalloc ?_ _))
  have k5 : w4.cell? ⟨w1.heap.size + 1 + 1, 1, none⟩ = some (.int .i64 cy) := by (repeat (first | with_reducible assumption | (refine newcell _ _ _ _ _ _ ?_ rfl; simp; done) | refine keepcell (by with_reducible assumption) ?_ | refine keepdrew ?_ | refine keepalloc ?_ _))
  have k6 : w4.cell? ⟨w3.heap.size, 0, none⟩ = some (.int .i64 px) := by (repeat (first | with_reducible assumption | (refine newcell _ _ _ _ _ _ ?_ rfl; simp; done) | refine keepcell (by with_reducible assumption) ?_ | refine keepdrew ?_ | refine keepalloc ?_ _))
  have k7 : w4.cell? ⟨w3.heap.size, 1, none⟩ = some (.int .i64 py) := by (repeat (first | with_reducible assumption | (refine newcell _ _ _ _ _ _ ?_ rfl; simp; done) | refine keepcell (by with_reducible assumption) ?_ | refine keepdrew ?_ | refine keepalloc ?_ _))
  have k8 : w4.cell? ⟨w3.heap.size + 1, 0, none⟩ = some (.int .i64 qx) := by (repeat (first | with_reducible assumption | (refine newcell _ _ _ _ _ _ ?_ rfl; simp; done) | refine keepcell (by with_reducible assumption) ?_ | refine keepdrew ?_ | refine keepalloc ?_ _))
  have k9 : w4.cell? ⟨w3.heap.size + 1, 1, none⟩ = some (.int .i64 qy) := by (repeat (first | with_reducible assumption | (refine newcell _ _ _ _ _ _ ?_ rfl; simp; done) | refine keepcell (by with_reducible assumption) ?_ | refine keepdrew ?_ | refine keepalloc ?_ _))
  have k10 : w4.cell? ⟨w3.heap.size + 1 + 1, 0, none⟩ = some (.int .i64 rx) := by (repeat (first | with_reducible assumption | (refine newcell _ _ _ _ _ _ ?_ rfl; simp; done) | refine keepcell (by with_reducible assumption) ?_ | refine keepdrew ?_ | refine keepalloc ?_ _))
  have k11 : w4.cell? ⟨w3.heap.size + 1 + 1, 1, none⟩ = some (.int .i64 ry) := by (repeat (first | with_reducible assumption | (refine newcell _ _ _ _ _ _ ?_ rfl; simp; done) | refine keepcell (by with_reducible assumption) ?_ | refine keepdrew ?_ | refine keepalloc ?_ _))
  replace hB2 : Below w.heap.size w w4 := by (repeat (first | with_reducible exact Below.refl _ _ | with_reducible assumption | (with_reducible refine btrans ?_ (by with_reducible assumption)) | with_reducible refine bdrew ?_ | with_reducible refine balloc ?_ _))
  clear hb4 d0 d1 d2 d3 d4 d5
  have T1 := hid (tv_rot ax ay bx bY cx cy)
  have T2 := hid (tv_swap ax ay bx bY cx cy)
  have O1 := hid (onv_swap px py qx qy rx ry)
  have O2 := hid (@onv_zero px py qx qy rx ry)
  have O3 := hid (@onv_self ax ay bx bY)
  have hfold : (allok [(px, py), (qx, qy), (rx, ry)] && onb px py qx qy rx ry) = onv px py qx qy rx ry := rfl
  rw [hfold]
  have hI := fun w => impl_OnSide px py rx ry qx qy w
  have hfold2 : (allok [(px, py), (rx, ry), (qx, qy)] && onb px py rx ry qx qy) = onv px py rx ry qx qy := rfl
  rw [hfold2] at hI
  have hJ := fun w => impl_OnSide ax ay ax ay bx bY w
  have hfold3 : (allok [(ax, ay), (ax, ay), (bx, bY)] && onb ax ay ax ay bx bY) = onv ax ay ax ay bx bY := rfl
  rw [hfold3] at hJ
  have hS := fun w => spec_OnSide px py qx qy rx ry w
  rw [hfold] at hS
  have HI := hid hI
  have HJ := hid hJ
  have HS := hid hS
  have hT := fun w => spec_Turn ax ay bx bY cx cy w
  have hT2 := fun w => impl_Turn bx bY cx cy ax ay w
  have hT3 := fun w => impl_Turn bx bY ax ay cx cy w
  have hT4 := fun w => impl_Turn px py qx qy rx ry w
  have hP1 := fun w => spec_pointok_b ax ay w
  have hP2 := fun w => impl_pointok_b ax ay w
  have hP3 := fun w => spec_pointok_b bx bY w
  rw [T1.out] at hT2
  rw [T2.out] at hT3
  rw [O1.out] at hI
  have hbd := tv_bd ax ay bx bY cx cy
  have HI := hid hI
  have HT := hid hT
  have HT2 := hid hT2
  have HT3 := hid hT3
  have HT4 := hid hT4
  have HP1 := hid hP1
  have HP2 := hid hP2
  have HP3 := hid hP3
  clear hI hJ hS hT hT2 hT3 hT4 hP1 hP2 hP3 hfold hfold2 hfold3 T1 T2 O1
  generalize tv ax ay bx bY cx cy = t at *
  generalize onv px py qx qy rx ry = on at *
  generalize pok ax ay = pa at *
  generalize pok bx bY = pb at *
  obtain ⟨hbd1, hbd2⟩ := hbd
  go_wp2_with fail
  go_region_held3 (fun w' => w'.cell? ⟨w1.heap.size, 0, none⟩ = some (.int .i64 ax) ∧ w'.cell? ⟨w1.heap.size, 1, none⟩ = some (.int .i64 ay) ∧ w'.cell? ⟨w1.heap.size + 1, 0, none⟩ = some (.int .i64 bx) ∧ w'.cell? ⟨w1.heap.size + 1, 1, none⟩ = some (.int .i64 bY) ∧ w'.cell? ⟨w1.heap.size + 1 + 1, 0, none⟩ = some (.int .i64 cx) ∧ w'.cell? ⟨w1.heap.size + 1 + 1, 1, none⟩ = some (.int .i64 cy) ∧ w'.cell? ⟨w3.heap.size, 0, none⟩ = some (.int .i64 px) ∧ w'.cell? ⟨w3.heap.size, 1, none⟩ = some (.int .i64 py) ∧ w'.cell? ⟨w3.heap.size + 1, 0, none⟩ = some (.int .i64 qx) ∧ w'.cell? ⟨w3.heap.size + 1, 1, none⟩ = some (.int .i64 qy) ∧ w'.cell? ⟨w3.heap.size + 1 + 1, 0, none⟩ = some (.int .i64 rx) ∧ w'.cell? ⟨w3.heap.size + 1 + 1, 1, none⟩ = some (.int .i64 ry)) ((go_split_ands; (repeat' apply And.intro) <;> (repeat (first | with_reducible assumption | (refine newcell _ _ _ _ _ _ ?_ rfl; simp; done) | refine keepcell (by with_reducible assumption) ?_ | refine keepdrew ?_ | refine keepalloc ?_ _))))
    (first
      | (go_at_call 17; refine (HT.out _).mono ?_; rintro e w5 ⟨rfl, hb5⟩)
      | (go_at_call 18; refine (HS.out _).mono ?_; rintro e w6 ⟨rfl, hb6⟩)
      | (go_at_call 19; refine (HP2.out _).mono ?_; rintro e w7 ⟨rfl, hb7⟩)
      | (go_at_call 20; refine (HP1.out _).mono ?_; rintro e w8 ⟨rfl, hb8⟩))
  have m0 : w8.cell? ⟨w1.heap.size, 0, none⟩ = some (.int .i64 ax) := by (repeat (first | with_reducible assumption | (refine newcell _ _ _ _ _ _ ?_ rfl; simp; done) | refine keepcell (by with_reducible assumption) ?_ | refine keepdrew ?_ | refine keepalloc ?_ _))
  have m1 : w8.cell? ⟨w1.heap.size, 1, none⟩ = some (.int .i64 ay) := by (repeat (first | with_reducible assumption | (refine newcell _ _ _ _ _ _ ?_ rfl; simp; done) | refine keepcell (by with_reducible assumption) ?_ | refine keepdrew ?_ | refine keepalloc ?_ _))
  have m2 : w8.cell? ⟨w1.heap.size + 1, 0, none⟩ = some (.int .i64 bx) := by (repeat (first | with_reducible assumption | (refine newcell _ _ _ _ _ _ ?_ rfl; simp; done) | refine keepcell (by with_reducible assumption) ?_ | refine keepdrew ?_ | refine keepalloc ?_ _))
  have m3 : w8.cell? ⟨w1.heap.size + 1, 1, none⟩ = some (.int .i64 bY) := by (repeat (first | with_reducible assumption | (refine newcell _ _ _ _ _ _ ?_ rfl; simp; done) | refine keepcell (by with_reducible assumption) ?_ | refine keepdrew ?_ | refine keepalloc ?_ _))
  have m4 : w8.cell? ⟨w1.heap.size + 1 + 1, 0, none⟩ = some (.int .i64 cx) := by (repeat (first | with_reducible assumption | (refine newcell _ _ _ _ _ _ ?_ rfl; simp; done) | refine keepcell (by with_reducible assumption) ?_ | refine keepdrew ?_ | refine keepalloc ?_ _))
  have m5 : w8.cell? ⟨w1.heap.size + 1 + 1, 1, none⟩ = some (.int .i64 cy) := by (repeat (first | with_reducible assumption | (refine newcell _ _ _ _ _ _ ?_ rfl; simp; done) | refine keepcell (by with_reducible assumption) ?_ | refine keepdrew ?_ | refine keepalloc ?_ _))
  have m6 : w8.cell? ⟨w3.heap.size, 0, none⟩ = some (.int .i64 px) := by (repeat (first | with_reducible assumption | (refine newcell _ _ _ _ _ _ ?_ rfl; simp; done) | refine keepcell (by with_reducible assumption) ?_ | refine keepdrew ?_ | refine keepalloc ?_ _))
  have m7 : w8.cell? ⟨w3.heap.size, 1, none⟩ = some (.int .i64 py) := by (repeat (first | with_reducible assumption | (refine newcell _ _ _ _ _ _ ?_ rfl; simp; done) | refine keepcell (by with_reducible assumption) ?_ | refine keepdrew ?_ | refine keepalloc ?_ _))
  have m8 : w8.cell? ⟨w3.heap.size + 1, 0, none⟩ = some (.int .i64 qx) := by (repeat (first | with_reducible assumption | (refine newcell _ _ _ _ _ _ ?_ rfl; simp; done) | refine keepcell (by with_reducible assumption) ?_ | refine keepdrew ?_ | refine keepalloc ?_ _))
  have m9 : w8.cell? ⟨w3.heap.size + 1, 1, none⟩ = some (.int .i64 qy) := by (repeat (first | with_reducible assumption | (refine newcell _ _ _ _ _ _ ?_ rfl; simp; done) | refine keepcell (by with_reducible assumption) ?_ | refine keepdrew ?_ | refine keepalloc ?_ _))
  have m10 : w8.cell? ⟨w3.heap.size + 1 + 1, 0, none⟩ = some (.int .i64 rx) := by (repeat (first | with_reducible assumption | (refine newcell _ _ _ _ _ _ ?_ rfl; simp; done) | refine keepcell (by with_reducible assumption) ?_ | refine keepdrew ?_ | refine keepalloc ?_ _))
  have m11 : w8.cell? ⟨w3.heap.size + 1 + 1, 1, none⟩ = some (.int .i64 ry) := by (repeat (first | with_reducible assumption | (refine newcell _ _ _ _ _ _ ?_ rfl; simp; done) | refine keepcell (by with_reducible assumption) ?_ | refine keepdrew ?_ | refine keepalloc ?_ _))
  replace hB2 : Below w.heap.size w w8 := by (repeat (first | with_reducible exact Below.refl _ _ | with_reducible assumption | (with_reducible refine btrans ?_ (by with_reducible assumption)) | with_reducible refine bdrew ?_ | with_reducible refine balloc ?_ _))
  clear hb5 hb6 hb7 hb8 k0 k1 k2 k3 k4 k5 k6 k7 k8 k9 k10 k11
  cases on
  · skip
    cases pa
    · skip
      go_wp2_with fail
      refine (HT2.out _).mono ?_
      rintro e y0 ⟨rfl, hc0⟩
      have n0_0 := keepcell hc0 m0
      have n0_1 := keepcell hc0 m1
      have n0_2 := keepcell hc0 m2
      have n0_3 := keepcell hc0 m3
      have n0_4 := keepcell hc0 m4
      have n0_5 := keepcell hc0 m5
      have n0_6 := keepcell hc0 m6
      have n0_7 := keepcell hc0 m7
      have n0_8 := keepcell hc0 m8
      have n0_9 := keepcell hc0 m9
      have n0_10 := keepcell hc0 m10
      have n0_11 := keepcell hc0 m11
      replace hB2 := btrans hB2 hc0
      clear hc0 m0 m1 m2 m3 m4 m5 m6 m7 m8 m9 m10 m11
      go_wp2_with fail
      refine (HT3.out _).mono ?_
      rintro e y1 ⟨rfl, hc1⟩
      have n1_0 := keepcell hc1 n0_0
      have n1_1 := keepcell hc1 n0_1
      have n1_2 := keepcell hc1 n0_2
      have n1_3 := keepcell hc1 n0_3
      have n1_4 := keepcell hc1 n0_4
      have n1_5 := keepcell hc1 n0_5
      have n1_6 := keepcell hc1 n0_6
      have n1_7 := keepcell hc1 n0_7
      have n1_8 := keepcell hc1 n0_8
      have n1_9 := keepcell hc1 n0_9
      have n1_10 := keepcell hc1 n0_10
      have n1_11 := keepcell hc1 n0_11
      replace hB2 := btrans hB2 hc1
      clear hc1 n0_0 n0_1 n0_2 n0_3 n0_4 n0_5 n0_6 n0_7 n0_8 n0_9 n0_10 n0_11
      go_wp2_with fail
      refine (HI.out _).mono ?_
      rintro e y2 ⟨rfl, hc2⟩
      have n2_0 := keepcell hc2 n1_0
      have n2_1 := keepcell hc2 n1_1
      have n2_2 := keepcell hc2 n1_2
      have n2_3 := keepcell hc2 n1_3
      have n2_4 := keepcell hc2 n1_4
      have n2_5 := keepcell hc2 n1_5
      have n2_6 := keepcell hc2 n1_6
      have n2_7 := keepcell hc2 n1_7
      have n2_8 := keepcell hc2 n1_8
      have n2_9 := keepcell hc2 n1_9
      have n2_10 := keepcell hc2 n1_10
      have n2_11 := keepcell hc2 n1_11
      replace hB2 := btrans hB2 hc2
      clear hc2 n1_0 n1_1 n1_2 n1_3 n1_4 n1_5 n1_6 n1_7 n1_8 n1_9 n1_10 n1_11
      go_wp2_with fail
      refine (HP1.out _).mono ?_
      rintro e y3 ⟨rfl, hc3⟩
      replace hB2 := btrans hB2 hc3
      clear hc3 n2_0 n2_1 n2_2 n2_3 n2_4 n2_5 n2_6 n2_7 n2_8 n2_9 n2_10 n2_11
      go_wp2_with fail
      go_ret
      exact ⟨rfl, hB2⟩
    · cases pb
      · skip
        go_wp2_with fail
        refine (HT2.out _).mono ?_
        rintro e y0 ⟨rfl, hc0⟩
        have n0_0 := keepcell hc0 m0
        have n0_1 := keepcell hc0 m1
        have n0_2 := keepcell hc0 m2
        have n0_3 := keepcell hc0 m3
        have n0_4 := keepcell hc0 m4
        have n0_5 := keepcell hc0 m5
        have n0_6 := keepcell hc0 m6
        have n0_7 := keepcell hc0 m7
        have n0_8 := keepcell hc0 m8
        have n0_9 := keepcell hc0 m9
        have n0_10 := keepcell hc0 m10
        have n0_11 := keepcell hc0 m11
        replace hB2 := btrans hB2 hc0
        clear hc0 m0 m1 m2 m3 m4 m5 m6 m7 m8 m9 m10 m11
        go_wp2_with fail
        refine (HT3.out _).mono ?_
        rintro e y1 ⟨rfl, hc1⟩
        have n1_0 := keepcell hc1 n0_0
        have n1_1 := keepcell hc1 n0_1
        have n1_2 := keepcell hc1 n0_2
        have n1_3 := keepcell hc1 n0_3
        have n1_4 := keepcell hc1 n0_4
        have n1_5 := keepcell hc1 n0_5
        have n1_6 := keepcell hc1 n0_6
        have n1_7 := keepcell hc1 n0_7
        have n1_8 := keepcell hc1 n0_8
        have n1_9 := keepcell hc1 n0_9
        have n1_10 := keepcell hc1 n0_10
        have n1_11 := keepcell hc1 n0_11
        replace hB2 := btrans hB2 hc1
        clear hc1 n0_0 n0_1 n0_2 n0_3 n0_4 n0_5 n0_6 n0_7 n0_8 n0_9 n0_10 n0_11
        go_wp2_with fail
        refine (HI.out _).mono ?_
        rintro e y2 ⟨rfl, hc2⟩
        have n2_0 := keepcell hc2 n1_0
        have n2_1 := keepcell hc2 n1_1
        have n2_2 := keepcell hc2 n1_2
        have n2_3 := keepcell hc2 n1_3
        have n2_4 := keepcell hc2 n1_4
        have n2_5 := keepcell hc2 n1_5
        have n2_6 := keepcell hc2 n1_6
        have n2_7 := keepcell hc2 n1_7
        have n2_8 := keepcell hc2 n1_8
        have n2_9 := keepcell hc2 n1_9
        have n2_10 := keepcell hc2 n1_10
        have n2_11 := keepcell hc2 n1_11
        replace hB2 := btrans hB2 hc2
        clear hc2 n1_0 n1_1 n1_2 n1_3 n1_4 n1_5 n1_6 n1_7 n1_8 n1_9 n1_10 n1_11
        go_wp2_with fail
        refine (HP1.out _).mono ?_
        rintro e y3 ⟨rfl, hc3⟩
        have n3_0 := keepcell hc3 n2_0
        have n3_1 := keepcell hc3 n2_1
        have n3_2 := keepcell hc3 n2_2
        have n3_3 := keepcell hc3 n2_3
        have n3_4 := keepcell hc3 n2_4
        have n3_5 := keepcell hc3 n2_5
        have n3_6 := keepcell hc3 n2_6
        have n3_7 := keepcell hc3 n2_7
        have n3_8 := keepcell hc3 n2_8
        have n3_9 := keepcell hc3 n2_9
        have n3_10 := keepcell hc3 n2_10
        have n3_11 := keepcell hc3 n2_11
        replace hB2 := btrans hB2 hc3
        clear hc3 n2_0 n2_1 n2_2 n2_3 n2_4 n2_5 n2_6 n2_7 n2_8 n2_9 n2_10 n2_11
        go_wp2_with fail
        refine (HP3.out _).mono ?_
        rintro e y4 ⟨rfl, hc4⟩
        replace hB2 := btrans hB2 hc4
        clear hc4 n3_0 n3_1 n3_2 n3_3 n3_4 n3_5 n3_6 n3_7 n3_8 n3_9 n3_10 n3_11
        go_wp2_with fail
        go_ret
        exact ⟨rfl, hB2⟩
      · have hz2 := O3.out rfl rfl
        have hJ := HJ.out
        rw [hz2] at hJ
        have HJ := hid hJ
        clear hJ hz2
        go_wp2_with fail
        refine (HT2.out _).mono ?_
        rintro e y0 ⟨rfl, hc0⟩
        have n0_0 := keepcell hc0 m0
        have n0_1 := keepcell hc0 m1
        have n0_2 := keepcell hc0 m2
        have n0_3 := keepcell hc0 m3
        have n0_4 := keepcell hc0 m4
        have n0_5 := keepcell hc0 m5
        have n0_6 := keepcell hc0 m6
        have n0_7 := keepcell hc0 m7
        have n0_8 := keepcell hc0 m8
        have n0_9 := keepcell hc0 m9
        have n0_10 := keepcell hc0 m10
        have n0_11 := keepcell hc0 m11
        replace hB2 := btrans hB2 hc0
        clear hc0 m0 m1 m2 m3 m4 m5 m6 m7 m8 m9 m10 m11
        go_wp2_with fail
        refine (HT3.out _).mono ?_
        rintro e y1 ⟨rfl, hc1⟩
        have n1_0 := keepcell hc1 n0_0
        have n1_1 := keepcell hc1 n0_1
        have n1_2 := keepcell hc1 n0_2
        have n1_3 := keepcell hc1 n0_3
        have n1_4 := keepcell hc1 n0_4
        have n1_5 := keepcell hc1 n0_5
        have n1_6 := keepcell hc1 n0_6
        have n1_7 := keepcell hc1 n0_7
        have n1_8 := keepcell hc1 n0_8
        have n1_9 := keepcell hc1 n0_9
        have n1_10 := keepcell hc1 n0_10
        have n1_11 := keepcell hc1 n0_11
        replace hB2 := btrans hB2 hc1
        clear hc1 n0_0 n0_1 n0_2 n0_3 n0_4 n0_5 n0_6 n0_7 n0_8 n0_9 n0_10 n0_11
        go_wp2_with fail
        refine (HI.out _).mono ?_
        rintro e y2 ⟨rfl, hc2⟩
        have n2_0 := keepcell hc2 n1_0
        have n2_1 := keepcell hc2 n1_1
        have n2_2 := keepcell hc2 n1_2
        have n2_3 := keepcell hc2 n1_3
        have n2_4 := keepcell hc2 n1_4
        have n2_5 := keepcell hc2 n1_5
        have n2_6 := keepcell hc2 n1_6
        have n2_7 := keepcell hc2 n1_7
        have n2_8 := keepcell hc2 n1_8
        have n2_9 := keepcell hc2 n1_9
        have n2_10 := keepcell hc2 n1_10
        have n2_11 := keepcell hc2 n1_11
        replace hB2 := btrans hB2 hc2
        clear hc2 n1_0 n1_1 n1_2 n1_3 n1_4 n1_5 n1_6 n1_7 n1_8 n1_9 n1_10 n1_11
        go_wp2_with fail
        refine (HP1.out _).mono ?_
        rintro e y3 ⟨rfl, hc3⟩
        have n3_0 := keepcell hc3 n2_0
        have n3_1 := keepcell hc3 n2_1
        have n3_2 := keepcell hc3 n2_2
        have n3_3 := keepcell hc3 n2_3
        have n3_4 := keepcell hc3 n2_4
        have n3_5 := keepcell hc3 n2_5
        have n3_6 := keepcell hc3 n2_6
        have n3_7 := keepcell hc3 n2_7
        have n3_8 := keepcell hc3 n2_8
        have n3_9 := keepcell hc3 n2_9
        have n3_10 := keepcell hc3 n2_10
        have n3_11 := keepcell hc3 n2_11
        replace hB2 := btrans hB2 hc3
        clear hc3 n2_0 n2_1 n2_2 n2_3 n2_4 n2_5 n2_6 n2_7 n2_8 n2_9 n2_10 n2_11
        go_wp2_with fail
        refine (HP3.out _).mono ?_
        rintro e y4 ⟨rfl, hc4⟩
        have n4_0 := keepcell hc4 n3_0
        have n4_1 := keepcell hc4 n3_1
        have n4_2 := keepcell hc4 n3_2
        have n4_3 := keepcell hc4 n3_3
        have n4_4 := keepcell hc4 n3_4
        have n4_5 := keepcell hc4 n3_5
        have n4_6 := keepcell hc4 n3_6
        have n4_7 := keepcell hc4 n3_7
        have n4_8 := keepcell hc4 n3_8
        have n4_9 := keepcell hc4 n3_9
        have n4_10 := keepcell hc4 n3_10
        have n4_11 := keepcell hc4 n3_11
        replace hB2 := btrans hB2 hc4
        clear hc4 n3_0 n3_1 n3_2 n3_3 n3_4 n3_5 n3_6 n3_7 n3_8 n3_9 n3_10 n3_11
        go_wp2_with fail
        refine (HJ.out _).mono ?_
        rintro e y5 ⟨rfl, hc5⟩
        replace hB2 := btrans hB2 hc5
        clear hc5 n4_0 n4_1 n4_2 n4_3 n4_4 n4_5 n4_6 n4_7 n4_8 n4_9 n4_10 n4_11
        go_wp2_with fail
        go_ret
        exact ⟨rfl, hB2⟩
  · skip
    have hz := O2.out rfl
    have hT4 := HT4.out
    rw [hz] at hT4
    have HT4 := hid hT4
    clear hT4 hz
    cases pa
    · skip
      go_wp2_with fail
      refine (HT2.out _).mono ?_
      rintro e y0 ⟨rfl, hc0⟩
      have n0_0 := keepcell hc0 m0
      have n0_1 := keepcell hc0 m1
      have n0_2 := keepcell hc0 m2
      have n0_3 := keepcell hc0 m3
      have n0_4 := keepcell hc0 m4
      have n0_5 := keepcell hc0 m5
      have n0_6 := keepcell hc0 m6
      have n0_7 := keepcell hc0 m7
      have n0_8 := keepcell hc0 m8
      have n0_9 := keepcell hc0 m9
      have n0_10 := keepcell hc0 m10
      have n0_11 := keepcell hc0 m11
      replace hB2 := btrans hB2 hc0
      clear hc0 m0 m1 m2 m3 m4 m5 m6 m7 m8 m9 m10 m11
      go_wp2_with fail
      refine (HT3.out _).mono ?_
      rintro e y1 ⟨rfl, hc1⟩
      have n1_0 := keepcell hc1 n0_0
      have n1_1 := keepcell hc1 n0_1
      have n1_2 := keepcell hc1 n0_2
      have n1_3 := keepcell hc1 n0_3
      have n1_4 := keepcell hc1 n0_4
      have n1_5 := keepcell hc1 n0_5
      have n1_6 := keepcell hc1 n0_6
      have n1_7 := keepcell hc1 n0_7
      have n1_8 := keepcell hc1 n0_8
      have n1_9 := keepcell hc1 n0_9
      have n1_10 := keepcell hc1 n0_10
      have n1_11 := keepcell hc1 n0_11
      replace hB2 := btrans hB2 hc1
      clear hc1 n0_0 n0_1 n0_2 n0_3 n0_4 n0_5 n0_6 n0_7 n0_8 n0_9 n0_10 n0_11
      go_wp2_with fail
      refine (HI.out _).mono ?_
      rintro e y2 ⟨rfl, hc2⟩
      have n2_0 := keepcell hc2 n1_0
      have n2_1 := keepcell hc2 n1_1
      have n2_2 := keepcell hc2 n1_2
      have n2_3 := keepcell hc2 n1_3
      have n2_4 := keepcell hc2 n1_4
      have n2_5 := keepcell hc2 n1_5
      have n2_6 := keepcell hc2 n1_6
      have n2_7 := keepcell hc2 n1_7
      have n2_8 := keepcell hc2 n1_8
      have n2_9 := keepcell hc2 n1_9
      have n2_10 := keepcell hc2 n1_10
      have n2_11 := keepcell hc2 n1_11
      replace hB2 := btrans hB2 hc2
      clear hc2 n1_0 n1_1 n1_2 n1_3 n1_4 n1_5 n1_6 n1_7 n1_8 n1_9 n1_10 n1_11
      go_wp2_with fail
      refine (HT4.out _).mono ?_
      rintro e y3 ⟨rfl, hc3⟩
      have n3_0 := keepcell hc3 n2_0
      have n3_1 := keepcell hc3 n2_1
      have n3_2 := keepcell hc3 n2_2
      have n3_3 := keepcell hc3 n2_3
      have n3_4 := keepcell hc3 n2_4
      have n3_5 := keepcell hc3 n2_5
      have n3_6 := keepcell hc3 n2_6
      have n3_7 := keepcell hc3 n2_7
      have n3_8 := keepcell hc3 n2_8
      have n3_9 := keepcell hc3 n2_9
      have n3_10 := keepcell hc3 n2_10
      have n3_11 := keepcell hc3 n2_11
      replace hB2 := btrans hB2 hc3
      clear hc3 n2_0 n2_1 n2_2 n2_3 n2_4 n2_5 n2_6 n2_7 n2_8 n2_9 n2_10 n2_11
      go_wp2_with fail
      refine (HP1.out _).mono ?_
      rintro e y4 ⟨rfl, hc4⟩
      replace hB2 := btrans hB2 hc4
      clear hc4 n3_0 n3_1 n3_2 n3_3 n3_4 n3_5 n3_6 n3_7 n3_8 n3_9 n3_10 n3_11
      go_wp2_with fail
      go_ret
      exact ⟨rfl, hB2⟩
    · cases pb
      · skip
        go_wp2_with fail
        refine (HT2.out _).mono ?_
        rintro e y0 ⟨rfl, hc0⟩
        have n0_0 := keepcell hc0 m0
        have n0_1 := keepcell hc0 m1
        have n0_2 := keepcell hc0 m2
        have n0_3 := keepcell hc0 m3
        have n0_4 := keepcell hc0 m4
        have n0_5 := keepcell hc0 m5
        have n0_6 := keepcell hc0 m6
        have n0_7 := keepcell hc0 m7
        have n0_8 := keepcell hc0 m8
        have n0_9 := keepcell hc0 m9
        have n0_10 := keepcell hc0 m10
        have n0_11 := keepcell hc0 m11
        replace hB2 := btrans hB2 hc0
        clear hc0 m0 m1 m2 m3 m4 m5 m6 m7 m8 m9 m10 m11
        go_wp2_with fail
        refine (HT3.out _).mono ?_
        rintro e y1 ⟨rfl, hc1⟩
        have n1_0 := keepcell hc1 n0_0
        have n1_1 := keepcell hc1 n0_1
        have n1_2 := keepcell hc1 n0_2
        have n1_3 := keepcell hc1 n0_3
        have n1_4 := keepcell hc1 n0_4
        have n1_5 := keepcell hc1 n0_5
        have n1_6 := keepcell hc1 n0_6
        have n1_7 := keepcell hc1 n0_7
        have n1_8 := keepcell hc1 n0_8
        have n1_9 := keepcell hc1 n0_9
        have n1_10 := keepcell hc1 n0_10
        have n1_11 := keepcell hc1 n0_11
        replace hB2 := btrans hB2 hc1
        clear hc1 n0_0 n0_1 n0_2 n0_3 n0_4 n0_5 n0_6 n0_7 n0_8 n0_9 n0_10 n0_11
        go_wp2_with fail
        refine (HI.out _).mono ?_
        rintro e y2 ⟨rfl, hc2⟩
        have n2_0 := keepcell hc2 n1_0
        have n2_1 := keepcell hc2 n1_1
        have n2_2 := keepcell hc2 n1_2
        have n2_3 := keepcell hc2 n1_3
        have n2_4 := keepcell hc2 n1_4
        have n2_5 := keepcell hc2 n1_5
        have n2_6 := keepcell hc2 n1_6
        have n2_7 := keepcell hc2 n1_7
        have n2_8 := keepcell hc2 n1_8
        have n2_9 := keepcell hc2 n1_9
        have n2_10 := keepcell hc2 n1_10
        have n2_11 := keepcell hc2 n1_11
        replace hB2 := btrans hB2 hc2
        clear hc2 n1_0 n1_1 n1_2 n1_3 n1_4 n1_5 n1_6 n1_7 n1_8 n1_9 n1_10 n1_11
        go_wp2_with fail
        refine (HT4.out _).mono ?_
        rintro e y3 ⟨rfl, hc3⟩
        have n3_0 := keepcell hc3 n2_0
        have n3_1 := keepcell hc3 n2_1
        have n3_2 := keepcell hc3 n2_2
        have n3_3 := keepcell hc3 n2_3
        have n3_4 := keepcell hc3 n2_4
        have n3_5 := keepcell hc3 n2_5
        have n3_6 := keepcell hc3 n2_6
        have n3_7 := keepcell hc3 n2_7
        have n3_8 := keepcell hc3 n2_8
        have n3_9 := keepcell hc3 n2_9
        have n3_10 := keepcell hc3 n2_10
        have n3_11 := keepcell hc3 n2_11
        replace hB2 := btrans hB2 hc3
        clear hc3 n2_0 n2_1 n2_2 n2_3 n2_4 n2_5 n2_6 n2_7 n2_8 n2_9 n2_10 n2_11
        go_wp2_with fail
        refine (HP1.out _).mono ?_
        rintro e y4 ⟨rfl, hc4⟩
        have n4_0 := keepcell hc4 n3_0
        have n4_1 := keepcell hc4 n3_1
        have n4_2 := keepcell hc4 n3_2
        have n4_3 := keepcell hc4 n3_3
        have n4_4 := keepcell hc4 n3_4
        have n4_5 := keepcell hc4 n3_5
        have n4_6 := keepcell hc4 n3_6
        have n4_7 := keepcell hc4 n3_7
        have n4_8 := keepcell hc4 n3_8
        have n4_9 := keepcell hc4 n3_9
        have n4_10 := keepcell hc4 n3_10
        have n4_11 := keepcell hc4 n3_11
        replace hB2 := btrans hB2 hc4
        clear hc4 n3_0 n3_1 n3_2 n3_3 n3_4 n3_5 n3_6 n3_7 n3_8 n3_9 n3_10 n3_11
        go_wp2_with fail
        refine (HP3.out _).mono ?_
        rintro e y5 ⟨rfl, hc5⟩
        replace hB2 := btrans hB2 hc5
        clear hc5 n4_0 n4_1 n4_2 n4_3 n4_4 n4_5 n4_6 n4_7 n4_8 n4_9 n4_10 n4_11
        go_wp2_with fail
        go_ret
        exact ⟨rfl, hB2⟩
      · have hz2 := O3.out rfl rfl
        have hJ := HJ.out
        rw [hz2] at hJ
        have HJ := hid hJ
        clear hJ hz2
        go_wp2_with fail
        refine (HT2.out _).mono ?_
        rintro e y0 ⟨rfl, hc0⟩
        have n0_0 := keepcell hc0 m0
        have n0_1 := keepcell hc0 m1
        have n0_2 := keepcell hc0 m2
        have n0_3 := keepcell hc0 m3
        have n0_4 := keepcell hc0 m4
        have n0_5 := keepcell hc0 m5
        have n0_6 := keepcell hc0 m6
        have n0_7 := keepcell hc0 m7
        have n0_8 := keepcell hc0 m8
        have n0_9 := keepcell hc0 m9
        have n0_10 := keepcell hc0 m10
        have n0_11 := keepcell hc0 m11
        replace hB2 := btrans hB2 hc0
        clear hc0 m0 m1 m2 m3 m4 m5 m6 m7 m8 m9 m10 m11
        go_wp2_with fail
        refine (HT3.out _).mono ?_
        rintro e y1 ⟨rfl, hc1⟩
        have n1_0 := keepcell hc1 n0_0
        have n1_1 := keepcell hc1 n0_1
        have n1_2 := keepcell hc1 n0_2
        have n1_3 := keepcell hc1 n0_3
        have n1_4 := keepcell hc1 n0_4
        have n1_5 := keepcell hc1 n0_5
        have n1_6 := keepcell hc1 n0_6
        have n1_7 := keepcell hc1 n0_7
        have n1_8 := keepcell hc1 n0_8
        have n1_9 := keepcell hc1 n0_9
        have n1_10 := keepcell hc1 n0_10
        have n1_11 := keepcell hc1 n0_11
        replace hB2 := btrans hB2 hc1
        clear hc1 n0_0 n0_1 n0_2 n0_3 n0_4 n0_5 n0_6 n0_7 n0_8 n0_9 n0_10 n0_11
        go_wp2_with fail
        refine (HI.out _).mono ?_
        rintro e y2 ⟨rfl, hc2⟩
        have n2_0 := keepcell hc2 n1_0
        have n2_1 := keepcell hc2 n1_1
        have n2_2 := keepcell hc2 n1_2
        have n2_3 := keepcell hc2 n1_3
        have n2_4 := keepcell hc2 n1_4
        have n2_5 := keepcell hc2 n1_5
        have n2_6 := keepcell hc2 n1_6
        have n2_7 := keepcell hc2 n1_7
        have n2_8 := keepcell hc2 n1_8
        have n2_9 := keepcell hc2 n1_9
        have n2_10 := keepcell hc2 n1_10
        have n2_11 := keepcell hc2 n1_11
        replace hB2 := btrans hB2 hc2
        clear hc2 n1_0 n1_1 n1_2 n1_3 n1_4 n1_5 n1_6 n1_7 n1_8 n1_9 n1_10 n1_11
        go_wp2_with fail
        refine (HT4.out _).mono ?_
        rintro e y3 ⟨rfl, hc3⟩
        have n3_0 := keepcell hc3 n2_0
        have n3_1 := keepcell hc3 n2_1
        have n3_2 := keepcell hc3 n2_2
        have n3_3 := keepcell hc3 n2_3
        have n3_4 := keepcell hc3 n2_4
        have n3_5 := keepcell hc3 n2_5
        have n3_6 := keepcell hc3 n2_6
        have n3_7 := keepcell hc3 n2_7
        have n3_8 := keepcell hc3 n2_8
        have n3_9 := keepcell hc3 n2_9
        have n3_10 := keepcell hc3 n2_10
        have n3_11 := keepcell hc3 n2_11
        replace hB2 := btrans hB2 hc3
        clear hc3 n2_0 n2_1 n2_2 n2_3 n2_4 n2_5 n2_6 n2_7 n2_8 n2_9 n2_10 n2_11
        go_wp2_with fail
        refine (HP1.out _).mono ?_
        rintro e y4 ⟨rfl, hc4⟩
        have n4_0 := keepcell hc4 n3_0
        have n4_1 := keepcell hc4 n3_1
        have n4_2 := keepcell hc4 n3_2
        have n4_3 := keepcell hc4 n3_3
        have n4_4 := keepcell hc4 n3_4
        have n4_5 := keepcell hc4 n3_5
        have n4_6 := keepcell hc4 n3_6
        have n4_7 := keepcell hc4 n3_7
        have n4_8 := keepcell hc4 n3_8
        have n4_9 := keepcell hc4 n3_9
        have n4_10 := keepcell hc4 n3_10
        have n4_11 := keepcell hc4 n3_11
        replace hB2 := btrans hB2 hc4
        clear hc4 n3_0 n3_1 n3_2 n3_3 n3_4 n3_5 n3_6 n3_7 n3_8 n3_9 n3_10 n3_11
        go_wp2_with fail
        refine (HP3.out _).mono ?_
        rintro e y5 ⟨rfl, hc5⟩
        have n5_0 := keepcell hc5 n4_0
        have n5_1 := keepcell hc5 n4_1
        have n5_2 := keepcell hc5 n4_2
        have n5_3 := keepcell hc5 n4_3
        have n5_4 := keepcell hc5 n4_4
        have n5_5 := keepcell hc5 n4_5
        have n5_6 := keepcell hc5 n4_6
        have n5_7 := keepcell hc5 n4_7
        have n5_8 := keepcell hc5 n4_8
        have n5_9 := keepcell hc5 n4_9
        have n5_10 := keepcell hc5 n4_10
        have n5_11 := keepcell hc5 n4_11
        replace hB2 := btrans hB2 hc5
        clear hc5 n4_0 n4_1 n4_2 n4_3 n4_4 n4_5 n4_6 n4_7 n4_8 n4_9 n4_10 n4_11
        go_wp2_with fail
        refine (HJ.out _).mono ?_
        rintro e y6 ⟨rfl, hc6⟩
        replace hB2 := btrans hB2 hc6
        clear hc6 n5_0 n5_1 n5_2 n5_3 n5_4 n5_5 n5_6 n5_7 n5_8 n5_9 n5_10 n5_11
        go_wp2_with fail
        go_ret
        exact ⟨rfl, hB2⟩
set_option maxRecDepth 100000 in
theorem lifted (os : Os) (started : os.Started) (H : Type) (enc : TypeId × Value → H) :
    ReturnsInHanded {} Try.checked os 3 .any (Rows.fnTurnSpec.pre6 enc Try.prog Try.f3 Rows.fnTurnRow.domain false) (Rows.fnTurnSpec.post enc Try.prog Try.f3 false true false false) := by
  refine returnsInHanded_of_change (C := Try.checked) own started (by kernel_rfl) Try.func3
    (ChangeSpec.witness6 (enc := enc) (C := Try.checked) false ⟨#[], #[.slice none 0 0], []⟩ 8 (by kernel_rfl) (by kernel_rfl) (by kernel_rfl) (by kernel_rfl)) ?_
  intro W base args ds gs before hval0 hW hcnd _
  have hval : ∀ (j : Nat) t v, Try.f3.params[j]? = some t → args[j]? = some v → Value.okWide Try.prog W .any base t v := hval0
  have hW' := hW
  obtain ⟨p, q, hA0, hV, rfl, hfz, hnd⟩ := hW
  have hA : DataW.TrodAll enc Try.prog W 0 (fun _ => true) true Try.f3.params.toList args.toList ds p := hA0
  rw [Try.params3] at hA hval
  obtain ⟨v0, vs0, d0, ds0, p0, q0, hargs, rfl, rfl, h0, r0⟩ := trodAll_cons hA
  obtain ⟨rfl, rfl, rfl⟩ := trodAll_nil r0
  obtain rfl : args = #[v0] := by cases args; simp_all
  obtain ⟨rfl, rfl⟩ := trodVars_none hV
  have k0 := h0
  have lt0 : ∀ x ∈ p0, x.block < W.heap.size := by obtain ⟨m, hm⟩ := k0; exact DataW.trod_lt m _ _ _ hm
  obtain ⟨a0, len0, cap0, rfl⟩ := okWide_slice Try.underlying22 (hval 0 22 v0 rfl rfl)
  obtain ⟨z0, w0⟩ : ∃ zs, IsRow .u8 W a0 len0 cap0 zs := by
    obtain ⟨fuel, hf⟩ := h0
    rcases open_ints Try.underlying22 Try.underlying5 (by kernel_rfl) hf with ⟨hcs, _⟩ | ⟨x, l, c, zs, hcs, _, hl, hm, hz, _, hcell, hwz⟩
    · simp [Value.cells] at hcs
      obtain ⟨rfl, rfl, rfl⟩ := hcs
      exact ⟨[], .inl ⟨rfl, rfl, rfl, rfl⟩⟩
    · simp [Value.cells] at hcs
      obtain ⟨rfl, rfl, rfl⟩ := hcs
      exact ⟨zs, .inr ⟨_, rfl, hl, hm, by simpa using hz, hcell, hwz⟩⟩
  clear hA0 hval0
  refine (walk a0 len0 cap0 z0 W w0).mono fun e W' ⟨he, bel⟩ => ?_
  subst he
  exact ⟨_, rfl, _, _, _, [], _, [], hW', trodAll_mk1 (shut_bool Try.underlying4 _), (trodAll_cons_mk (Below.trod laidOut (by kernel_rfl) (of_decide_eq_true (by kernel_rfl)) k0 bel lt0) trodAll_mk0), rfl, bel.frame _, fun h => by cases h⟩
theorem band {a b : Bool} (h1 : a = true) (h2 : b = true) : (a && b) = true := by rw [h1, h2]; rfl
set_option maxRecDepth 100000 in
theorem q1 : (Rows.fnTurnRow.wf (OpenSpec.ofChange Rows.fnTurnSpec)) = true := by kernel_rfl
set_option maxRecDepth 100000 in
theorem q2 : (laidOutB Try.pinned.checked.prog) = true := sh2
set_option maxRecDepth 100000 in
theorem q3 : (mapsRowed Try.pinned.checked.prog) = true := sh3
set_option maxRecDepth 100000 in
theorem q4 : (Try.f3.params.all (Try.pinned.checked.prog.readableRec ·)) = true := by kernel_rfl
set_option maxRecDepth 100000 in
theorem q5 : (namedTie Try.pinned.checked.prog Rows.fnTurnRow.named Rows.fnTurnSpec.vars) = true := by kernel_rfl
set_option maxRecDepth 100000 in
theorem q6 : ((Rows.fnTurnRow.stops == [])) = true := by kernel_rfl
set_option maxRecDepth 100000 in
theorem q7 : ((Try.pinned.checked.prog.stops == [])) = true := sh7
set_option maxRecDepth 100000 in
theorem q8 : ((Rows.fnTurnRow.knobs == [])) = true := by kernel_rfl
set_option maxRecDepth 100000 in
theorem q9 : ((Try.pinned.checked.prog.stopKnobs == [])) = true := sh9
set_option maxRecDepth 100000 in
theorem q10 : ((Rows.fnTurnRow.inPlace == Try.pinned.checked.prog.inPlace 3)) = true := by kernel_rfl
set_option maxRecDepth 100000 in
theorem q11 : ((Rows.fnTurnRow.unfollowed == Try.pinned.checked.prog.unfollowed 3)) = true := by kernel_rfl
set_option maxRecDepth 100000 in
theorem q12 : ((Rows.fnTurnRow.recurses == Try.pinned.checked.prog.recurses 3)) = true := by kernel_rfl
set_option maxRecDepth 100000 in
theorem q13 : ((Rows.fnTurnRow.named == Try.pinned.checked.prog.varsNamed 3)) = true := by kernel_rfl
set_option maxRecDepth 100000 in
theorem q14 : ((Rows.fnTurnRow.maps == (Try.f3.params.toList ++ Rows.fnTurnSpec.plain.varTypes Try.pinned.checked.prog).any (Try.pinned.checked.prog.mapsRec ·))) = true := by kernel_rfl
set_option maxRecDepth 100000 in
theorem q15 : ((Rows.fnTurnRow.ifaces == (Try.f3.params.toList ++ Rows.fnTurnSpec.plain.varTypes Try.pinned.checked.prog).any (Try.pinned.checked.prog.ifacesRec ·))) = true := by kernel_rfl
set_option maxRecDepth 100000 in
theorem q16 : ((Rows.fnTurnRow.mapsOut == Try.pinned.checked.prog.mapsAmong Try.f3.resultTypes.toList)) = true := by kernel_rfl
set_option maxRecDepth 100000 in
theorem q17 : ((Rows.fnTurnRow.loops == (Try.f3.params.toList ++ Rows.fnTurnSpec.plain.varTypes Try.pinned.checked.prog).any (Try.pinned.checked.prog.loopsFrom ·))) = true := by kernel_rfl
set_option maxRecDepth 100000 in
theorem q18 : ((Rows.fnTurnRow.wideKeys == (Try.f3.params.toList ++ Rows.fnTurnSpec.plain.varTypes Try.pinned.checked.prog ++ Try.f3.resultTypes.toList).any (Try.pinned.checked.prog.wideKeysFrom ·))) = true := by kernel_rfl
set_option maxRecDepth 100000 in
theorem q19 : (Rows.fnTurnSpec.vars.all (Try.pinned.checked.prog.varReadable ·)) = true := by kernel_rfl
set_option maxRecDepth 100000 in
theorem q20 : (Try.f3.resultTypes.all (fun t => Try.pinned.checked.prog.readableRec t && decide (t < Try.pinned.checked.prog.types.size))) = true := by kernel_rfl
set_option maxRecDepth 100000 in
theorem q21 : ((Rows.fnTurnRow.ifacesOut == Try.f3.resultTypes.toList.any (Try.pinned.checked.prog.ifacesRec ·))) = true := by kernel_rfl
set_option maxRecDepth 100000 in
theorem q22 : ((Rows.fnTurnRow.loopsOut == Try.f3.resultTypes.toList.any (Try.pinned.checked.prog.loopsFrom ·))) = true := by kernel_rfl
set_option maxRecDepth 100000 in
theorem q23 : ((Rows.fnTurnRow.plainKeys == Try.pinned.checked.prog.plainKeys)) = true := sh23
set_option maxRecDepth 100000 in
theorem q24 : (Rows.fnTurnRow.shortTexts.isNone) = true := by kernel_rfl
set_option maxRecDepth 100000 in
theorem q25 : (Try.pinned.checked.prog.stopsHeard) = true := sh25
set_option maxRecDepth 100000 in
theorem q26 : (Try.pinned.checked.prog.mayEnter) = true := sh26
set_option maxRecDepth 100000 in
theorem q27 : ((Rows.fnTurnRow.lifted == Try.pinned.checked.prog.liftsFinal)) = true := sh27
set_option maxRecDepth 100000 in
theorem q28 : ((Try.pinned.checked.prog.make == some Rows.fnTurnRow.make)) = true := sh28
set_option maxRecDepth 100000 in
theorem q29 : ((Rows.fnTurnRow.kinds == (if Rows.fnTurnRow.domain.isEmpty then [] else Try.f3.params.toList.map fun t => match Try.pinned.checked.prog.underlying t with | some (.int k) => some k | _ => none))) = true := by kernel_rfl
set_option maxRecDepth 100000 in
theorem q30 : ((Rows.fnTurnRow.pinned == Rows.fnTurnRow.pinnedBy)) = true := by kernel_rfl
set_option maxRecDepth 100000 in
theorem q31 : ((Rows.fnTurnRow.veiled == (Try.f3.params.toList ++ Rows.fnTurnSpec.plain.varTypes Try.pinned.checked.prog ++ Try.f3.resultTypes.toList).any (Try.pinned.checked.prog.veiledRec ·))) = true := by kernel_rfl
set_option maxRecDepth 100000 in
theorem q32 : (Rows.fnTurnRow.veiledFits Try.pinned.checked.prog Try.f3.params.toList (Try.f3.params.toList ++ Rows.fnTurnSpec.plain.varTypes Try.pinned.checked.prog ++ Try.f3.resultTypes.toList)) = true := by kernel_rfl
set_option maxRecDepth 100000 in
theorem closed : joinedFacts Try.pinned.checked.prog 3 Try.f3 Rows.fnTurnSpec Rows.fnTurnRow = true := by
  unfold joinedFacts
  exact (band (band (band (band (band (band (band (band (band (band (band (band (band (band (band (band (band (band (band (band (band (band (band (band (band (band (band (band (band (band (band q1 q2) q3) q4) q5) q6) q7) q8) q9) q10) q11) q12) q13) q14) q15) q16) q17) q18) q19) q20) q21) q22) q23) q24) q25) q26) q27) q28) q29) q30) q31) q32)
set_option maxRecDepth 100000 in
theorem over : Rows.fnTurnRow.holds Try.pinned (OpenSpec.ofChange Rows.fnTurnSpec) :=
  OpenClaim.holds_of_wide 3 Try.f3 rfl rfl rfl rfl rfl rfl rfl ⟨rfl, rfl, rfl, rfl, rfl⟩ rfl rfl rfl rfl rfl (by kernel_rfl) Try.func3 closed
    (of_decide_eq_true (by kernel_rfl)) (by unfold Func.isWrapper; first | (rw [if_pos (by decide +kernel)]; kernel_rfl) | (rw [if_neg (by decide +kernel)]; exact ⟨rfl, rfl⟩))
    (fun os started H enc _ => lifted os started H enc)
end Go.Proofs.Ytkncdncpgjpemaa.fnTurn
namespace Go.Proofs.Ytkncdncpgjpemaa
theorem fnTurn_holds : Rows.FnTurnSaid := fnTurn.over
#print axioms fnTurn_holds
end Go.Proofs.Ytkncdncpgjpemaa
