/- Sides meet whichever is told first and from whichever end; where they do, their boxes do; a side meets itself and each of its ends. -/
import Derived.Test.YtkncdncpgjpemaaRows
import Derived.Test.YtkncdncpgjpemaaFacts
import Derived.Test.YtkncdncpgjpemaaCode
import Derived.Test.YtkncdncpgjpemaaDrawT
import Derived.Test.YtkncdncpgjpemaaSym
import Derived.WalkKit
import Derived.Deep.DeepCutAuto
import Derived.ProofKit
import Derived.OpenShut
import Derived.ShutString
import Derived.ChangeOld
import Derived.Below
import Derived.Carry
import Derived.Lib.SmallJoins
import Derived.Deep.SlicePairs
namespace Go.Proofs.Ytkncdncpgjpemaa.fnSides
open Go.ChangeShapes Go.WideShapes Go.ChangeAt Go.RowKit Go.Joins
set_option linter.unusedVariables false
set_option linter.unusedSimpArgs false
theorem own : ownKnob Try.prog.godebug = none := by kernel_rfl
theorem laidOut : laidOutB Try.prog = true := by kernel_rfl
set_option maxRecDepth 100000 in
set_option maxHeartbeats 2000000 in
theorem walk (a0 : Option Addr) (len0 cap0 : Nat) (z0 : List Int) (w : World) (w0 : IsRow .u8 w a0 len0 cap0 z0) :
    Calls Try.prog 5 #[.slice a0 len0 cap0] w fun e w' => e = .returned (.bool true) ∧ Below w.heap.size w w' := by
  have hlen := len_of w0
  by_cases hbig : len0 ≤ 1048576
  rotate_left
  · have hd : 1048576 < (len0 : Int) := by omega
    clear w0
    go_enter Try.func5, Try.ntmps5
    go_wp2_with (go_at_call 12; go_in)
    go_ret
    exact ⟨rfl, Below.refl _ _⟩
  have hc := code_of w0 hbig
  have hd : (len0 : Int) ≤ 1048576 := by omega
  have HC := hid hc
  clear hc w0
  go_enter Try.func5, Try.ntmps5
  go_wp2_with (go_at_call 12; go_in)
  refine (draw_sides _ a0 len0 cap0 HC.out).mono ?_
  rintro e w1 ⟨ax, ay, bx, bY, cx, cy, dx, dy, rfl, hb1⟩
  go_wp2_with fail
  refine (impl_SM ax ay bx bY cx cy dx dy _).mono ?_
  rintro e w2 ⟨rfl, hb2⟩
  have c0 : w2.cell? ⟨w1.heap.size, 0, none⟩ = some (.int .i64 ax) := by (repeat (first | with_reducible assumption | (refine newcell _ _ _ _ _ _ ?_ rfl; simp; done) | refine keepcell (by with_reducible assumption) ?_ | refine keepdrew ?_ | refine keepalloc ?_ _))
  have c1 : w2.cell? ⟨w1.heap.size, 1, none⟩ = some (.int .i64 ay) := by (repeat (first | with_reducible assumption | (refine newcell _ _ _ _ _ _ ?_ rfl; simp; done) | refine keepcell (by with_reducible assumption) ?_ | refine keepdrew ?_ | refine keepalloc ?_ _))
  have c2 : w2.cell? ⟨w1.heap.size + 1, 0, none⟩ = some (.int .i64 bx) := by (repeat (first | with_reducible assumption | (refine newcell _ _ _ _ _ _ ?_ rfl; simp; done) | refine keepcell (by with_reducible assumption) ?_ | refine keepdrew ?_ | refine keepalloc ?_ _))
  have c3 : w2.cell? ⟨w1.heap.size + 1, 1, none⟩ = some (.int .i64 bY) := by (repeat (first | with_reducible assumption | (refine newcell _ _ _ _ _ _ ?_ rfl; simp; done) | refine keepcell (by with_reducible assumption) ?_ | refine keepdrew ?_ | refine keepalloc ?_ _))
  have c4 : w2.cell? ⟨w1.heap.size + 1 + 1, 0, none⟩ = some (.int .i64 cx) := by (repeat (first | with_reducible assumption | (refine newcell _ _ _ _ _ _ ?_ rfl; simp; done) | refine keepcell (by with_reducible assumption) ?_ | refine keepdrew ?_ | refine keepalloc ?_ _))
  have c5 : w2.cell? ⟨w1.heap.size + 1 + 1, 1, none⟩ = some (.int .i64 cy) := by (repeat (first | with_reducible assumption | (refine newcell _ _ _ _ _ _ ?_ rfl; simp; done) | refine keepcell (by with_reducible assumption) ?_ | refine keepdrew ?_ | refine keepalloc ?_ _))
  have c6 : w2.cell? ⟨w1.heap.size + 1 + 1 + 1, 0, none⟩ = some (.int .i64 dx) := by (repeat (first | with_reducible assumption | (refine newcell _ _ _ _ _ _ ?_ rfl; simp; done) | refine keepcell (by with_reducible assumption) ?_ | refine keepdrew ?_ | refine keepalloc ?_ _))
  have c7 : w2.cell? ⟨w1.heap.size + 1 + 1 + 1, 1, none⟩ = some (.int .i64 dy) := by (repeat (first | with_reducible assumption | (refine newcell _ _ _ _ _ _ ?_ rfl; simp; done) | refine keepcell (by with_reducible assumption) ?_ | refine keepdrew ?_ | refine keepalloc ?_ _))
  have hB2 : Below w.heap.size w w2 := by (repeat (first | with_reducible exact Below.refl _ _ | with_reducible assumption | (with_reducible refine btrans ?_ (by with_reducible assumption)) | with_reducible refine bdrew ?_ | with_reducible refine balloc ?_ _))
  clear hb1 hb2
  have L := hid (@sides_law ax ay bx bY cx cy dx dy)
  have L2 := hid (@sides_self ax ay bx bY)
  have h1 := fun w => spec_SM ax ay bx bY cx cy dx dy w
  have h2 := fun w => impl_SM cx cy dx dy ax ay bx bY w
  rw [smv_comm] at h2
  have h3 := fun w => impl_SM bx bY ax ay cx cy dx dy w
  rw [smv_swap] at h3
  have h4 := fun w => impl_SM ax ay bx bY dx dy cx cy w
  rw [smv_swap2] at h4
  have h5 := fun (b : Nat) w (hw : Pts w (some ⟨b, 0, none⟩) [(ax, ay), (bx, bY)]) => impl_BoxAround (some ⟨b, 0, none⟩) 2 [(ax, ay), (bx, bY)] w (by simp) (by simp) hw
  have h6 := fun (b : Nat) w (hw : Pts w (some ⟨b, 0, none⟩) [(cx, cy), (dx, dy)]) => impl_BoxAround (some ⟨b, 0, none⟩) 2 [(cx, cy), (dx, dy)] w (by simp) (by simp) hw
  have H1 := hid h1
  clear h1
  have H2 := hid h2
  clear h2
  have H3 := hid h3
  clear h3
  have H4 := hid h4
  clear h4
  have H5 := hid h5
  clear h5
  have H6 := hid h6
  clear h6
  generalize smv ax ay bx bY cx cy dx dy = m at *
  generalize aX [(ax, ay), (bx, bY)] = ua at *
  generalize aY [(ax, ay), (bx, bY)] = ub at *
  generalize bX [(ax, ay), (bx, bY)] = uc at *
  generalize bY' [(ax, ay), (bx, bY)] = ud at *
  generalize aok [(ax, ay), (bx, bY)] = uk at *
  generalize aX [(cx, cy), (dx, dy)] = va at *
  generalize aY [(cx, cy), (dx, dy)] = vb at *
  generalize bX [(cx, cy), (dx, dy)] = vc at *
  generalize bY' [(cx, cy), (dx, dy)] = vd at *
  generalize aok [(cx, cy), (dx, dy)] = vk at *
  go_wp2_with fail
  refine (H1.out _).mono ?_
  rintro e y1 ⟨rfl, hc1⟩
  have n1_0 := keepcell hc1 c0
  have n1_1 := keepcell hc1 c1
  have n1_2 := keepcell hc1 c2
  have n1_3 := keepcell hc1 c3
  have n1_4 := keepcell hc1 c4
  have n1_5 := keepcell hc1 c5
  have n1_6 := keepcell hc1 c6
  have n1_7 := keepcell hc1 c7
  replace hB2 := btrans hB2 hc1
  clear hc1 c0 c1 c2 c3 c4 c5 c6 c7
  go_wp2_with fail
  refine (H2.out _).mono ?_
  rintro e y2 ⟨rfl, hc2⟩
  have n2_0 := keepcell hc2 n1_0
  have n2_1 := keepcell hc2 n1_1
  have n2_2 := keepcell hc2 n1_2
  have n2_3 := keepcell hc2 n1_3
  have n2_4 := keepcell hc2 n1_4
  have n2_5 := keepcell hc2 n1_5
  have n2_6 := keepcell hc2 n1_6
  have n2_7 := keepcell hc2 n1_7
  replace hB2 := btrans hB2 hc2
  clear hc2 n1_0 n1_1 n1_2 n1_3 n1_4 n1_5 n1_6 n1_7
  go_wp2_with fail
  refine (H3.out _).mono ?_
  rintro e y3 ⟨rfl, hc3⟩
  have n3_0 := keepcell hc3 n2_0
  have n3_1 := keepcell hc3 n2_1
  have n3_2 := keepcell hc3 n2_2
  have n3_3 := keepcell hc3 n2_3
  have n3_4 := keepcell hc3 n2_4
  have n3_5 := keepcell hc3 n2_5
  have n3_6 := keepcell hc3 n2_6
  have n3_7 := keepcell hc3 n2_7
  replace hB2 := btrans hB2 hc3
  clear hc3 n2_0 n2_1 n2_2 n2_3 n2_4 n2_5 n2_6 n2_7
  go_wp2_with fail
  refine (H4.out _).mono ?_
  rintro e y4 ⟨rfl, hc4⟩
  have n4_0 := keepcell hc4 n3_0
  have n4_1 := keepcell hc4 n3_1
  have n4_2 := keepcell hc4 n3_2
  have n4_3 := keepcell hc4 n3_3
  have n4_4 := keepcell hc4 n3_4
  have n4_5 := keepcell hc4 n3_5
  have n4_6 := keepcell hc4 n3_6
  have n4_7 := keepcell hc4 n3_7
  replace hB2 := btrans hB2 hc4
  clear hc4 n3_0 n3_1 n3_2 n3_3 n3_4 n3_5 n3_6 n3_7
  go_wp2_with fail
  refine (H5.out _ _ (pts2 (newcell _ _ _ _ _ _ rfl rfl) (newcell _ _ _ _ _ _ rfl rfl) (newcell _ _ _ _ _ _ rfl rfl) (newcell _ _ _ _ _ _ rfl rfl))).mono ?_
  rintro e y5 ⟨rfl, hc5⟩
  have n5_0 : y5.cell? ⟨w1.heap.size, 0, none⟩ = some (.int .i64 ax) := by (repeat (first | with_reducible assumption | (refine newcell _ _ _ _ _ _ ?_ rfl; simp; done) | refine keepcell (by with_reducible assumption) ?_ | refine keepdrew ?_ | refine keepalloc ?_ _))
  have n5_1 : y5.cell? ⟨w1.heap.size, 1, none⟩ = some (.int .i64 ay) := by (repeat (first | with_reducible assumption | (refine newcell _ _ _ _ _ _ ?_ rfl; simp; done) | refine keepcell (by with_reducible assumption) ?_ | refine keepdrew ?_ | refine keepalloc ?_ _))
  have n5_2 : y5.cell? ⟨w1.heap.size + 1, 0, none⟩ = some (.int .i64 bx) := by (repeat (first | with_reducible assumption | (refine newcell _ _ _ _ _ _ ?_ rfl; simp; done) | refine keepcell (by with_reducible assumption) ?_ | refine keepdrew ?_ | refine keepalloc ?_ _))
  have n5_3 : y5.cell? ⟨w1.heap.size + 1, 1, none⟩ = some (.int .i64 bY) := by (repeat (first | with_reducible assumption | (refine newcell _ _ _ _ _ _ ?_ rfl; simp; done) | refine keepcell (by with_reducible assumption) ?_ | refine keepdrew ?_ | refine keepalloc ?_ _))
  have n5_4 : y5.cell? ⟨w1.heap.size + 1 + 1, 0, none⟩ = some (.int .i64 cx) := by (repeat (first | with_reducible assumption | (refine newcell _ _ _ _ _ _ ?_ rfl; simp; done) | refine keepcell (by with_reducible assumption) ?_ | refine keepdrew ?_ | refine keepalloc ?_ _))
  have n5_5 : y5.cell? ⟨w1.heap.size + 1 + 1, 1, none⟩ = some (.int .i64 cy) := by (repeat (first | with_reducible assumption | (refine newcell _ _ _ _ _ _ ?_ rfl; simp; done) | refine keepcell (by with_reducible assumption) ?_ | refine keepdrew ?_ | refine keepalloc ?_ _))
  have n5_6 : y5.cell? ⟨w1.heap.size + 1 + 1 + 1, 0, none⟩ = some (.int .i64 dx) := by (repeat (first | with_reducible assumption | (refine newcell _ _ _ _ _ _ ?_ rfl; simp; done) | refine keepcell (by with_reducible assumption) ?_ | refine keepdrew ?_ | refine keepalloc ?_ _))
  have n5_7 : y5.cell? ⟨w1.heap.size + 1 + 1 + 1, 1, none⟩ = some (.int .i64 dy) := by (repeat (first | with_reducible assumption | (refine newcell _ _ _ _ _ _ ?_ rfl; simp; done) | refine keepcell (by with_reducible assumption) ?_ | refine keepdrew ?_ | refine keepalloc ?_ _))
  replace hB2 : Below w.heap.size w y5 := by (repeat (first | with_reducible exact Below.refl _ _ | with_reducible assumption | (with_reducible refine btrans ?_ (by with_reducible assumption)) | with_reducible refine bdrew ?_ | with_reducible refine balloc ?_ _))
  clear hc5 n4_0 n4_1 n4_2 n4_3 n4_4 n4_5 n4_6 n4_7
  have r5_0 := keepalloc n5_0 (.cells #[.int .i64 ua, .int .i64 ub, .int .i64 uc, .int .i64 ud] 32)
  have r5_1 := keepalloc n5_1 (.cells #[.int .i64 ua, .int .i64 ub, .int .i64 uc, .int .i64 ud] 32)
  have r5_2 := keepalloc n5_2 (.cells #[.int .i64 ua, .int .i64 ub, .int .i64 uc, .int .i64 ud] 32)
  have r5_3 := keepalloc n5_3 (.cells #[.int .i64 ua, .int .i64 ub, .int .i64 uc, .int .i64 ud] 32)
  have r5_4 := keepalloc n5_4 (.cells #[.int .i64 ua, .int .i64 ub, .int .i64 uc, .int .i64 ud] 32)
  have r5_5 := keepalloc n5_5 (.cells #[.int .i64 ua, .int .i64 ub, .int .i64 uc, .int .i64 ud] 32)
  have r5_6 := keepalloc n5_6 (.cells #[.int .i64 ua, .int .i64 ub, .int .i64 uc, .int .i64 ud] 32)
  have r5_7 := keepalloc n5_7 (.cells #[.int .i64 ua, .int .i64 ub, .int .i64 uc, .int .i64 ud] 32)
  go_wp2_with fail
  refine (H6.out _ _ ?_).mono ?_
  · refine pts2 ?_ ?_ ?_ ?_ <;> (refine newcell _ _ _ _ _ _ ?_ rfl; simp)
  rintro e y6 ⟨rfl, hc6⟩
  have n6_0 : y6.cell? ⟨w1.heap.size, 0, none⟩ = some (.int .i64 ax) := by (repeat (first | with_reducible assumption | (refine newcell _ _ _ _ _ _ ?_ rfl; simp; done) | refine keepcell (by with_reducible assumption) ?_ | refine keepdrew ?_ | refine keepalloc ?_ _))
  have n6_1 : y6.cell? ⟨w1.heap.size, 1, none⟩ = some (.int .i64 ay) := by (repeat (first | with_reducible assumption | (refine newcell _ _ _ _ _ _ ?_ rfl; simp; done) | refine keepcell (by with_reducible assumption) ?_ | refine keepdrew ?_ | refine keepalloc ?_ _))
  have n6_2 : y6.cell? ⟨w1.heap.size + 1, 0, none⟩ = some (.int .i64 bx) := by (repeat (first | with_reducible assumption | (refine newcell _ _ _ _ _ _ ?_ rfl; simp; done) | refine keepcell (by with_reducible assumption) ?_ | refine keepdrew ?_ | refine keepalloc ?_ _))
  have n6_3 : y6.cell? ⟨w1.heap.size + 1, 1, none⟩ = some (.int .i64 bY) := by (repeat (first | with_reducible assumption | (refine newcell _ _ _ _ _ _ ?_ rfl; simp; done) | refine keepcell (by with_reducible assumption) ?_ | refine keepdrew ?_ | refine keepalloc ?_ _))
  have n6_4 : y6.cell? ⟨w1.heap.size + 1 + 1, 0, none⟩ = some (.int .i64 cx) := by (repeat (first | with_reducible assumption | (refine newcell _ _ _ _ _ _ ?_ rfl; simp; done) | refine keepcell (by with_reducible assumption) ?_ | refine keepdrew ?_ | refine keepalloc ?_ _))
  have n6_5 : y6.cell? ⟨w1.heap.size + 1 + 1, 1, none⟩ = some (.int .i64 cy) := by (repeat (first | with_reducible assumption | (refine newcell _ _ _ _ _ _ ?_ rfl; simp; done) | refine keepcell (by with_reducible assumption) ?_ | refine keepdrew ?_ | refine keepalloc ?_ _))
  have n6_6 : y6.cell? ⟨w1.heap.size + 1 + 1 + 1, 0, none⟩ = some (.int .i64 dx) := by (repeat (first | with_reducible assumption | (refine newcell _ _ _ _ _ _ ?_ rfl; simp; done) | refine keepcell (by with_reducible assumption) ?_ | refine keepdrew ?_ | refine keepalloc ?_ _))
  have n6_7 : y6.cell? ⟨w1.heap.size + 1 + 1 + 1, 1, none⟩ = some (.int .i64 dy) := by (repeat (first | with_reducible assumption | (refine newcell _ _ _ _ _ _ ?_ rfl; simp; done) | refine keepcell (by with_reducible assumption) ?_ | refine keepdrew ?_ | refine keepalloc ?_ _))
  have n6_8 : y6.cell? ⟨y5.heap.size, 0, none⟩ = some (.int .i64 ua) := by (repeat (first | with_reducible assumption | (refine newcell _ _ _ _ _ _ ?_ rfl; simp; done) | refine keepcell (by with_reducible assumption) ?_ | refine keepdrew ?_ | refine keepalloc ?_ _))
  have n6_9 : y6.cell? ⟨y5.heap.size, 1, none⟩ = some (.int .i64 ub) := by (repeat (first | with_reducible assumption | (refine newcell _ _ _ _ _ _ ?_ rfl; simp; done) | refine keepcell (by with_reducible assumption) ?_ | refine keepdrew ?_ | refine keepalloc ?_ _))
  have n6_10 : y6.cell? ⟨y5.heap.size, 2, none⟩ = some (.int .i64 uc) := by (repeat (first | with_reducible assumption | (refine newcell _ _ _ _ _ _ ?_ rfl; simp; done) | refine keepcell (by with_reducible assumption) ?_ | refine keepdrew ?_ | refine keepalloc ?_ _))
  have n6_11 : y6.cell? ⟨y5.heap.size, 3, none⟩ = some (.int .i64 ud) := by (repeat (first | with_reducible assumption | (refine newcell _ _ _ _ _ _ ?_ rfl; simp; done) | refine keepcell (by with_reducible assumption) ?_ | refine keepdrew ?_ | refine keepalloc ?_ _))
  replace hB2 : Below w.heap.size w y6 := by (repeat (first | with_reducible exact Below.refl _ _ | with_reducible assumption | (with_reducible refine btrans ?_ (by with_reducible assumption)) | with_reducible refine bdrew ?_ | with_reducible refine balloc ?_ _))
  clear hc6 n5_0 n5_1 n5_2 n5_3 n5_4 n5_5 n5_6 n5_7
  have r6_0 := keepalloc n6_0 (.cells #[.int .i64 va, .int .i64 vb, .int .i64 vc, .int .i64 vd] 32)
  have r6_1 := keepalloc n6_1 (.cells #[.int .i64 va, .int .i64 vb, .int .i64 vc, .int .i64 vd] 32)
  have r6_2 := keepalloc n6_2 (.cells #[.int .i64 va, .int .i64 vb, .int .i64 vc, .int .i64 vd] 32)
  have r6_3 := keepalloc n6_3 (.cells #[.int .i64 va, .int .i64 vb, .int .i64 vc, .int .i64 vd] 32)
  have r6_4 := keepalloc n6_4 (.cells #[.int .i64 va, .int .i64 vb, .int .i64 vc, .int .i64 vd] 32)
  have r6_5 := keepalloc n6_5 (.cells #[.int .i64 va, .int .i64 vb, .int .i64 vc, .int .i64 vd] 32)
  have r6_6 := keepalloc n6_6 (.cells #[.int .i64 va, .int .i64 vb, .int .i64 vc, .int .i64 vd] 32)
  have r6_7 := keepalloc n6_7 (.cells #[.int .i64 va, .int .i64 vb, .int .i64 vc, .int .i64 vd] 32)
  have r6_8 := keepalloc n6_8 (.cells #[.int .i64 va, .int .i64 vb, .int .i64 vc, .int .i64 vd] 32)
  have r6_9 := keepalloc n6_9 (.cells #[.int .i64 va, .int .i64 vb, .int .i64 vc, .int .i64 vd] 32)
  have r6_10 := keepalloc n6_10 (.cells #[.int .i64 va, .int .i64 vb, .int .i64 vc, .int .i64 vd] 32)
  have r6_11 := keepalloc n6_11 (.cells #[.int .i64 va, .int .i64 vb, .int .i64 vc, .int .i64 vd] 32)
  cases m
  · skip
    cases uk
    · skip
      go_wp2_with fail
      go_ret
      exact ⟨rfl, by (repeat (first | with_reducible exact Below.refl _ _ | with_reducible assumption | (with_reducible refine btrans ?_ (by with_reducible assumption)) | with_reducible refine bdrew ?_ | with_reducible refine balloc ?_ _))⟩
    · skip
      obtain ⟨e1, e2, e3⟩ := L2.out (by simp)
      have h0 := fun w => impl_SM ax ay bx bY ax ay bx bY w
      rw [e1] at h0
      have J0 := hid h0
      clear h0 e1
      have h1 := fun w => impl_SM ax ay bx bY bx bY bx bY w
      rw [e2] at h1
      have J1 := hid h1
      clear h1 e2
      have h2 := fun w => impl_SM ax ay ax ay ax ay bx bY w
      rw [e3] at h2
      have J2 := hid h2
      clear h2 e3
      go_wp2_with fail
      refine (J0.out _).mono ?_
      rintro e y7 ⟨rfl, hc7⟩
      have n7_0 : y7.cell? ⟨w1.heap.size, 0, none⟩ = some (.int .i64 ax) := by (repeat (first | with_reducible assumption | (refine newcell _ _ _ _ _ _ ?_ rfl; simp; done) | refine keepcell (by with_reducible assumption) ?_ | refine keepdrew ?_ | refine keepalloc ?_ _))
      have n7_1 : y7.cell? ⟨w1.heap.size, 1, none⟩ = some (.int .i64 ay) := by (repeat (first | with_reducible assumption | (refine newcell _ _ _ _ _ _ ?_ rfl; simp; done) | refine keepcell (by with_reducible assumption) ?_ | refine keepdrew ?_ | refine keepalloc ?_ _))
      have n7_2 : y7.cell? ⟨w1.heap.size + 1, 0, none⟩ = some (.int .i64 bx) := by (repeat (first | with_reducible assumption | (refine newcell _ _ _ _ _ _ ?_ rfl; simp; done) | refine keepcell (by with_reducible assumption) ?_ | refine keepdrew ?_ | refine keepalloc ?_ _))
      have n7_3 : y7.cell? ⟨w1.heap.size + 1, 1, none⟩ = some (.int .i64 bY) := by (repeat (first | with_reducible assumption | (refine newcell _ _ _ _ _ _ ?_ rfl; simp; done) | refine keepcell (by with_reducible assumption) ?_ | refine keepdrew ?_ | refine keepalloc ?_ _))
      have n7_4 : y7.cell? ⟨w1.heap.size + 1 + 1, 0, none⟩ = some (.int .i64 cx) := by (repeat (first | with_reducible assumption | (refine newcell _ _ _ _ _ _ ?_ rfl; simp; done) | refine keepcell (by with_reducible assumption) ?_ | refine keepdrew ?_ | refine keepalloc ?_ _))
      have n7_5 : y7.cell? ⟨w1.heap.size + 1 + 1, 1, none⟩ = some (.int .i64 cy) := by (repeat (first | with_reducible assumption | (refine newcell _ _ _ _ _ _ ?_ rfl; simp; done) | refine keepcell (by with_reducible assumption) ?_ | refine keepdrew ?_ | refine keepalloc ?_ _))
      have n7_6 : y7.cell? ⟨w1.heap.size + 1 + 1 + 1, 0, none⟩ = some (.int .i64 dx) := by (repeat (first | with_reducible assumption | (refine newcell _ _ _ _ _ _ ?_ rfl; simp; done) | refine keepcell (by with_reducible assumption) ?_ | refine keepdrew ?_ | refine keepalloc ?_ _))
      have n7_7 : y7.cell? ⟨w1.heap.size + 1 + 1 + 1, 1, none⟩ = some (.int .i64 dy) := by (repeat (first | with_reducible assumption | (refine newcell _ _ _ _ _ _ ?_ rfl; simp; done) | refine keepcell (by with_reducible assumption) ?_ | refine keepdrew ?_ | refine keepalloc ?_ _))
      have n7_8 : y7.cell? ⟨y5.heap.size, 0, none⟩ = some (.int .i64 ua) := by (repeat (first | with_reducible assumption | (refine newcell _ _ _ _ _ _ ?_ rfl; simp; done) | refine keepcell (by with_reducible assumption) ?_ | refine keepdrew ?_ | refine keepalloc ?_ _))
      have n7_9 : y7.cell? ⟨y5.heap.size, 1, none⟩ = some (.int .i64 ub) := by (repeat (first | with_reducible assumption | (refine newcell _ _ _ _ _ _ ?_ rfl; simp; done) | refine keepcell (by with_reducible assumption) ?_ | refine keepdrew ?_ | refine keepalloc ?_ _))
      have n7_10 : y7.cell? ⟨y5.heap.size, 2, none⟩ = some (.int .i64 uc) := by (repeat (first | with_reducible assumption | (refine newcell _ _ _ _ _ _ ?_ rfl; simp; done) | refine keepcell (by with_reducible assumption) ?_ | refine keepdrew ?_ | refine keepalloc ?_ _))
      have n7_11 : y7.cell? ⟨y5.heap.size, 3, none⟩ = some (.int .i64 ud) := by (repeat (first | with_reducible assumption | (refine newcell _ _ _ _ _ _ ?_ rfl; simp; done) | refine keepcell (by with_reducible assumption) ?_ | refine keepdrew ?_ | refine keepalloc ?_ _))
      replace hB2 : Below w.heap.size w y7 := by (repeat (first | with_reducible exact Below.refl _ _ | with_reducible assumption | (with_reducible refine btrans ?_ (by with_reducible assumption)) | with_reducible refine bdrew ?_ | with_reducible refine balloc ?_ _))
      clear hc7 n6_0 n6_1 n6_2 n6_3 n6_4 n6_5 n6_6 n6_7 n6_8 n6_9 n6_10 n6_11
      go_wp2_with fail
      refine (J1.out _).mono ?_
      rintro e y8 ⟨rfl, hc8⟩
      have n8_0 := keepcell hc8 n7_0
      have n8_1 := keepcell hc8 n7_1
      have n8_2 := keepcell hc8 n7_2
      have n8_3 := keepcell hc8 n7_3
      have n8_4 := keepcell hc8 n7_4
      have n8_5 := keepcell hc8 n7_5
      have n8_6 := keepcell hc8 n7_6
      have n8_7 := keepcell hc8 n7_7
      have n8_8 := keepcell hc8 n7_8
      have n8_9 := keepcell hc8 n7_9
      have n8_10 := keepcell hc8 n7_10
      have n8_11 := keepcell hc8 n7_11
      replace hB2 := btrans hB2 hc8
      clear hc8 n7_0 n7_1 n7_2 n7_3 n7_4 n7_5 n7_6 n7_7 n7_8 n7_9 n7_10 n7_11
      go_wp2_with fail
      refine (J2.out _).mono ?_
      rintro e y9 ⟨rfl, hc9⟩
      have n9_0 := keepcell hc9 n8_0
      have n9_1 := keepcell hc9 n8_1
      have n9_2 := keepcell hc9 n8_2
      have n9_3 := keepcell hc9 n8_3
      have n9_4 := keepcell hc9 n8_4
      have n9_5 := keepcell hc9 n8_5
      have n9_6 := keepcell hc9 n8_6
      have n9_7 := keepcell hc9 n8_7
      have n9_8 := keepcell hc9 n8_8
      have n9_9 := keepcell hc9 n8_9
      have n9_10 := keepcell hc9 n8_10
      have n9_11 := keepcell hc9 n8_11
      replace hB2 := btrans hB2 hc9
      clear hc9 n8_0 n8_1 n8_2 n8_3 n8_4 n8_5 n8_6 n8_7 n8_8 n8_9 n8_10 n8_11
      go_wp2_with fail
      go_ret
      exact ⟨rfl, by (repeat (first | with_reducible exact Below.refl _ _ | with_reducible assumption | (with_reducible refine btrans ?_ (by with_reducible assumption)) | with_reducible refine bdrew ?_ | with_reducible refine balloc ?_ _))⟩
  · skip
    obtain ⟨k1, k2, k3⟩ := L.out rfl
    subst k1 k2
    have h7 := fun w => impl_BoxMeets ua ub uc ud va vb vc vd w
    rw [k3] at h7
    have H7 := hid h7
    clear h7 k3
    go_wp2_with fail
    refine (H7.out _).mono ?_
    rintro e y7 ⟨rfl, hc7⟩
    have n7_0 : y7.cell? ⟨w1.heap.size, 0, none⟩ = some (.int .i64 ax) := by (repeat (first | with_reducible assumption | (refine newcell _ _ _ _ _ _ ?_ rfl; simp; done) | refine keepcell (by with_reducible assumption) ?_ | refine keepdrew ?_ | refine keepalloc ?_ _))
    have n7_1 : y7.cell? ⟨w1.heap.size, 1, none⟩ = some (.int .i64 ay) := by (repeat (first | with_reducible assumption | (refine newcell _ _ _ _ _ _ ?_ rfl; simp; done) | refine keepcell (by with_reducible assumption) ?_ | refine keepdrew ?_ | refine keepalloc ?_ _))
    have n7_2 : y7.cell? ⟨w1.heap.size + 1, 0, none⟩ = some (.int .i64 bx) := by (repeat (first | with_reducible assumption | (refine newcell _ _ _ _ _ _ ?_ rfl; simp; done) | refine keepcell (by with_reducible assumption) ?_ | refine keepdrew ?_ | refine keepalloc ?_ _))
    have n7_3 : y7.cell? ⟨w1.heap.size + 1, 1, none⟩ = some (.int .i64 bY) := by (repeat (first | with_reducible assumption | (refine newcell _ _ _ _ _ _ ?_ rfl; simp; done) | refine keepcell (by with_reducible assumption) ?_ | refine keepdrew ?_ | refine keepalloc ?_ _))
    have n7_4 : y7.cell? ⟨w1.heap.size + 1 + 1, 0, none⟩ = some (.int .i64 cx) := by (repeat (first | with_reducible assumption | (refine newcell _ _ _ _ _ _ ?_ rfl; simp; done) | refine keepcell (by with_reducible assumption) ?_ | refine keepdrew ?_ | refine keepalloc ?_ _))
    have n7_5 : y7.cell? ⟨w1.heap.size + 1 + 1, 1, none⟩ = some (.int .i64 cy) := by (repeat (first | with_reducible assumption | (refine newcell _ _ _ _ _ _ ?_ rfl; simp; done) | refine keepcell (by with_reducible assumption) ?_ | refine keepdrew ?_ | refine keepalloc ?_ _))
    have n7_6 : y7.cell? ⟨w1.heap.size + 1 + 1 + 1, 0, none⟩ = some (.int .i64 dx) := by (repeat (first | with_reducible assumption | (refine newcell _ _ _ _ _ _ ?_ rfl; simp; done) | refine keepcell (by with_reducible assumption) ?_ | refine keepdrew ?_ | refine keepalloc ?_ _))
    have n7_7 : y7.cell? ⟨w1.heap.size + 1 + 1 + 1, 1, none⟩ = some (.int .i64 dy) := by (repeat (first | with_reducible assumption | (refine newcell _ _ _ _ _ _ ?_ rfl; simp; done) | refine keepcell (by with_reducible assumption) ?_ | refine keepdrew ?_ | refine keepalloc ?_ _))
    have n7_8 : y7.cell? ⟨y5.heap.size, 0, none⟩ = some (.int .i64 ua) := by (repeat (first | with_reducible assumption | (refine newcell _ _ _ _ _ _ ?_ rfl; simp; done) | refine keepcell (by with_reducible assumption) ?_ | refine keepdrew ?_ | refine keepalloc ?_ _))
    have n7_9 : y7.cell? ⟨y5.heap.size, 1, none⟩ = some (.int .i64 ub) := by (repeat (first | with_reducible assumption | (refine newcell _ _ _ _ _ _ ?_ rfl; simp; done) | refine keepcell (by with_reducible assumption) ?_ | refine keepdrew ?_ | refine keepalloc ?_ _))
    have n7_10 : y7.cell? ⟨y5.heap.size, 2, none⟩ = some (.int .i64 uc) := by (repeat (first | with_reducible assumption | (refine newcell _ _ _ _ _ _ ?_ rfl; simp; done) | refine keepcell (by with_reducible assumption) ?_ | refine keepdrew ?_ | refine keepalloc ?_ _))
    have n7_11 : y7.cell? ⟨y5.heap.size, 3, none⟩ = some (.int .i64 ud) := by (repeat (first | with_reducible assumption | (refine newcell _ _ _ _ _ _ ?_ rfl; simp; done) | refine keepcell (by with_reducible assumption) ?_ | refine keepdrew ?_ | refine keepalloc ?_ _))
    have n7_12 : y7.cell? ⟨y6.heap.size, 0, none⟩ = some (.int .i64 va) := by (repeat (first | with_reducible assumption | (refine newcell _ _ _ _ _ _ ?_ rfl; simp; done) | refine keepcell (by with_reducible assumption) ?_ | refine keepdrew ?_ | refine keepalloc ?_ _))
    have n7_13 : y7.cell? ⟨y6.heap.size, 1, none⟩ = some (.int .i64 vb) := by (repeat (first | with_reducible assumption | (refine newcell _ _ _ _ _ _ ?_ rfl; simp; done) | refine keepcell (by with_reducible assumption) ?_ | refine keepdrew ?_ | refine keepalloc ?_ _))
    have n7_14 : y7.cell? ⟨y6.heap.size, 2, none⟩ = some (.int .i64 vc) := by (repeat (first | with_reducible assumption | (refine newcell _ _ _ _ _ _ ?_ rfl; simp; done) | refine keepcell (by with_reducible assumption) ?_ | refine keepdrew ?_ | refine keepalloc ?_ _))
    have n7_15 : y7.cell? ⟨y6.heap.size, 3, none⟩ = some (.int .i64 vd) := by (repeat (first | with_reducible assumption | (refine newcell _ _ _ _ _ _ ?_ rfl; simp; done) | refine keepcell (by with_reducible assumption) ?_ | refine keepdrew ?_ | refine keepalloc ?_ _))
    replace hB2 : Below w.heap.size w y7 := by (repeat (first | with_reducible exact Below.refl _ _ | with_reducible assumption | (with_reducible refine btrans ?_ (by with_reducible assumption)) | with_reducible refine bdrew ?_ | with_reducible refine balloc ?_ _))
    clear hc7 n6_0 n6_1 n6_2 n6_3 n6_4 n6_5 n6_6 n6_7 n6_8 n6_9 n6_10 n6_11
    obtain ⟨e1, e2, e3⟩ := L2.out (by simp)
    have h0 := fun w => impl_SM ax ay bx bY ax ay bx bY w
    rw [e1] at h0
    have J0 := hid h0
    clear h0 e1
    have h1 := fun w => impl_SM ax ay bx bY bx bY bx bY w
    rw [e2] at h1
    have J1 := hid h1
    clear h1 e2
    have h2 := fun w => impl_SM ax ay ax ay ax ay bx bY w
    rw [e3] at h2
    have J2 := hid h2
    clear h2 e3
    go_wp2_with fail
    refine (J0.out _).mono ?_
    rintro e y8 ⟨rfl, hc8⟩
    have n8_0 := keepcell hc8 n7_0
    have n8_1 := keepcell hc8 n7_1
    have n8_2 := keepcell hc8 n7_2
    have n8_3 := keepcell hc8 n7_3
    have n8_4 := keepcell hc8 n7_4
    have n8_5 := keepcell hc8 n7_5
    have n8_6 := keepcell hc8 n7_6
    have n8_7 := keepcell hc8 n7_7
    have n8_8 := keepcell hc8 n7_8
    have n8_9 := keepcell hc8 n7_9
    have n8_10 := keepcell hc8 n7_10
    have n8_11 := keepcell hc8 n7_11
    have n8_12 := keepcell hc8 n7_12
    have n8_13 := keepcell hc8 n7_13
    have n8_14 := keepcell hc8 n7_14
    have n8_15 := keepcell hc8 n7_15
    replace hB2 := btrans hB2 hc8
    clear hc8 n7_0 n7_1 n7_2 n7_3 n7_4 n7_5 n7_6 n7_7 n7_8 n7_9 n7_10 n7_11 n7_12 n7_13 n7_14 n7_15
    go_wp2_with fail
    refine (J1.out _).mono ?_
    rintro e y9 ⟨rfl, hc9⟩
    have n9_0 := keepcell hc9 n8_0
    have n9_1 := keepcell hc9 n8_1
    have n9_2 := keepcell hc9 n8_2
    have n9_3 := keepcell hc9 n8_3
    have n9_4 := keepcell hc9 n8_4
    have n9_5 := keepcell hc9 n8_5
    have n9_6 := keepcell hc9 n8_6
    have n9_7 := keepcell hc9 n8_7
    have n9_8 := keepcell hc9 n8_8
    have n9_9 := keepcell hc9 n8_9
    have n9_10 := keepcell hc9 n8_10
    have n9_11 := keepcell hc9 n8_11
    have n9_12 := keepcell hc9 n8_12
    have n9_13 := keepcell hc9 n8_13
    have n9_14 := keepcell hc9 n8_14
    have n9_15 := keepcell hc9 n8_15
    replace hB2 := btrans hB2 hc9
    clear hc9 n8_0 n8_1 n8_2 n8_3 n8_4 n8_5 n8_6 n8_7 n8_8 n8_9 n8_10 n8_11 n8_12 n8_13 n8_14 n8_15
    go_wp2_with fail
    refine (J2.out _).mono ?_
    rintro e y10 ⟨rfl, hc10⟩
    have n10_0 := keepcell hc10 n9_0
    have n10_1 := keepcell hc10 n9_1
    have n10_2 := keepcell hc10 n9_2
    have n10_3 := keepcell hc10 n9_3
    have n10_4 := keepcell hc10 n9_4
    have n10_5 := keepcell hc10 n9_5
    have n10_6 := keepcell hc10 n9_6
    have n10_7 := keepcell hc10 n9_7
    have n10_8 := keepcell hc10 n9_8
    have n10_9 := keepcell hc10 n9_9
    have n10_10 := keepcell hc10 n9_10
    have n10_11 := keepcell hc10 n9_11
    have n10_12 := keepcell hc10 n9_12
    have n10_13 := keepcell hc10 n9_13
    have n10_14 := keepcell hc10 n9_14
    have n10_15 := keepcell hc10 n9_15
    replace hB2 := btrans hB2 hc10
    clear hc10 n9_0 n9_1 n9_2 n9_3 n9_4 n9_5 n9_6 n9_7 n9_8 n9_9 n9_10 n9_11 n9_12 n9_13 n9_14 n9_15
    go_wp2_with fail
    go_ret
    exact ⟨rfl, by (repeat (first | with_reducible exact Below.refl _ _ | with_reducible assumption | (with_reducible refine btrans ?_ (by with_reducible assumption)) | with_reducible refine bdrew ?_ | with_reducible refine balloc ?_ _))⟩
set_option maxRecDepth 100000 in
theorem lifted (os : Os) (started : os.Started) (H : Type) (enc : TypeId × Value → H) :
    ReturnsInHanded {} Try.checked os 5 .any (Rows.fnSidesSpec.pre6 enc Try.prog Try.f5 Rows.fnSidesRow.domain false) (Rows.fnSidesSpec.post enc Try.prog Try.f5 false true false false) := by
  refine returnsInHanded_of_change (C := Try.checked) own started (by kernel_rfl) Try.func5
    (ChangeSpec.witness6 (enc := enc) (C := Try.checked) false ⟨#[], #[.slice none 0 0], []⟩ 8 (by kernel_rfl) (by kernel_rfl) (by kernel_rfl) (by kernel_rfl)) ?_
  intro W base args ds gs before hval0 hW hcnd _
  have hval : ∀ (j : Nat) t v, Try.f5.params[j]? = some t → args[j]? = some v → Value.okWide Try.prog W .any base t v := hval0
  have hW' := hW
  obtain ⟨p, q, hA0, hV, rfl, hfz, hnd⟩ := hW
  have hA : DataW.TrodAll enc Try.prog W 0 (fun _ => true) true Try.f5.params.toList args.toList ds p := hA0
  rw [Try.params5] at hA hval
  obtain ⟨v0, vs0, d0, ds0, p0, q0, hargs, rfl, rfl, h0, r0⟩ := trodAll_cons hA
  obtain ⟨rfl, rfl, rfl⟩ := trodAll_nil r0
  obtain rfl : args = #[v0] := by cases args; simp_all
  obtain ⟨rfl, rfl⟩ := trodVars_none hV
  have k0 := h0
  have lt0 : ∀ x ∈ p0, x.block < W.heap.size := by obtain ⟨m, hm⟩ := k0; exact DataW.trod_lt m _ _ _ hm
  obtain ⟨a0, len0, cap0, rfl⟩ := okWide_slice Try.underlying22 (hval 0 22 v0 rfl rfl)
  obtain ⟨z0, w0⟩ : ∃ zs, IsRow .u8 W a0 len0 cap0 zs := by
    obtain ⟨fuel, hf⟩ := h0
    rcases open_ints Try.underlying22 Try.underlying5 (by kernel_rfl) hf with ⟨hcs, _⟩ | ⟨x, l, c, zs, hcs, _, hl, hm, hz, _, hcell, hwz⟩
    · simp [Value.cells] at hcs
      obtain ⟨rfl, rfl, rfl⟩ := hcs
      exact ⟨[], .inl ⟨rfl, rfl, rfl, rfl⟩⟩
    · simp [Value.cells] at hcs
      obtain ⟨rfl, rfl, rfl⟩ := hcs
      exact ⟨zs, .inr ⟨_, rfl, hl, hm, by simpa using hz, hcell, hwz⟩⟩
  clear hA0 hval0
  refine (walk a0 len0 cap0 z0 W w0).mono fun e W' ⟨he, bel⟩ => ?_
  subst he
  exact ⟨_, rfl, _, _, _, [], _, [], hW', trodAll_mk1 (shut_bool Try.underlying4 _), (trodAll_cons_mk (Below.trod laidOut (by kernel_rfl) (of_decide_eq_true (by kernel_rfl)) k0 bel lt0) trodAll_mk0), rfl, bel.frame _, fun h => by cases h⟩
theorem band {a b : Bool} (h1 : a = true) (h2 : b = true) : (a && b) = true := by rw [h1, h2]; rfl
set_option maxRecDepth 100000 in
theorem q1 : (Rows.fnSidesRow.wf (OpenSpec.ofChange Rows.fnSidesSpec)) = true := by kernel_rfl
set_option maxRecDepth 100000 in
theorem q2 : (laidOutB Try.pinned.checked.prog) = true := sh2
set_option maxRecDepth 100000 in
theorem q3 : (mapsRowed Try.pinned.checked.prog) = true := sh3
set_option maxRecDepth 100000 in
theorem q4 : (Try.f5.params.all (Try.pinned.checked.prog.readableRec ·)) = true := by kernel_rfl
set_option maxRecDepth 100000 in
theorem q5 : (namedTie Try.pinned.checked.prog Rows.fnSidesRow.named Rows.fnSidesSpec.vars) = true := by kernel_rfl
set_option maxRecDepth 100000 in
theorem q6 : ((Rows.fnSidesRow.stops == [])) = true := by kernel_rfl
set_option maxRecDepth 100000 in
theorem q7 : ((Try.pinned.checked.prog.stops == [])) = true := sh7
set_option maxRecDepth 100000 in
theorem q8 : ((Rows.fnSidesRow.knobs == [])) = true := by kernel_rfl
set_option maxRecDepth 100000 in
theorem q9 : ((Try.pinned.checked.prog.stopKnobs == [])) = true := sh9
set_option maxRecDepth 100000 in
theorem q10 : ((Rows.fnSidesRow.inPlace == Try.pinned.checked.prog.inPlace 5)) = true := by kernel_rfl
set_option maxRecDepth 100000 in
theorem q11 : ((Rows.fnSidesRow.unfollowed == Try.pinned.checked.prog.unfollowed 5)) = true := by kernel_rfl
set_option maxRecDepth 100000 in
theorem q12 : ((Rows.fnSidesRow.recurses == Try.pinned.checked.prog.recurses 5)) = true := by kernel_rfl
set_option maxRecDepth 100000 in
theorem q13 : ((Rows.fnSidesRow.named == Try.pinned.checked.prog.varsNamed 5)) = true := by kernel_rfl
set_option maxRecDepth 100000 in
theorem q14 : ((Rows.fnSidesRow.maps == (Try.f5.params.toList ++ Rows.fnSidesSpec.plain.varTypes Try.pinned.checked.prog).any (Try.pinned.checked.prog.mapsRec ·))) = true := by kernel_rfl
set_option maxRecDepth 100000 in
theorem q15 : ((Rows.fnSidesRow.ifaces == (Try.f5.params.toList ++ Rows.fnSidesSpec.plain.varTypes Try.pinned.checked.prog).any (Try.pinned.checked.prog.ifacesRec ·))) = true := by kernel_rfl
set_option maxRecDepth 100000 in
theorem q16 : ((Rows.fnSidesRow.mapsOut == Try.pinned.checked.prog.mapsAmong Try.f5.resultTypes.toList)) = true := by kernel_rfl
set_option maxRecDepth 100000 in
theorem q17 : ((Rows.fnSidesRow.loops == (Try.f5.params.toList ++ Rows.fnSidesSpec.plain.varTypes Try.pinned.checked.prog).any (Try.pinned.checked.prog.loopsFrom ·))) = true := by kernel_rfl
set_option maxRecDepth 100000 in
theorem q18 : ((Rows.fnSidesRow.wideKeys == (Try.f5.params.toList ++ Rows.fnSidesSpec.plain.varTypes Try.pinned.checked.prog ++ Try.f5.resultTypes.toList).any (Try.pinned.checked.prog.wideKeysFrom ·))) = true := by kernel_rfl
set_option maxRecDepth 100000 in
theorem q19 : (Rows.fnSidesSpec.vars.all (Try.pinned.checked.prog.varReadable ·)) = true := by kernel_rfl
set_option maxRecDepth 100000 in
theorem q20 : (Try.f5.resultTypes.all (fun t => Try.pinned.checked.prog.readableRec t && decide (t < Try.pinned.checked.prog.types.size))) = true := by kernel_rfl
set_option maxRecDepth 100000 in
theorem q21 : ((Rows.fnSidesRow.ifacesOut == Try.f5.resultTypes.toList.any (Try.pinned.checked.prog.ifacesRec ·))) = true := by kernel_rfl
set_option maxRecDepth 100000 in
theorem q22 : ((Rows.fnSidesRow.loopsOut == Try.f5.resultTypes.toList.any (Try.pinned.checked.prog.loopsFrom ·))) = true := by kernel_rfl
set_option maxRecDepth 100000 in
theorem q23 : ((Rows.fnSidesRow.plainKeys == Try.pinned.checked.prog.plainKeys)) = true := sh23
set_option maxRecDepth 100000 in
theorem q24 : (Rows.fnSidesRow.shortTexts.isNone) = true := by kernel_rfl
set_option maxRecDepth 100000 in
theorem q25 : (Try.pinned.checked.prog.stopsHeard) = true := sh25
set_option maxRecDepth 100000 in
theorem q26 : (Try.pinned.checked.prog.mayEnter) = true := sh26
set_option maxRecDepth 100000 in
theorem q27 : ((Rows.fnSidesRow.lifted == Try.pinned.checked.prog.liftsFinal)) = true := sh27
set_option maxRecDepth 100000 in
theorem q28 : ((Try.pinned.checked.prog.make == some Rows.fnSidesRow.make)) = true := sh28
set_option maxRecDepth 100000 in
theorem q29 : ((Rows.fnSidesRow.kinds == (if Rows.fnSidesRow.domain.isEmpty then [] else Try.f5.params.toList.map fun t => match Try.pinned.checked.prog.underlying t with | some (.int k) => some k | _ => none))) = true := by kernel_rfl
set_option maxRecDepth 100000 in
theorem q30 : ((Rows.fnSidesRow.pinned == Rows.fnSidesRow.pinnedBy)) = true := by kernel_rfl
set_option maxRecDepth 100000 in
theorem q31 : ((Rows.fnSidesRow.veiled == (Try.f5.params.toList ++ Rows.fnSidesSpec.plain.varTypes Try.pinned.checked.prog ++ Try.f5.resultTypes.toList).any (Try.pinned.checked.prog.veiledRec ·))) = true := by kernel_rfl
set_option maxRecDepth 100000 in
theorem q32 : (Rows.fnSidesRow.veiledFits Try.pinned.checked.prog Try.f5.params.toList (Try.f5.params.toList ++ Rows.fnSidesSpec.plain.varTypes Try.pinned.checked.prog ++ Try.f5.resultTypes.toList)) = true := by kernel_rfl
set_option maxRecDepth 100000 in
theorem closed : joinedFacts Try.pinned.checked.prog 5 Try.f5 Rows.fnSidesSpec Rows.fnSidesRow = true := by
  unfold joinedFacts
  exact (band (band (band (band (band (band (band (band (band (band (band (band (band (band (band (band (band (band (band (band (band (band (band (band (band (band (band (band (band (band (band q1 q2) q3) q4) q5) q6) q7) q8) q9) q10) q11) q12) q13) q14) q15) q16) q17) q18) q19) q20) q21) q22) q23) q24) q25) q26) q27) q28) q29) q30) q31) q32)
set_option maxRecDepth 100000 in
theorem over : Rows.fnSidesRow.holds Try.pinned (OpenSpec.ofChange Rows.fnSidesSpec) :=
  OpenClaim.holds_of_wide 5 Try.f5 rfl rfl rfl rfl rfl rfl rfl ⟨rfl, rfl, rfl, rfl, rfl⟩ rfl rfl rfl rfl rfl (by kernel_rfl) Try.func5 closed
    (of_decide_eq_true (by kernel_rfl)) (by unfold Func.isWrapper; first | (rw [if_pos (by decide +kernel)]; kernel_rfl) | (rw [if_neg (by decide +kernel)]; exact ⟨rfl, rfl⟩))
    (fun os started H enc _ => lifted os started H enc)
end Go.Proofs.Ytkncdncpgjpemaa.fnSides
namespace Go.Proofs.Ytkncdncpgjpemaa
theorem fnSides_holds : Rows.FnSidesSaid := fnSides.over
#print axioms fnSides_holds
end Go.Proofs.Ytkncdncpgjpemaa
