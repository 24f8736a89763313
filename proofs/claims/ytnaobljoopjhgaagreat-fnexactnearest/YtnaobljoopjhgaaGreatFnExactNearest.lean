/- FnExactNearest: at every argument Nearest of the landed program answers as the specification, writes into no argument, and its answer owns its memory; with nothing left out. -/
import Derived.Test.YtnaobljoopjhgaaGreatRows
import Derived.Test.YtnaobljoopjhgaaGreatFacts
import Derived.Test.YtnaobljoopjhgaaGreatJ4
import Derived.Test.YtnaobljoopjhgaaGreatRwE
import Derived.WalkKit
import Derived.Deep.DeepCutAuto
import Derived.ProofKit
import Derived.OpenShut
import Derived.ShutString
import Derived.ChangeOld
import Derived.Below
import Derived.Carry
import Derived.Lib.SmallJoins
import Derived.Deep.SlicePairs
namespace Go.Proofs.YtnaobljoopjhgaaGreat.fnExactNearest
open Go.ChangeShapes Go.WideShapes Go.ChangeAt Go.RowKit Go.Joins
set_option linter.unusedVariables false
set_option linter.unusedSimpArgs false
theorem own : ownKnob Tryz.prog.godebug = none := by kernel_rfl
theorem laidOut : laidOutB Tryz.prog = true := by kernel_rfl
theorem cells24 : Tryz.prog.cellsOf 24 = 2 := by kernel_rfl
theorem cells26 : Tryz.prog.cellsOf 26 = 2 := by kernel_rfl
set_option maxRecDepth 100000 in
set_option maxHeartbeats 4000000 in
theorem walk (now0 : Int) (a0 : Option Addr) (cap0 : Nat) (rs0 : List Rw) (a1 : Int) (x2 y2 : Int) (a3 : Int) (w : World) (wnow0 : (Lit.int .i64 now0).wf = true) (hl0 : rs0.length ≤ 9223372036854775807) (w0 : RwsL w a0 rs0) (w1 : (Lit.int .i64 a1).wf = true) (wx2 : (Lit.int .i64 x2).wf = true) (wy2 : (Lit.int .i64 y2).wf = true) (w3 : (Lit.int .i64 a3).wf = true) :
    Calls Tryz.prog 3 #[.agg #[.int .i64 now0, .slice a0 rs0.length cap0], .int .i64 a1, .agg #[.int .i64 x2, .int .i64 y2], .int .i64 a3] w fun e w' => e = .returned (.bool true) ∧ Below w.heap.size w w' := by
  clear wnow0 w1 wx2 wy2 w3
  have HR0 := hid w0
  clear w0
  go_enter Tryz.func3, Tryz.ntmps3
  go_wp2_with fail
  refine (sz_allL now0 a0 cap0 rs0 _ hl0 (HR0.out.below (by show Below _ _ _; (repeat (first | with_reducible exact Below.refl _ _ | with_reducible assumption | (with_reducible refine btrans ?_ (by with_reducible assumption)) | with_reducible refine bdrew ?_ | with_reducible refine balloc ?_ _))))).mono ?_
  rintro e y0 ⟨⟨v, rfl, hv⟩, hb1⟩
  have c0 : y0.cell? ⟨w.heap.size, 0, none⟩ = some (.int .i64 now0) := by (repeat (first | with_reducible assumption | (refine newcell _ _ _ _ _ _ ?_ rfl; simp; done) | refine keepcell (by with_reducible assumption) ?_ | refine keepdrew ?_ | refine keepalloc ?_ _))
  have c1 : y0.cell? ⟨w.heap.size, 1, none⟩ = some (.slice a0 rs0.length cap0) := by (repeat (first | with_reducible assumption | (refine newcell _ _ _ _ _ _ ?_ rfl; simp; done) | refine keepcell (by with_reducible assumption) ?_ | refine keepdrew ?_ | refine keepalloc ?_ _))
  have c2 : y0.cell? ⟨w.heap.size + 1, 0, none⟩ = some (.int .i64 x2) := by (repeat (first | with_reducible assumption | (refine newcell _ _ _ _ _ _ ?_ rfl; simp; done) | refine keepcell (by with_reducible assumption) ?_ | refine keepdrew ?_ | refine keepalloc ?_ _))
  have c3 : y0.cell? ⟨w.heap.size + 1, 1, none⟩ = some (.int .i64 y2) := by (repeat (first | with_reducible assumption | (refine newcell _ _ _ _ _ _ ?_ rfl; simp; done) | refine keepcell (by with_reducible assumption) ?_ | refine keepdrew ?_ | refine keepalloc ?_ _))
  have hB2 : Below w.heap.size w y0 := by (repeat (first | with_reducible exact Below.refl _ _ | with_reducible assumption | (with_reducible refine btrans ?_ (by with_reducible assumption)) | with_reducible refine bdrew ?_ | with_reducible refine balloc ?_ _))
  rcases hv with rfl | ⟨hv0, hv1, HV⟩
  · go_wp2_with fail
    go_ret
    exact ⟨rfl, hB2⟩
  have hv2 : ¬ v < 0 := by omega
  have HP := hid (HR0.out.rws HV.out.2)
  have hm' : rs0.length ≤ 1099511627776 := by have := HV.out.1; omega
  clear hb1 HR0
  have CS := hid (fun (b : Nat) w' (hw : Rws (fun c => b < c) w' (some ⟨b, 0, none⟩) rs0) => (spec_Nearest now0 (some ⟨b, 0, none⟩) rs0.length rs0 a1 x2 y2 a3 w' hm' hw).mono (fun _ _ h => h.ia))
  have CI := hid (fun (b : Nat) w' (hw : Rws (fun c => b < c) w' (some ⟨b, 0, none⟩) rs0) => impl_Nearest now0 (some ⟨b, 0, none⟩) rs0.length rs0 a1 x2 y2 a3 w' hm' hw)
  have hql : (nrb now0 rs0 a1 x2 y2 a3).length ≤ 300 := nrb_len now0 rs0 a1 x2 y2 a3
  unfold IA at CS CI
  generalize nrb now0 rs0 a1 x2 y2 a3 = qs at *
  have hqm : qs.length ≤ 1099511627776 := by omega
  have Q0 := hid (HP.out.below hB2)
  have hw0 : w.heap.size + 1 < y0.heap.size := World.block_lt_of_cell? y0 _ c2
  go_wp2_with fail
  refine wp_region_held_drew (S := (fun w' => w'.cell? ⟨w.heap.size, 0, none⟩ = some (.int .i64 now0) ∧ w'.cell? ⟨w.heap.size, 1, none⟩ = some (.slice a0 rs0.length cap0) ∧ w'.cell? ⟨w.heap.size + 1, 0, none⟩ = some (.int .i64 x2) ∧ w'.cell? ⟨w.heap.size + 1, 1, none⟩ = some (.int .i64 y2))) (by kernel_rfl) ?_ (fun hHeld => ?_)
  · (repeat' apply And.intro) <;> (repeat (first | with_reducible assumption | with_reducible refine keepdrew ?_ | with_reducible refine keepcell (by with_reducible assumption) ?_ | with_reducible refine keepalloc ?_ _))
  refine wpAnyH_take (i := 0) (v := ?_) rfl (by kernel_rfl) (by kernel_rfl) (by kernel_rfl) (fun _ _ _ h => h) (Or.inl ⟨by rfl, ?_⟩) hHeld ?_
  rotate_left
  · intro w hSw; (try dsimp only at hSw); go_simp; try (with_reducible rfl)
  try simp only [sq]
  refine wpAnyH_take (i := 2) (v := ?_) rfl (by kernel_rfl) (by kernel_rfl) (by kernel_rfl) (fun _ _ _ h => h) (Or.inl ⟨by rfl, ?_⟩) hHeld ?_
  rotate_left
  · intro w hSw; (try dsimp only at hSw); go_simp; try (with_reducible rfl)
  try simp only [sq]
  refine wpAnyH_take (i := 3) (v := ?_) rfl (by kernel_rfl) (by kernel_rfl) (by kernel_rfl) (fun _ _ _ h => h) (Or.inl ⟨by rfl, ?_⟩) hHeld ?_
  rotate_left
  · intro w hSw; (try dsimp only at hSw); go_simp; try (with_reducible rfl)
  try simp only [sq]
  refine wpAnyH_take (i := 5) (v := ?_) rfl (by kernel_rfl) (by kernel_rfl) (by kernel_rfl) (fun _ _ _ h => h) (Or.inl ⟨by rfl, ?_⟩) hHeld ?_
  rotate_left
  · intro w hSw; (try dsimp only at hSw); go_simp; try (with_reducible rfl)
  try simp only [sq]
  refine wpAnyH_ready (rs := [1]) (by kernel_rfl) (by simp) ?_
  refine AllReadyH.cons rfl (fun K hK => ?_) AllReadyH.nil
  try simp only [sq]
  go_simp
  (first
      | (go_at_call 6; refine (to_rows now0 a0 cap0 rs0 _ hm' (Q0.out.below (by (repeat (first | with_reducible exact Below.refl _ _ | with_reducible assumption | (with_reducible refine btrans ?_ (by with_reducible assumption)) | with_reducible refine bdrew ?_ | with_reducible refine balloc ?_ _))))).mono ?_; rintro e j1 ⟨b1, rfl, hg1, hl1, ho1, hm1⟩; have T1 := hid (show Rws (fun c => b1 < c) j1 (some ⟨b1, 0, none⟩) rs0 from .inr ⟨b1, 0, rfl, hl1, ho1⟩); clear ho1))
  go_wp2_with fail
  refine hK.out _ _ ?_ (fun hHeld => ?_)
  · (repeat' apply And.intro) <;> (repeat (first | with_reducible assumption | with_reducible refine keepdrew ?_ | with_reducible refine keepcell (by with_reducible assumption) ?_ | with_reducible refine keepalloc ?_ _))
  clear hK K
  try simp only [sq]
  refine wpAnyH_ready (rs := [4]) (by kernel_rfl) (by simp) ?_
  refine AllReadyH.cons rfl (fun K hK => ?_) AllReadyH.nil
  try simp only [sq]
  go_simp
  (first
      | (go_at_call 7; refine (to_point_b x2 y2 _).mono ?_; rintro e j2 ⟨rfl, hm2⟩))
  go_wp2_with fail
  refine hK.out _ _ ?_ (fun hHeld => ?_)
  · (repeat' apply And.intro) <;> (repeat (first | with_reducible assumption | with_reducible refine keepdrew ?_ | with_reducible refine keepcell (by with_reducible assumption) ?_ | with_reducible refine keepalloc ?_ _))
  clear hK K
  try simp only [sq]
  refine wpAnyH_ready (rs := [6]) (by kernel_rfl) (by simp) ?_
  refine AllReadyH.cons rfl (fun K hK => ?_) AllReadyH.nil
  try simp only [sq]
  go_simp
  (first
      | (refine (CS.out b1 _ (T1.out.below hm2)).mono ?_; rintro e j3 ⟨sa, sc, rfl, hso, hsb, hm3⟩))
  go_wp2_with fail
  refine hK.out _ _ ?_ (fun hHeld => ?_)
  · (repeat' apply And.intro) <;> (repeat (first | with_reducible assumption | with_reducible refine keepdrew ?_ | with_reducible refine keepcell (by with_reducible assumption) ?_ | with_reducible refine keepalloc ?_ _))
  clear hK K
  try simp only [sq]
  refine wpAnyH_take (i := 7) (v := ?_) rfl (by kernel_rfl) (by kernel_rfl) (by kernel_rfl) (fun _ _ _ h => h) (Or.inl ⟨by rfl, ?_⟩) hHeld ?_
  rotate_left
  · intro w hSw; (try dsimp only at hSw); go_simp; try (with_reducible rfl)
  try simp only [sq]
  refine wpAnyH_done (by kernel_rfl) ?_ _
  have hY : Below y0.heap.size y0 j3 := by (repeat (first | with_reducible exact Below.refl _ _ | with_reducible assumption | (with_reducible refine btrans ?_ (by with_reducible assumption)) | with_reducible refine bdrew ?_ | with_reducible refine balloc ?_ _))
  replace c0 := keepcell hY c0
  replace c1 := keepcell hY c1
  replace c2 := keepcell hY c2
  replace c3 := keepcell hY c3
  replace hB2 := btrans hB2 hY
  replace Q0 := hid (Q0.out.below hY)
  clear hY hHeld T1 hg1 hl1 hm1 hm2 hm3
  have S0 := hid hso
  have hw2 : w.heap.size + 1 < j3.heap.size := World.block_lt_of_cell? j3 _ c2
  clear hso hsb
  have hsal := hid (S0.out.lt)
  go_wp2_with fail
  refine (to_rowsO now0 a0 cap0 rs0 _ hm' Q0.out).mono ?_
  rintro e y21 ⟨b3, rfl, hg3, hl3, ho3, ht3, hr3, hc21⟩
  replace Q0 : Hid (Rws (fun _ => True) y21 a0 rs0) := hid (Q0.out.below (show Below j3.heap.size j3 y21 by (repeat (first | with_reducible exact Below.refl _ _ | with_reducible assumption | (with_reducible refine btrans ?_ (by with_reducible assumption)) | with_reducible refine bdrew ?_ | with_reducible refine balloc ?_ _))))
  replace S0 : Hid (OwnI y21 sa qs) := hid (S0.out.below (show Below j3.heap.size j3 y21 by (repeat (first | with_reducible exact Below.refl _ _ | with_reducible assumption | (with_reducible refine btrans ?_ (by with_reducible assumption)) | with_reducible refine bdrew ?_ | with_reducible refine balloc ?_ _))))
  have n21_0 := keepcell hc21 c0
  have n21_1 := keepcell hc21 c1
  have n21_2 := keepcell hc21 c2
  have n21_3 := keepcell hc21 c3
  replace hB2 := btrans hB2 hc21
  clear hc21 c0 c1 c2 c3
  have R3 := hid (show Rws (fun c => b3 < c) y21 (some ⟨b3, 0, none⟩) rs0 from .inr ⟨b3, 0, rfl, hl3, ho3⟩)
  have O3 : Hid (Own3 y21.heap.size y21 b3 rs0) := hid ⟨hl3, Nat.le_refl _, ht3, hr3⟩
  have hg3' : j3.heap.size ≤ b3 := hg3
  clear ho3 hg3 ht3 hr3
  have r21_0 := keepalloc n21_0 (.cells #[.int .i64 now0, .slice (some ⟨b3, 0, none⟩) rs0.length rs0.length] 32)
  have r21_1 := keepalloc n21_1 (.cells #[.int .i64 now0, .slice (some ⟨b3, 0, none⟩) rs0.length rs0.length] 32)
  have r21_2 := keepalloc n21_2 (.cells #[.int .i64 now0, .slice (some ⟨b3, 0, none⟩) rs0.length rs0.length] 32)
  have r21_3 := keepalloc n21_3 (.cells #[.int .i64 now0, .slice (some ⟨b3, 0, none⟩) rs0.length rs0.length] 32)
  go_wp2_with fail
  have hal3 : Below y21.heap.size y21 (y21.alloc (.cells #[.int .i64 now0, .slice (some ⟨b3, 0, none⟩) rs0.length rs0.length] 32)) := balloc (Below.refl _ _) _
  have gR := new_alloc y21 y21.heap.size (.cells #[.int .i64 now0, .slice (some ⟨b3, 0, none⟩) rs0.length rs0.length] 32) rfl
  obtain ⟨z0, z1, _, _⟩ := cell2r gR
  clear gR
  have u0 := keepcell hal3 n21_0
  clear n21_0
  have u1 := keepcell hal3 n21_1
  clear n21_1
  have u2 := keepcell hal3 n21_2
  clear n21_2
  have u3 := keepcell hal3 n21_3
  clear n21_3
  have u4 := z0
  have u5 := z1
  clear z0 z1 r21_0 r21_1 r21_2 r21_3
  replace hB2 := btrans hB2 hal3
  replace Q0 := hid (Q0.out.below hal3)
  replace S0 := hid (S0.out.below hal3)
  replace R3 := hid (R3.out.below hal3)
  replace O3 := hid (O3.out.below hal3)
  have hsz3 := hal3.size
  clear hal3
  generalize hYB : (y21.alloc (.cells #[.int .i64 now0, .slice (some ⟨b3, 0, none⟩) rs0.length rs0.length] 32)) = YB at *
  clear hYB
  have hyb := World.block_lt_of_cell? YB _ u4
  refine wp_region_held_drew (S := (fun w' => w'.cell? ⟨w.heap.size, 0, none⟩ = some (.int .i64 now0) ∧ w'.cell? ⟨w.heap.size, 1, none⟩ = some (.slice a0 rs0.length cap0) ∧ w'.cell? ⟨w.heap.size + 1, 0, none⟩ = some (.int .i64 x2) ∧ w'.cell? ⟨w.heap.size + 1, 1, none⟩ = some (.int .i64 y2) ∧ w'.cell? ⟨y21.heap.size, 0, none⟩ = some (.int .i64 now0) ∧ w'.cell? ⟨y21.heap.size, 1, none⟩ = some (.slice (some ⟨b3, 0, none⟩) rs0.length rs0.length))) (by kernel_rfl) ?_ (fun hHeld => ?_)
  · (repeat' apply And.intro) <;> (repeat (first | with_reducible assumption | with_reducible refine keepdrew ?_ | with_reducible refine keepcell (by with_reducible assumption) ?_ | with_reducible refine keepalloc ?_ _))
  refine wpAnyH_take (i := 0) (v := ?_) rfl (by kernel_rfl) (by kernel_rfl) (by kernel_rfl) (fun _ _ _ h => h) (Or.inl ⟨by rfl, ?_⟩) hHeld ?_
  rotate_left
  · intro w hSw; (try dsimp only at hSw); go_simp; try (with_reducible rfl)
  try simp only [sq]
  refine wpAnyH_take (i := 1) (v := ?_) rfl (by kernel_rfl) (by kernel_rfl) (by kernel_rfl) (fun _ _ _ h => h) (Or.inl ⟨by rfl, ?_⟩) hHeld ?_
  rotate_left
  · intro w hSw; (try dsimp only at hSw); go_simp; try (with_reducible rfl)
  try simp only [sq]
  refine wpAnyH_take (i := 2) (v := ?_) rfl (by kernel_rfl) (by kernel_rfl) (by kernel_rfl) (fun _ _ _ h => h) (Or.inl ⟨by rfl, ?_⟩) hHeld ?_
  rotate_left
  · intro w hSw; (try dsimp only at hSw); go_simp; try (with_reducible rfl)
  try simp only [sq]
  refine wpAnyH_take (i := 4) (v := ?_) rfl (by kernel_rfl) (by kernel_rfl) (by kernel_rfl) (fun _ _ _ h => h) (Or.inl ⟨by rfl, ?_⟩) hHeld ?_
  rotate_left
  · intro w hSw; (try dsimp only at hSw); go_simp; try (with_reducible rfl)
  try simp only [sq]
  refine wpAnyH_ready (rs := [3]) (by kernel_rfl) (by simp) ?_
  refine AllReadyH.cons rfl (fun K hK => ?_) AllReadyH.nil
  try simp only [sq]
  go_simp
  (first
      | (go_at_call 7; refine (to_point_b x2 y2 _).mono ?_; rintro e j4 ⟨rfl, hm4⟩))
  go_wp2_with fail
  refine hK.out _ _ ?_ (fun hHeld => ?_)
  · (repeat' apply And.intro) <;> (repeat (first | with_reducible assumption | with_reducible refine keepdrew ?_ | with_reducible refine keepcell (by with_reducible assumption) ?_ | with_reducible refine keepalloc ?_ _))
  clear hK K
  try simp only [sq]
  refine wpAnyH_ready (rs := [5]) (by kernel_rfl) (by simp) ?_
  refine AllReadyH.cons rfl (fun K hK => ?_) AllReadyH.nil
  try simp only [sq]
  go_simp
  (first
      | (refine (CI.out b3 _ ((R3.out.below (bdrew (Below.refl _ _))).below hm4)).mono ?_; rintro e j5 ⟨ga, gc, rfl, hgo, hgb, hm5⟩))
  go_wp2_with fail
  refine hK.out _ _ ?_ (fun hHeld => ?_)
  · (repeat' apply And.intro) <;> (repeat (first | with_reducible assumption | with_reducible refine keepdrew ?_ | with_reducible refine keepcell (by with_reducible assumption) ?_ | with_reducible refine keepalloc ?_ _))
  clear hK K
  try simp only [sq]
  refine wpAnyH_take (i := 6) (v := ?_) rfl (by kernel_rfl) (by kernel_rfl) (by kernel_rfl) (fun _ _ _ h => h) (Or.inl ⟨by rfl, ?_⟩) hHeld ?_
  rotate_left
  · intro w hSw; (try dsimp only at hSw); go_simp; try (with_reducible rfl)
  try simp only [sq]
  refine wpAnyH_done (by kernel_rfl) ?_ _
  have hY : Below YB.heap.size YB j5 := by (repeat (first | with_reducible exact Below.refl _ _ | with_reducible assumption | (with_reducible refine btrans ?_ (by with_reducible assumption)) | with_reducible refine bdrew ?_ | with_reducible refine balloc ?_ _))
  replace u0 := keepcell hY u0
  replace u1 := keepcell hY u1
  replace u2 := keepcell hY u2
  replace u3 := keepcell hY u3
  replace u4 := keepcell hY u4
  replace u5 := keepcell hY u5
  replace hB2 := btrans hB2 hY
  replace Q0 := hid (Q0.out.below hY)
  replace S0 := hid (S0.out.below hY)
  replace R3 := hid (R3.out.below hY)
  replace O3 := hid (O3.out.below hY)
  have hj4 : y21.heap.size < j4.heap.size := by have h1 := hm4.size; simp at h1 hyb; omega
  clear hY hHeld hm4 hm5 hyb
  have G0 := hid hgo
  have hw4 : y21.heap.size < j5.heap.size := World.block_lt_of_cell? j5 _ u4
  have hgbl := hid hgb
  clear hgo hgb
  go_wp2_with fail
  refine (eq_ints ga sa gc sc qs _ hqm G0.out S0.out).mono ?_
  rintro e y22 ⟨rfl, hc22⟩
  replace Q0 : Hid (Rws (fun _ => True) y22 a0 rs0) := hid (Q0.out.below (show Below j5.heap.size j5 y22 by (repeat (first | with_reducible exact Below.refl _ _ | with_reducible assumption | (with_reducible refine btrans ?_ (by with_reducible assumption)) | with_reducible refine bdrew ?_ | with_reducible refine balloc ?_ _))))
  replace S0 : Hid (OwnI y22 sa qs) := hid (S0.out.below (show Below j5.heap.size j5 y22 by (repeat (first | with_reducible exact Below.refl _ _ | with_reducible assumption | (with_reducible refine btrans ?_ (by with_reducible assumption)) | with_reducible refine bdrew ?_ | with_reducible refine balloc ?_ _))))
  replace R3 : Hid (Rws (fun c => b3 < c) y22 (some ⟨b3, 0, none⟩) rs0) := hid (R3.out.below (show Below j5.heap.size j5 y22 by (repeat (first | with_reducible exact Below.refl _ _ | with_reducible assumption | (with_reducible refine btrans ?_ (by with_reducible assumption)) | with_reducible refine bdrew ?_ | with_reducible refine balloc ?_ _))))
  replace O3 : Hid (Own3 y21.heap.size y22 b3 rs0) := hid (O3.out.below (show Below j5.heap.size j5 y22 by (repeat (first | with_reducible exact Below.refl _ _ | with_reducible assumption | (with_reducible refine btrans ?_ (by with_reducible assumption)) | with_reducible refine bdrew ?_ | with_reducible refine balloc ?_ _))))
  replace G0 : Hid (OwnI y22 ga qs) := hid (G0.out.below (show Below j5.heap.size j5 y22 by (repeat (first | with_reducible exact Below.refl _ _ | with_reducible assumption | (with_reducible refine btrans ?_ (by with_reducible assumption)) | with_reducible refine bdrew ?_ | with_reducible refine balloc ?_ _))))
  have n22_0 := keepcell hc22 u0
  have n22_1 := keepcell hc22 u1
  have n22_2 := keepcell hc22 u2
  have n22_3 := keepcell hc22 u3
  have n22_4 := keepcell hc22 u4
  have n22_5 := keepcell hc22 u5
  replace hB2 := btrans hB2 hc22
  clear hc22 u0 u1 u2 u3 u4 u5
  go_wp2_with fail
  have hgm : ∀ c off, ga = some ⟨c, off, none⟩ → y21.heap.size < c := by
    intro c off e
    have h1 := hgbl.out c off e
    omega
  have hsm : ∀ c off, sa = some ⟨c, off, none⟩ → c < j3.heap.size := hsal.out
  have HGM := hid hgm
  have HSM := hid hsm
  clear hgm hsm hgbl hsal
  generalize j3.heap.size = X2 at *
  generalize y21.heap.size = X3 at *
  refine wp_region_held_drew (S := (fun w' => w'.cell? ⟨w.heap.size, 0, none⟩ = some (.int .i64 now0) ∧ w'.cell? ⟨w.heap.size, 1, none⟩ = some (.slice a0 rs0.length cap0) ∧ w'.cell? ⟨w.heap.size + 1, 0, none⟩ = some (.int .i64 x2) ∧ w'.cell? ⟨w.heap.size + 1, 1, none⟩ = some (.int .i64 y2) ∧ w'.cell? ⟨X3, 0, none⟩ = some (.int .i64 now0) ∧ w'.cell? ⟨X3, 1, none⟩ = some (.slice (some ⟨b3, 0, none⟩) rs0.length rs0.length))) (by kernel_rfl) ?_ (fun hHeld => ?_)
  · (repeat' apply And.intro) <;> (repeat (first | with_reducible assumption | with_reducible refine keepdrew ?_ | with_reducible refine keepcell (by with_reducible assumption) ?_ | with_reducible refine keepalloc ?_ _))
  refine wpAnyH_take (i := 0) (v := ?_) rfl (by kernel_rfl) (by kernel_rfl) (by kernel_rfl) (fun _ _ _ h => h) (Or.inl ⟨by rfl, ?_⟩) hHeld ?_
  rotate_left
  · intro w hSw; (try dsimp only at hSw); go_simp; try (with_reducible rfl)
  try simp only [sq]
  refine wpAnyH_take (i := 1) (v := ?_) rfl (by kernel_rfl) (by kernel_rfl) (by kernel_rfl) (fun _ _ _ h => h) (Or.inl ⟨by rfl, ?_⟩) hHeld ?_
  rotate_left
  · intro w hSw; (try dsimp only at hSw); go_simp; try (with_reducible rfl)
  try simp only [sq]
  refine wpAnyH_ready (rs := [2]) (by kernel_rfl) (by simp) ?_
  refine AllReadyH.cons rfl (fun K hK => ?_) AllReadyH.nil
  try simp only [sq]
  go_simp
  (first
      | (go_at_call 6; refine (to_rows now0 a0 cap0 rs0 _ hm' (Q0.out.below (by (repeat (first | with_reducible exact Below.refl _ _ | with_reducible assumption | (with_reducible refine btrans ?_ (by with_reducible assumption)) | with_reducible refine bdrew ?_ | with_reducible refine balloc ?_ _))))).mono ?_; rintro e m1 ⟨c1', rfl, hg1, hl1, ho1, hm1⟩; have T1 := hid (show Rws (fun c => c1' < c) m1 (some ⟨c1', 0, none⟩) rs0 from .inr ⟨c1', 0, rfl, hl1, ho1⟩); clear ho1; have Z := hid (R3.out.below (show Below y22.heap.size y22 m1 by (repeat (first | with_reducible exact Below.refl _ _ | with_reducible assumption | (with_reducible refine btrans ?_ (by with_reducible assumption)) | with_reducible refine bdrew ?_ | with_reducible refine balloc ?_ _))))))
  go_wp2_with fail
  refine hK.out _ _ ?_ (fun hHeld => ?_)
  · (repeat' apply And.intro) <;> (repeat (first | with_reducible assumption | with_reducible refine keepdrew ?_ | with_reducible refine keepcell (by with_reducible assumption) ?_ | with_reducible refine keepalloc ?_ _))
  clear hK K
  try simp only [sq]
  refine wpAnyH_ready (rs := [3]) (by kernel_rfl) (by simp) ?_
  refine AllReadyH.cons rfl (fun K hK => ?_) AllReadyH.nil
  try simp only [sq]
  go_simp
  (first
      | (go_at_call 10; refine (eq_rows now0 _ _ _ _ rs0 _ hm' Z.out T1.out).mono ?_; rintro e m2 ⟨rfl, hm2⟩))
  go_wp2_with fail
  refine hK.out _ _ ?_ (fun hHeld => ?_)
  · (repeat' apply And.intro) <;> (repeat (first | with_reducible assumption | with_reducible refine keepdrew ?_ | with_reducible refine keepcell (by with_reducible assumption) ?_ | with_reducible refine keepalloc ?_ _))
  clear hK K
  try simp only [sq]
  refine wpAnyH_take (i := 4) (v := ?_) rfl (by kernel_rfl) (by kernel_rfl) (by kernel_rfl) (fun _ _ _ h => h) (Or.inl ⟨by rfl, ?_⟩) hHeld ?_
  rotate_left
  · intro w hSw; (try dsimp only at hSw); go_simp; try (with_reducible rfl)
  try simp only [sq]
  refine wpAnyH_done (by kernel_rfl) ?_ _
  have hY : Below y22.heap.size y22 m2 := by (repeat (first | with_reducible exact Below.refl _ _ | with_reducible assumption | (with_reducible refine btrans ?_ (by with_reducible assumption)) | with_reducible refine bdrew ?_ | with_reducible refine balloc ?_ _))
  replace n22_0 := keepcell hY n22_0
  replace n22_1 := keepcell hY n22_1
  replace n22_2 := keepcell hY n22_2
  replace n22_3 := keepcell hY n22_3
  replace n22_4 := keepcell hY n22_4
  replace n22_5 := keepcell hY n22_5
  replace hB2 := btrans hB2 hY
  replace Q0 := hid (Q0.out.below hY)
  replace S0 := hid (S0.out.below hY)
  replace R3 := hid (R3.out.below hY)
  replace O3 := hid (O3.out.below hY)
  replace G0 := hid (G0.out.below hY)
  clear hY hm1 hm2 hHeld T1 Z hg1 hl1
  go_wp2_with fail
  refine (mark_rows b3 X3 b3 now0 rs0 _ (Nat.le_refl _) O3.out.1 O3.out.2.1 HV.out.1 HV.out.2 O3.out.2.2.1 O3.out.2.2.2).mono ?_
  rintro e k1 ⟨⟨kv, rfl, hkv⟩, hmid⟩
  replace n22_0 := mid_cell hmid n22_0 (by omega)
  replace n22_1 := mid_cell hmid n22_1 (by omega)
  replace n22_2 := mid_cell hmid n22_2 (by omega)
  replace n22_3 := mid_cell hmid n22_3 (by omega)
  replace n22_4 := mid_cell hmid n22_4 (by omega)
  replace n22_5 := mid_cell hmid n22_5 (by omega)
  replace hB2 := mid_B hB2 hmid (by omega) hB2.size
  replace Q0 : Hid (Rws (fun _ => True) k1 a0 rs0) := hid (HP.out.below hB2)
  replace S0 : Hid (OwnI k1 sa qs) := hid (mid_ownI hmid S0.out (fun c off e => by have := HSM.out c off e; omega))
  replace G0 : Hid (OwnI k1 ga qs) := hid (mid_ownI hmid G0.out (fun c off e => by have := HGM.out c off e; omega))
  clear hmid R3 O3
  have hk0 : ¬ (kv < 0) := by omega
  have hk1 : ¬ ((1 : Int) + (qs.length : Int) < 0) := by omega
  go_wp2_with fail
  refine (eq_ints ga sa gc sc qs _ hqm G0.out S0.out).mono ?_
  rintro e y23 ⟨rfl, hc23⟩
  replace Q0 : Hid (Rws (fun _ => True) y23 a0 rs0) := hid (Q0.out.below (show Below k1.heap.size k1 y23 by (repeat (first | with_reducible exact Below.refl _ _ | with_reducible assumption | (with_reducible refine btrans ?_ (by with_reducible assumption)) | with_reducible refine bdrew ?_ | with_reducible refine balloc ?_ _))))
  replace S0 : Hid (OwnI y23 sa qs) := hid (S0.out.below (show Below k1.heap.size k1 y23 by (repeat (first | with_reducible exact Below.refl _ _ | with_reducible assumption | (with_reducible refine btrans ?_ (by with_reducible assumption)) | with_reducible refine bdrew ?_ | with_reducible refine balloc ?_ _))))
  replace G0 : Hid (OwnI y23 ga qs) := hid (G0.out.below (show Below k1.heap.size k1 y23 by (repeat (first | with_reducible exact Below.refl _ _ | with_reducible assumption | (with_reducible refine btrans ?_ (by with_reducible assumption)) | with_reducible refine bdrew ?_ | with_reducible refine balloc ?_ _))))
  have n23_0 := keepcell hc23 n22_0
  have n23_1 := keepcell hc23 n22_1
  have n23_2 := keepcell hc23 n22_2
  have n23_3 := keepcell hc23 n22_3
  have n23_4 := keepcell hc23 n22_4
  have n23_5 := keepcell hc23 n22_5
  replace hB2 := btrans hB2 hc23
  clear hc23 n22_0 n22_1 n22_2 n22_3 n22_4 n22_5
  go_wp2_with fail
  refine (mark_ints _ ga gc qs hqm G0.out).mono ?_
  rintro e k2 ⟨rfl, hmo, hmg⟩
  replace n23_0 := hmg.cell n23_0 (fun e => by have := HGM.out _ _ (OwnI.map_blk G0.out e.symm); dsimp only at this; omega)
  replace n23_1 := hmg.cell n23_1 (fun e => by have := HGM.out _ _ (OwnI.map_blk G0.out e.symm); dsimp only at this; omega)
  replace n23_2 := hmg.cell n23_2 (fun e => by have := HGM.out _ _ (OwnI.map_blk G0.out e.symm); dsimp only at this; omega)
  replace n23_3 := hmg.cell n23_3 (fun e => by have := HGM.out _ _ (OwnI.map_blk G0.out e.symm); dsimp only at this; omega)
  replace n23_4 := hmg.cell n23_4 (fun e => by have := HGM.out _ _ (OwnI.map_blk G0.out e.symm); dsimp only at this; omega)
  replace n23_5 := hmg.cell n23_5 (fun e => by have := HGM.out _ _ (OwnI.map_blk G0.out e.symm); dsimp only at this; omega)
  replace hB2 := bgrownr hB2 hmg (fun c e => by have := HGM.out _ _ (OwnI.map_blk G0.out e); omega)
  replace Q0 : Hid (Rws (fun _ => True) k2 a0 rs0) := hid (HP.out.below hB2)
  replace S0 : Hid (OwnI k2 sa qs) := hid (S0.out.grown hmg (fun c off e e2 => by have h1 := HGM.out _ _ (OwnI.map_blk G0.out e2.symm); have h2 := HSM.out c off e; omega))
  replace G0 : Hid (OwnI k2 ga (mki qs.length)) := hid hmo
  clear hmo hmg
  go_wp2_with fail
  refine (held_ints _ ga gc qs.length hqm G0.out).mono ?_
  rintro e y24 ⟨rfl, hc24⟩
  replace Q0 : Hid (Rws (fun _ => True) y24 a0 rs0) := hid (Q0.out.below (show Below k2.heap.size k2 y24 by (repeat (first | with_reducible exact Below.refl _ _ | with_reducible assumption | (with_reducible refine btrans ?_ (by with_reducible assumption)) | with_reducible refine bdrew ?_ | with_reducible refine balloc ?_ _))))
  replace S0 : Hid (OwnI y24 sa qs) := hid (S0.out.below (show Below k2.heap.size k2 y24 by (repeat (first | with_reducible exact Below.refl _ _ | with_reducible assumption | (with_reducible refine btrans ?_ (by with_reducible assumption)) | with_reducible refine bdrew ?_ | with_reducible refine balloc ?_ _))))
  replace G0 : Hid (OwnI y24 ga (mki qs.length)) := hid (G0.out.below (show Below k2.heap.size k2 y24 by (repeat (first | with_reducible exact Below.refl _ _ | with_reducible assumption | (with_reducible refine btrans ?_ (by with_reducible assumption)) | with_reducible refine bdrew ?_ | with_reducible refine balloc ?_ _))))
  have n24_0 := keepcell hc24 n23_0
  have n24_1 := keepcell hc24 n23_1
  have n24_2 := keepcell hc24 n23_2
  have n24_3 := keepcell hc24 n23_3
  have n24_4 := keepcell hc24 n23_4
  have n24_5 := keepcell hc24 n23_5
  replace hB2 := btrans hB2 hc24
  clear hc24 n23_0 n23_1 n23_2 n23_3 n23_4 n23_5
  go_wp2_with fail
  refine wp_region_held_drew (S := (fun w' => w'.cell? ⟨w.heap.size, 0, none⟩ = some (.int .i64 now0) ∧ w'.cell? ⟨w.heap.size, 1, none⟩ = some (.slice a0 rs0.length cap0) ∧ w'.cell? ⟨w.heap.size + 1, 0, none⟩ = some (.int .i64 x2) ∧ w'.cell? ⟨w.heap.size + 1, 1, none⟩ = some (.int .i64 y2) ∧ w'.cell? ⟨X3, 0, none⟩ = some (.int .i64 now0) ∧ w'.cell? ⟨X3, 1, none⟩ = some (.slice (some ⟨b3, 0, none⟩) rs0.length rs0.length))) (by kernel_rfl) ?_ (fun hHeld => ?_)
  · (repeat' apply And.intro) <;> (repeat (first | with_reducible assumption | with_reducible refine keepdrew ?_ | with_reducible refine keepcell (by with_reducible assumption) ?_ | with_reducible refine keepalloc ?_ _))
  refine wpAnyH_take (i := 0) (v := ?_) rfl (by kernel_rfl) (by kernel_rfl) (by kernel_rfl) (fun _ _ _ h => h) (Or.inl ⟨by rfl, ?_⟩) hHeld ?_
  rotate_left
  · intro w hSw; (try dsimp only at hSw); go_simp; try (with_reducible rfl)
  try simp only [sq]
  refine wpAnyH_take (i := 2) (v := ?_) rfl (by kernel_rfl) (by kernel_rfl) (by kernel_rfl) (fun _ _ _ h => h) (Or.inl ⟨by rfl, ?_⟩) hHeld ?_
  rotate_left
  · intro w hSw; (try dsimp only at hSw); go_simp; try (with_reducible rfl)
  try simp only [sq]
  refine wpAnyH_take (i := 3) (v := ?_) rfl (by kernel_rfl) (by kernel_rfl) (by kernel_rfl) (fun _ _ _ h => h) (Or.inl ⟨by rfl, ?_⟩) hHeld ?_
  rotate_left
  · intro w hSw; (try dsimp only at hSw); go_simp; try (with_reducible rfl)
  try simp only [sq]
  refine wpAnyH_take (i := 5) (v := ?_) rfl (by kernel_rfl) (by kernel_rfl) (by kernel_rfl) (fun _ _ _ h => h) (Or.inl ⟨by rfl, ?_⟩) hHeld ?_
  rotate_left
  · intro w hSw; (try dsimp only at hSw); go_simp; try (with_reducible rfl)
  try simp only [sq]
  refine wpAnyH_ready (rs := [1]) (by kernel_rfl) (by simp) ?_
  refine AllReadyH.cons rfl (fun K hK => ?_) AllReadyH.nil
  try simp only [sq]
  go_simp
  (first
      | (go_at_call 6; refine (to_rows now0 a0 cap0 rs0 _ hm' (Q0.out.below (by (repeat (first | with_reducible exact Below.refl _ _ | with_reducible assumption | (with_reducible refine btrans ?_ (by with_reducible assumption)) | with_reducible refine bdrew ?_ | with_reducible refine balloc ?_ _))))).mono ?_; rintro e i1 ⟨b9, rfl, hg1, hl1, ho1, hm1⟩; have T1 := hid (show Rws (fun c => b9 < c) i1 (some ⟨b9, 0, none⟩) rs0 from .inr ⟨b9, 0, rfl, hl1, ho1⟩); clear ho1))
  go_wp2_with fail
  refine hK.out _ _ ?_ (fun hHeld => ?_)
  · (repeat' apply And.intro) <;> (repeat (first | with_reducible assumption | with_reducible refine keepdrew ?_ | with_reducible refine keepcell (by with_reducible assumption) ?_ | with_reducible refine keepalloc ?_ _))
  clear hK K
  try simp only [sq]
  refine wpAnyH_ready (rs := [4]) (by kernel_rfl) (by simp) ?_
  refine AllReadyH.cons rfl (fun K hK => ?_) AllReadyH.nil
  try simp only [sq]
  go_simp
  (first
      | (go_at_call 7; refine (to_point_b x2 y2 _).mono ?_; rintro e i2 ⟨rfl, hm2⟩))
  go_wp2_with fail
  refine hK.out _ _ ?_ (fun hHeld => ?_)
  · (repeat' apply And.intro) <;> (repeat (first | with_reducible assumption | with_reducible refine keepdrew ?_ | with_reducible refine keepcell (by with_reducible assumption) ?_ | with_reducible refine keepalloc ?_ _))
  clear hK K
  try simp only [sq]
  refine wpAnyH_ready (rs := [6]) (by kernel_rfl) (by simp) ?_
  refine AllReadyH.cons rfl (fun K hK => ?_) AllReadyH.nil
  try simp only [sq]
  go_simp
  (first
      | (refine (CI.out b9 _ (T1.out.below hm2)).mono ?_; rintro e i3 ⟨ha, hcp, rfl, hho, hhb, hm3⟩))
  go_wp2_with fail
  refine hK.out _ _ ?_ (fun hHeld => ?_)
  · (repeat' apply And.intro) <;> (repeat (first | with_reducible assumption | with_reducible refine keepdrew ?_ | with_reducible refine keepcell (by with_reducible assumption) ?_ | with_reducible refine keepalloc ?_ _))
  clear hK K
  try simp only [sq]
  refine wpAnyH_take (i := 7) (v := ?_) rfl (by kernel_rfl) (by kernel_rfl) (by kernel_rfl) (fun _ _ _ h => h) (Or.inl ⟨by rfl, ?_⟩) hHeld ?_
  rotate_left
  · intro w hSw; (try dsimp only at hSw); go_simp; try (with_reducible rfl)
  try simp only [sq]
  refine wpAnyH_done (by kernel_rfl) ?_ _
  have hY : Below y24.heap.size y24 i3 := by (repeat (first | with_reducible exact Below.refl _ _ | with_reducible assumption | (with_reducible refine btrans ?_ (by with_reducible assumption)) | with_reducible refine bdrew ?_ | with_reducible refine balloc ?_ _))
  replace n24_0 := keepcell hY n24_0
  replace n24_1 := keepcell hY n24_1
  replace n24_2 := keepcell hY n24_2
  replace n24_3 := keepcell hY n24_3
  replace n24_4 := keepcell hY n24_4
  replace n24_5 := keepcell hY n24_5
  replace hB2 := btrans hB2 hY
  replace Q0 := hid (Q0.out.below hY)
  replace S0 := hid (S0.out.below hY)
  replace G0 := hid (G0.out.below hY)
  clear hY hHeld T1 hg1 hl1 hm1 hm2 hm3
  have H0 := hid hho
  clear hho hhb
  go_wp2_with fail
  refine (eq_ints ha sa hcp sc qs _ hqm H0.out S0.out).mono ?_
  rintro e y25 ⟨rfl, hc25⟩
  replace Q0 : Hid (Rws (fun _ => True) y25 a0 rs0) := hid (Q0.out.below (show Below i3.heap.size i3 y25 by (repeat (first | with_reducible exact Below.refl _ _ | with_reducible assumption | (with_reducible refine btrans ?_ (by with_reducible assumption)) | with_reducible refine bdrew ?_ | with_reducible refine balloc ?_ _))))
  replace S0 : Hid (OwnI y25 sa qs) := hid (S0.out.below (show Below i3.heap.size i3 y25 by (repeat (first | with_reducible exact Below.refl _ _ | with_reducible assumption | (with_reducible refine btrans ?_ (by with_reducible assumption)) | with_reducible refine bdrew ?_ | with_reducible refine balloc ?_ _))))
  replace G0 : Hid (OwnI y25 ga (mki qs.length)) := hid (G0.out.below (show Below i3.heap.size i3 y25 by (repeat (first | with_reducible exact Below.refl _ _ | with_reducible assumption | (with_reducible refine btrans ?_ (by with_reducible assumption)) | with_reducible refine bdrew ?_ | with_reducible refine balloc ?_ _))))
  replace H0 : Hid (OwnI y25 ha qs) := hid (H0.out.below (show Below i3.heap.size i3 y25 by (repeat (first | with_reducible exact Below.refl _ _ | with_reducible assumption | (with_reducible refine btrans ?_ (by with_reducible assumption)) | with_reducible refine bdrew ?_ | with_reducible refine balloc ?_ _))))
  have n25_0 := keepcell hc25 n24_0
  have n25_1 := keepcell hc25 n24_1
  have n25_2 := keepcell hc25 n24_2
  have n25_3 := keepcell hc25 n24_3
  have n25_4 := keepcell hc25 n24_4
  have n25_5 := keepcell hc25 n24_5
  replace hB2 := btrans hB2 hc25
  clear hc25 n24_0 n24_1 n24_2 n24_3 n24_4 n24_5
  go_wp2_with fail
  refine (held_ints _ ga gc qs.length hqm G0.out).mono ?_
  rintro e y26 ⟨rfl, hc26⟩
  replace Q0 : Hid (Rws (fun _ => True) y26 a0 rs0) := hid (Q0.out.below (show Below y25.heap.size y25 y26 by (repeat (first | with_reducible exact Below.refl _ _ | with_reducible assumption | (with_reducible refine btrans ?_ (by with_reducible assumption)) | with_reducible refine bdrew ?_ | with_reducible refine balloc ?_ _))))
  replace S0 : Hid (OwnI y26 sa qs) := hid (S0.out.below (show Below y25.heap.size y25 y26 by (repeat (first | with_reducible exact Below.refl _ _ | with_reducible assumption | (with_reducible refine btrans ?_ (by with_reducible assumption)) | with_reducible refine bdrew ?_ | with_reducible refine balloc ?_ _))))
  replace G0 : Hid (OwnI y26 ga (mki qs.length)) := hid (G0.out.below (show Below y25.heap.size y25 y26 by (repeat (first | with_reducible exact Below.refl _ _ | with_reducible assumption | (with_reducible refine btrans ?_ (by with_reducible assumption)) | with_reducible refine bdrew ?_ | with_reducible refine balloc ?_ _))))
  replace H0 : Hid (OwnI y26 ha qs) := hid (H0.out.below (show Below y25.heap.size y25 y26 by (repeat (first | with_reducible exact Below.refl _ _ | with_reducible assumption | (with_reducible refine btrans ?_ (by with_reducible assumption)) | with_reducible refine bdrew ?_ | with_reducible refine balloc ?_ _))))
  have n26_0 := keepcell hc26 n25_0
  have n26_1 := keepcell hc26 n25_1
  have n26_2 := keepcell hc26 n25_2
  have n26_3 := keepcell hc26 n25_3
  have n26_4 := keepcell hc26 n25_4
  have n26_5 := keepcell hc26 n25_5
  replace hB2 := btrans hB2 hc26
  clear hc26 n25_0 n25_1 n25_2 n25_3 n25_4 n25_5
  go_wp2_with fail
  go_ret
  exact ⟨rfl, hB2⟩
set_option maxRecDepth 100000 in
theorem lifted (os : Os) (started : os.Started) (H : Type) (enc : TypeId × Value → H) :
    ReturnsInHanded {} Tryz.checked os 3 .any (Rows.fnExactNearestSpec.pre6 enc Tryz.prog Tryz.f3 Rows.fnExactNearestRow.domain false) (Rows.fnExactNearestSpec.post enc Tryz.prog Tryz.f3 false true false false) := by
  refine returnsInHanded_of_change (C := Tryz.checked) own started (by kernel_rfl) Tryz.func3
    (ChangeSpec.witness6 (enc := enc) (C := Tryz.checked) false ⟨#[], #[.agg #[.int .i64 0, .slice none 0 0], .int .i64 0, .agg #[.int .i64 0, .int .i64 0], .int .i64 0], []⟩ 8 (by kernel_rfl) (by kernel_rfl) (by kernel_rfl) (by kernel_rfl)) ?_
  intro W base args ds gs before hval0 hW hcnd _
  have hval : ∀ (j : Nat) t v, Tryz.f3.params[j]? = some t → args[j]? = some v → Value.okWide Tryz.prog W .any base t v := hval0
  have hW' := hW
  obtain ⟨p, q, hA0, hV, rfl, hfz, hnd⟩ := hW
  have hA : DataW.TrodAll enc Tryz.prog W 0 (fun _ => true) true Tryz.f3.params.toList args.toList ds p := hA0
  rw [Tryz.params3] at hA hval
  obtain ⟨v0, vs0, d0, ds0, p0, q0, hargs, rfl, rfl, h0, r0⟩ := trodAll_cons hA
  obtain ⟨v1, vs1, d1, ds1, p1, q1, rfl, rfl, rfl, h1, r1⟩ := trodAll_cons r0
  obtain ⟨v2, vs2, d2, ds2, p2, q2, rfl, rfl, rfl, h2, r2⟩ := trodAll_cons r1
  obtain ⟨v3, vs3, d3, ds3, p3, q3, rfl, rfl, rfl, h3, r3⟩ := trodAll_cons r2
  obtain ⟨rfl, rfl, rfl⟩ := trodAll_nil r3
  obtain rfl : args = #[v0, v1, v2, v3] := by cases args; simp_all
  obtain ⟨rfl, rfl⟩ := trodVars_none hV
  have k0 := h0
  have lt0 : ∀ x ∈ p0, x.block < W.heap.size := by obtain ⟨m, hm⟩ := k0; exact DataW.trod_lt m _ _ _ hm
  have k1 := h1
  have lt1 : ∀ x ∈ p1, x.block < W.heap.size := by obtain ⟨m, hm⟩ := k1; exact DataW.trod_lt m _ _ _ hm
  have k2 := h2
  have lt2 : ∀ x ∈ p2, x.block < W.heap.size := by obtain ⟨m, hm⟩ := k2; exact DataW.trod_lt m _ _ _ hm
  have k3 := h3
  have lt3 : ∀ x ∈ p3, x.block < W.heap.size := by obtain ⟨m, hm⟩ := k3; exact DataW.trod_lt m _ _ _ hm
  obtain ⟨c0_0, c0_1, g0_0, g0_1, m0, rfl, rfl, rfl, hy0_0, hy0_1⟩ := open_agg2 Tryz.underlying24 (by kernel_rfl) cells24 (hval 0 24 v0 rfl rfl) h0
  obtain ⟨now0, e0_0, rfl, wnow0⟩ := DataW.trod_int Tryz.underlying3 hy0_0
  simp at e0_0
  subst e0_0
  obtain ⟨a0, cap0, rs0, e0_1, hl0, w0⟩ := open_rows hy0_1
  subst e0_1
  obtain ⟨a1, rfl, rfl, rfl, w1⟩ := open_int Tryz.underlying3 (hval 1 3 v1 rfl rfl) h1
  obtain ⟨c2_0, c2_1, g2_0, g2_1, m2, rfl, rfl, rfl, hy2_0, hy2_1⟩ := open_agg2 Tryz.underlying26 (by kernel_rfl) cells26 (hval 2 26 v2 rfl rfl) h2
  obtain ⟨x2, e2_0, rfl, wx2⟩ := DataW.trod_int Tryz.underlying3 hy2_0
  obtain ⟨y2, e2_1, rfl, wy2⟩ := DataW.trod_int Tryz.underlying3 hy2_1
  simp at e2_0 e2_1
  subst e2_0 e2_1
  obtain ⟨a3, rfl, rfl, rfl, w3⟩ := open_int Tryz.underlying3 (hval 3 3 v3 rfl rfl) h3
  clear hA0 hval0
  refine (walk now0 a0 cap0 rs0 a1 x2 y2 a3 W wnow0 hl0 w0 w1 wx2 wy2 w3).mono fun e W' ⟨he, bel⟩ => ?_
  subst he
  exact ⟨_, rfl, _, _, _, [], _, [], hW', trodAll_mk1 (shut_bool Tryz.underlying4 _), (trodAll_cons_mk (Below.trod laidOut (by kernel_rfl) (of_decide_eq_true (by kernel_rfl)) k0 bel lt0) (trodAll_cons_mk (Below.trod laidOut (by kernel_rfl) (of_decide_eq_true (by kernel_rfl)) k1 bel lt1) (trodAll_cons_mk (Below.trod laidOut (by kernel_rfl) (of_decide_eq_true (by kernel_rfl)) k2 bel lt2) (trodAll_cons_mk (Below.trod laidOut (by kernel_rfl) (of_decide_eq_true (by kernel_rfl)) k3 bel lt3) trodAll_mk0)))), rfl, bel.frame _, fun h => by cases h⟩
theorem band {a b : Bool} (h1 : a = true) (h2 : b = true) : (a && b) = true := by rw [h1, h2]; rfl
set_option maxRecDepth 100000 in
theorem q1 : (Rows.fnExactNearestRow.wf (OpenSpec.ofChange Rows.fnExactNearestSpec)) = true := by kernel_rfl
set_option maxRecDepth 100000 in
theorem q2 : (laidOutB Tryz.pinned.checked.prog) = true := sh2
set_option maxRecDepth 100000 in
theorem q3 : (mapsRowed Tryz.pinned.checked.prog) = true := sh3
set_option maxRecDepth 100000 in
theorem q4 : (Tryz.f3.params.all (Tryz.pinned.checked.prog.readableRec ·)) = true := by kernel_rfl
set_option maxRecDepth 100000 in
theorem q5 : (namedTie Tryz.pinned.checked.prog Rows.fnExactNearestRow.named Rows.fnExactNearestSpec.vars) = true := by kernel_rfl
set_option maxRecDepth 100000 in
theorem q6 : ((Rows.fnExactNearestRow.stops == [])) = true := by kernel_rfl
set_option maxRecDepth 100000 in
theorem q7 : ((Tryz.pinned.checked.prog.stops == [])) = true := sh7
set_option maxRecDepth 100000 in
theorem q8 : ((Rows.fnExactNearestRow.knobs == [])) = true := by kernel_rfl
set_option maxRecDepth 100000 in
theorem q9 : ((Tryz.pinned.checked.prog.stopKnobs == [])) = true := sh9
set_option maxRecDepth 100000 in
theorem q10 : ((Rows.fnExactNearestRow.inPlace == Tryz.pinned.checked.prog.inPlace 3)) = true := by kernel_rfl
set_option maxRecDepth 100000 in
theorem q11 : ((Rows.fnExactNearestRow.unfollowed == Tryz.pinned.checked.prog.unfollowed 3)) = true := by kernel_rfl
set_option maxRecDepth 100000 in
theorem q12 : ((Rows.fnExactNearestRow.recurses == Tryz.pinned.checked.prog.recurses 3)) = true := by kernel_rfl
set_option maxRecDepth 100000 in
theorem q13 : ((Rows.fnExactNearestRow.named == Tryz.pinned.checked.prog.varsNamed 3)) = true := by kernel_rfl
set_option maxRecDepth 100000 in
theorem q14 : ((Rows.fnExactNearestRow.maps == (Tryz.f3.params.toList ++ Rows.fnExactNearestSpec.plain.varTypes Tryz.pinned.checked.prog).any (Tryz.pinned.checked.prog.mapsRec ·))) = true := by kernel_rfl
set_option maxRecDepth 100000 in
theorem q15 : ((Rows.fnExactNearestRow.ifaces == (Tryz.f3.params.toList ++ Rows.fnExactNearestSpec.plain.varTypes Tryz.pinned.checked.prog).any (Tryz.pinned.checked.prog.ifacesRec ·))) = true := by kernel_rfl
set_option maxRecDepth 100000 in
theorem q16 : ((Rows.fnExactNearestRow.mapsOut == Tryz.pinned.checked.prog.mapsAmong Tryz.f3.resultTypes.toList)) = true := by kernel_rfl
set_option maxRecDepth 100000 in
theorem q17 : ((Rows.fnExactNearestRow.loops == (Tryz.f3.params.toList ++ Rows.fnExactNearestSpec.plain.varTypes Tryz.pinned.checked.prog).any (Tryz.pinned.checked.prog.loopsFrom ·))) = true := by kernel_rfl
set_option maxRecDepth 100000 in
theorem q18 : ((Rows.fnExactNearestRow.wideKeys == (Tryz.f3.params.toList ++ Rows.fnExactNearestSpec.plain.varTypes Tryz.pinned.checked.prog ++ Tryz.f3.resultTypes.toList).any (Tryz.pinned.checked.prog.wideKeysFrom ·))) = true := by kernel_rfl
set_option maxRecDepth 100000 in
theorem q19 : (Rows.fnExactNearestSpec.vars.all (Tryz.pinned.checked.prog.varReadable ·)) = true := by kernel_rfl
set_option maxRecDepth 100000 in
theorem q20 : (Tryz.f3.resultTypes.all (fun t => Tryz.pinned.checked.prog.readableRec t && decide (t < Tryz.pinned.checked.prog.types.size))) = true := by kernel_rfl
set_option maxRecDepth 100000 in
theorem q21 : ((Rows.fnExactNearestRow.ifacesOut == Tryz.f3.resultTypes.toList.any (Tryz.pinned.checked.prog.ifacesRec ·))) = true := by kernel_rfl
set_option maxRecDepth 100000 in
theorem q22 : ((Rows.fnExactNearestRow.loopsOut == Tryz.f3.resultTypes.toList.any (Tryz.pinned.checked.prog.loopsFrom ·))) = true := by kernel_rfl
set_option maxRecDepth 100000 in
theorem q23 : ((Rows.fnExactNearestRow.plainKeys == Tryz.pinned.checked.prog.plainKeys)) = true := sh23
set_option maxRecDepth 100000 in
theorem q24 : (Rows.fnExactNearestRow.shortTexts.isNone) = true := by kernel_rfl
set_option maxRecDepth 100000 in
theorem q25 : (Tryz.pinned.checked.prog.stopsHeard) = true := sh25
set_option maxRecDepth 100000 in
theorem q26 : (Tryz.pinned.checked.prog.mayEnter) = true := sh26
set_option maxRecDepth 100000 in
theorem q27 : ((Rows.fnExactNearestRow.lifted == Tryz.pinned.checked.prog.liftsFinal)) = true := sh27
set_option maxRecDepth 100000 in
theorem q28 : ((Tryz.pinned.checked.prog.make == some Rows.fnExactNearestRow.make)) = true := sh28
set_option maxRecDepth 100000 in
theorem q29 : ((Rows.fnExactNearestRow.kinds == (if Rows.fnExactNearestRow.domain.isEmpty then [] else Tryz.f3.params.toList.map fun t => match Tryz.pinned.checked.prog.underlying t with | some (.int k) => some k | _ => none))) = true := by kernel_rfl
set_option maxRecDepth 100000 in
theorem q30 : ((Rows.fnExactNearestRow.pinned == Rows.fnExactNearestRow.pinnedBy)) = true := by kernel_rfl
set_option maxRecDepth 100000 in
theorem q31 : ((Rows.fnExactNearestRow.veiled == (Tryz.f3.params.toList ++ Rows.fnExactNearestSpec.plain.varTypes Tryz.pinned.checked.prog ++ Tryz.f3.resultTypes.toList).any (Tryz.pinned.checked.prog.veiledRec ·))) = true := by kernel_rfl
set_option maxRecDepth 100000 in
theorem q32 : (Rows.fnExactNearestRow.veiledFits Tryz.pinned.checked.prog Tryz.f3.params.toList (Tryz.f3.params.toList ++ Rows.fnExactNearestSpec.plain.varTypes Tryz.pinned.checked.prog ++ Tryz.f3.resultTypes.toList)) = true := by kernel_rfl
set_option maxRecDepth 100000 in
theorem closed : joinedFacts Tryz.pinned.checked.prog 3 Tryz.f3 Rows.fnExactNearestSpec Rows.fnExactNearestRow = true := by
  unfold joinedFacts
  exact (band (band (band (band (band (band (band (band (band (band (band (band (band (band (band (band (band (band (band (band (band (band (band (band (band (band (band (band (band (band (band q1 q2) q3) q4) q5) q6) q7) q8) q9) q10) q11) q12) q13) q14) q15) q16) q17) q18) q19) q20) q21) q22) q23) q24) q25) q26) q27) q28) q29) q30) q31) q32)
set_option maxRecDepth 100000 in
theorem over : Rows.fnExactNearestRow.holds Tryz.pinned (OpenSpec.ofChange Rows.fnExactNearestSpec) :=
  OpenClaim.holds_of_wide 3 Tryz.f3 rfl rfl rfl rfl rfl rfl rfl ⟨rfl, rfl, rfl, rfl, rfl⟩ rfl rfl rfl rfl rfl (by kernel_rfl) Tryz.func3 closed
    (of_decide_eq_true (by kernel_rfl)) (by unfold Func.isWrapper; first | (rw [if_pos (by decide +kernel)]; kernel_rfl) | (rw [if_neg (by decide +kernel)]; exact ⟨rfl, rfl⟩))
    (fun os started H enc _ => lifted os started H enc)
end Go.Proofs.YtnaobljoopjhgaaGreat.fnExactNearest
namespace Go.Proofs.YtnaobljoopjhgaaGreat
theorem fnExactNearest_holds : Rows.FnExactNearestSaid := fnExactNearest.over
#print axioms fnExactNearest_holds
end Go.Proofs.YtnaobljoopjhgaaGreat
