/- FnExactPairs: at every argument Pairs of the landed program answers as the specification, writes into no argument, and its answer owns its memory. -/
import Derived.Test.YtpgcnadmhbjlgaaGreatRows
import Derived.Test.YtpgcnadmhbjlgaaGreatFacts
import Derived.Test.YtpgcnadmhbjlgaaGreatJ7
import Derived.Test.YtpgcnadmhbjlgaaGreatRwE
import Derived.WalkKit
import Derived.Deep.DeepCutAuto
import Derived.ProofKit
import Derived.OpenShut
import Derived.ShutString
import Derived.ChangeOld
import Derived.Below
import Derived.Carry
import Derived.Lib.SmallJoins
import Derived.Deep.SlicePairs
namespace Go.Proofs.YtpgcnadmhbjlgaaGreat.fnExactPairs
open Go.ChangeShapes Go.WideShapes Go.ChangeAt Go.RowKit Go.Joins
set_option linter.unusedVariables false
set_option linter.unusedSimpArgs false
theorem own : ownKnob Tryz.prog.godebug = none := by kernel_rfl
theorem laidOut : laidOutB Tryz.prog = true := by kernel_rfl
theorem cells24 : Tryz.prog.cellsOf 24 = 2 := by kernel_rfl
set_option maxRecDepth 100000 in
set_option maxHeartbeats 4000000 in
theorem walk (now0 : Int) (a0 : Option Addr) (cap0 : Nat) (rs0 : List Rw) (a1 : Int) (w : World) (wnow0 : (Lit.int .i64 now0).wf = true) (hl0 : rs0.length ≤ 9223372036854775807) (w0 : RwsL w a0 rs0) (w1 : (Lit.int .i64 a1).wf = true) :
    Calls Tryz.prog 3 #[.agg #[.int .i64 now0, .slice a0 rs0.length cap0], .int .i64 a1] w fun e w' => e = .returned (.bool true) ∧ Below w.heap.size w w' := by
  clear wnow0 w1
  have HR0 := hid w0
  clear w0
  go_enter Tryz.func3, Tryz.ntmps3
  go_wp2_with fail
  refine (sz_allL now0 a0 cap0 rs0 _ hl0 (HR0.out.below (by show Below _ _ _; (repeat (first | with_reducible exact Below.refl _ _ | with_reducible assumption | (with_reducible refine btrans ?_ (by with_reducible assumption)) | with_reducible refine bdrew ?_ | with_reducible refine balloc ?_ _))))).mono ?_
  rintro e y0 ⟨⟨v, rfl, hv⟩, hb1⟩
  have c0 : y0.cell? ⟨w.heap.size, 0, none⟩ = some (.int .i64 now0) := by (repeat (first | with_reducible assumption | (refine newcell _ _ _ _ _ _ ?_ rfl; simp; done) | refine keepcell (by with_reducible assumption) ?_ | refine keepdrew ?_ | refine keepalloc ?_ _))
  have c1 : y0.cell? ⟨w.heap.size, 1, none⟩ = some (.slice a0 rs0.length cap0) := by (repeat (first | with_reducible assumption | (refine newcell _ _ _ _ _ _ ?_ rfl; simp; done) | refine keepcell (by with_reducible assumption) ?_ | refine keepdrew ?_ | refine keepalloc ?_ _))
  have hB2 : Below w.heap.size w y0 := by (repeat (first | with_reducible exact Below.refl _ _ | with_reducible assumption | (with_reducible refine btrans ?_ (by with_reducible assumption)) | with_reducible refine bdrew ?_ | with_reducible refine balloc ?_ _))
  rcases hv with rfl | ⟨hv0, hv1, HV⟩
  · go_wp2_with fail
    go_ret
    exact ⟨rfl, hB2⟩
  have hv2 : ¬ v < 0 := by omega
  have HP := hid (HR0.out.rws HV.out.2)
  have hm' : rs0.length ≤ 1099511627776 := by have := HV.out.1; omega
  clear hb1 HR0
  have CS := hid (fun (b : Nat) w' (hw : Rws (fun c => b < c) w' (some ⟨b, 0, none⟩) rs0) => (spec_Pairs now0 (some ⟨b, 0, none⟩) rs0.length rs0 a1 w' hm' hw).mono (fun _ _ h => PA.form h))
  have CI := hid (fun (b : Nat) w' (hw : Rws (fun c => b < c) w' (some ⟨b, 0, none⟩) rs0) => (impl_Pairs now0 (some ⟨b, 0, none⟩) rs0.length rs0 a1 w' hm' hw).mono (fun _ _ h => PA.form h))
  have hql : (prs rs0 a1 (idsb now0 rs0 a1)).length ≤ 90000 := prs_len now0 rs0 a1
  unfold PAA at CS CI
  generalize prs rs0 a1 (idsb now0 rs0 a1) = qs at *
  have hqm : qs.length ≤ 1099511627776 := by omega
  have Q0 := hid (HP.out.below hB2)
  have hw0 : w.heap.size < y0.heap.size := World.block_lt_of_cell? y0 _ c0
  go_wp2_with fail
  refine (to_rows now0 a0 cap0 rs0 _ hm' Q0.out).mono ?_
  rintro e y1 ⟨b1, rfl, hg1, hl1, ho1, hc1⟩
  replace Q0 : Hid (Rws (fun _ => True) y1 a0 rs0) := hid (Q0.out.below (show Below y0.heap.size y0 y1 by (repeat (first | with_reducible exact Below.refl _ _ | with_reducible assumption | (with_reducible refine btrans ?_ (by with_reducible assumption)) | with_reducible refine bdrew ?_ | with_reducible refine balloc ?_ _))))
  have n1_0 := keepcell hc1 c0
  have n1_1 := keepcell hc1 c1
  replace hB2 := btrans hB2 hc1
  clear hc1 c0 c1
  have R1 := hid (show Rws (fun c => b1 < c) y1 (some ⟨b1, 0, none⟩) rs0 from .inr ⟨b1, 0, rfl, hl1, ho1⟩)
  have hw1 : y0.heap.size ≤ y1.heap.size := Nat.le_trans hg1 (Nat.le_of_lt hl1)
  clear ho1 hg1 hl1
  go_wp2_with fail
  refine (CS.out b1 _ R1.out).mono ?_
  rintro e y2 ⟨sa, sc, rfl, hso, hsb, hc2⟩
  replace Q0 : Hid (Rws (fun _ => True) y2 a0 rs0) := hid (Q0.out.below (show Below y1.heap.size y1 y2 by (repeat (first | with_reducible exact Below.refl _ _ | with_reducible assumption | (with_reducible refine btrans ?_ (by with_reducible assumption)) | with_reducible refine bdrew ?_ | with_reducible refine balloc ?_ _))))
  have n2_0 := keepcell hc2 n1_0
  have n2_1 := keepcell hc2 n1_1
  replace hB2 := btrans hB2 hc2
  clear hc2 n1_0 n1_1
  have S0 := hid hso
  have hw2 : w.heap.size < y2.heap.size := World.block_lt_of_cell? y2 _ n2_0
  clear hso hsb R1
  have hsal := hid (S0.out.lt)
  go_wp2_with fail
  refine (to_rowsO now0 a0 cap0 rs0 _ hm' Q0.out).mono ?_
  rintro e y3 ⟨b3, rfl, hg3, hl3, ho3, ht3, hr3, hc3⟩
  replace Q0 : Hid (Rws (fun _ => True) y3 a0 rs0) := hid (Q0.out.below (show Below y2.heap.size y2 y3 by (repeat (first | with_reducible exact Below.refl _ _ | with_reducible assumption | (with_reducible refine btrans ?_ (by with_reducible assumption)) | with_reducible refine bdrew ?_ | with_reducible refine balloc ?_ _))))
  replace S0 : Hid (OwnA y3 sa qs) := hid (S0.out.below (show Below y2.heap.size y2 y3 by (repeat (first | with_reducible exact Below.refl _ _ | with_reducible assumption | (with_reducible refine btrans ?_ (by with_reducible assumption)) | with_reducible refine bdrew ?_ | with_reducible refine balloc ?_ _))))
  have n3_0 := keepcell hc3 n2_0
  have n3_1 := keepcell hc3 n2_1
  replace hB2 := btrans hB2 hc3
  clear hc3 n2_0 n2_1
  have R3 := hid (show Rws (fun c => b3 < c) y3 (some ⟨b3, 0, none⟩) rs0 from .inr ⟨b3, 0, rfl, hl3, ho3⟩)
  have O3 : Hid (Own3 y3.heap.size y3 b3 rs0) := hid ⟨hl3, Nat.le_refl _, ht3, hr3⟩
  have hg3' : y2.heap.size ≤ b3 := hg3
  clear ho3 hg3 ht3 hr3
  have r3_0 := keepalloc n3_0 (.cells #[.int .i64 now0, .slice (some ⟨b3, 0, none⟩) rs0.length rs0.length] 30)
  have r3_1 := keepalloc n3_1 (.cells #[.int .i64 now0, .slice (some ⟨b3, 0, none⟩) rs0.length rs0.length] 30)
  go_wp2_with fail
  refine (CI.out b3 _ (R3.out.below (balloc (Below.refl _ _) _))).mono ?_
  rintro e y4 ⟨ga, gc, rfl, hgo, hgb, hc4⟩
  replace Q0 : Hid (Rws (fun _ => True) y4 a0 rs0) := hid (Q0.out.below (show Below y3.heap.size y3 y4 by (repeat (first | with_reducible exact Below.refl _ _ | with_reducible assumption | (with_reducible refine btrans ?_ (by with_reducible assumption)) | with_reducible refine bdrew ?_ | with_reducible refine balloc ?_ _))))
  replace S0 : Hid (OwnA y4 sa qs) := hid (S0.out.below (show Below y3.heap.size y3 y4 by (repeat (first | with_reducible exact Below.refl _ _ | with_reducible assumption | (with_reducible refine btrans ?_ (by with_reducible assumption)) | with_reducible refine bdrew ?_ | with_reducible refine balloc ?_ _))))
  replace R3 : Hid (Rws (fun c => b3 < c) y4 (some ⟨b3, 0, none⟩) rs0) := hid (R3.out.below (show Below y3.heap.size y3 y4 by (repeat (first | with_reducible exact Below.refl _ _ | with_reducible assumption | (with_reducible refine btrans ?_ (by with_reducible assumption)) | with_reducible refine bdrew ?_ | with_reducible refine balloc ?_ _))))
  replace O3 : Hid (Own3 y3.heap.size y4 b3 rs0) := hid (O3.out.below (show Below y3.heap.size y3 y4 by (repeat (first | with_reducible exact Below.refl _ _ | with_reducible assumption | (with_reducible refine btrans ?_ (by with_reducible assumption)) | with_reducible refine bdrew ?_ | with_reducible refine balloc ?_ _))))
  have n4_0 : y4.cell? ⟨w.heap.size, 0, none⟩ = some (.int .i64 now0) := by (repeat (first | with_reducible assumption | (refine newcell _ _ _ _ _ _ ?_ rfl; simp; done) | refine keepcell (by with_reducible assumption) ?_ | refine keepdrew ?_ | refine keepalloc ?_ _))
  have n4_1 : y4.cell? ⟨w.heap.size, 1, none⟩ = some (.slice a0 rs0.length cap0) := by (repeat (first | with_reducible assumption | (refine newcell _ _ _ _ _ _ ?_ rfl; simp; done) | refine keepcell (by with_reducible assumption) ?_ | refine keepdrew ?_ | refine keepalloc ?_ _))
  have n4_2 : y4.cell? ⟨y3.heap.size, 0, none⟩ = some (.int .i64 now0) := by (repeat (first | with_reducible assumption | (refine newcell _ _ _ _ _ _ ?_ rfl; simp; done) | refine keepcell (by with_reducible assumption) ?_ | refine keepdrew ?_ | refine keepalloc ?_ _))
  have n4_3 : y4.cell? ⟨y3.heap.size, 1, none⟩ = some (.slice (some ⟨b3, 0, none⟩) rs0.length rs0.length) := by (repeat (first | with_reducible assumption | (refine newcell _ _ _ _ _ _ ?_ rfl; simp; done) | refine keepcell (by with_reducible assumption) ?_ | refine keepdrew ?_ | refine keepalloc ?_ _))
  replace hB2 : Below w.heap.size w y4 := by (repeat (first | with_reducible exact Below.refl _ _ | with_reducible assumption | (with_reducible refine btrans ?_ (by with_reducible assumption)) | with_reducible refine bdrew ?_ | with_reducible refine balloc ?_ _))
  clear hc4 n3_0 n3_1
  have G0 := hid hgo
  have hw4 : y3.heap.size < y4.heap.size := World.block_lt_of_cell? y4 _ n4_2
  have hgbl := hid hgb
  clear hgo hgb
  go_wp2_with fail
  refine (eq_prsA ga sa gc sc qs _ hqm G0.out S0.out).mono ?_
  rintro e y5 ⟨rfl, hc5⟩
  replace Q0 : Hid (Rws (fun _ => True) y5 a0 rs0) := hid (Q0.out.below (show Below y4.heap.size y4 y5 by (repeat (first | with_reducible exact Below.refl _ _ | with_reducible assumption | (with_reducible refine btrans ?_ (by with_reducible assumption)) | with_reducible refine bdrew ?_ | with_reducible refine balloc ?_ _))))
  replace S0 : Hid (OwnA y5 sa qs) := hid (S0.out.below (show Below y4.heap.size y4 y5 by (repeat (first | with_reducible exact Below.refl _ _ | with_reducible assumption | (with_reducible refine btrans ?_ (by with_reducible assumption)) | with_reducible refine bdrew ?_ | with_reducible refine balloc ?_ _))))
  replace R3 : Hid (Rws (fun c => b3 < c) y5 (some ⟨b3, 0, none⟩) rs0) := hid (R3.out.below (show Below y4.heap.size y4 y5 by (repeat (first | with_reducible exact Below.refl _ _ | with_reducible assumption | (with_reducible refine btrans ?_ (by with_reducible assumption)) | with_reducible refine bdrew ?_ | with_reducible refine balloc ?_ _))))
  replace O3 : Hid (Own3 y3.heap.size y5 b3 rs0) := hid (O3.out.below (show Below y4.heap.size y4 y5 by (repeat (first | with_reducible exact Below.refl _ _ | with_reducible assumption | (with_reducible refine btrans ?_ (by with_reducible assumption)) | with_reducible refine bdrew ?_ | with_reducible refine balloc ?_ _))))
  replace G0 : Hid (OwnA y5 ga qs) := hid (G0.out.below (show Below y4.heap.size y4 y5 by (repeat (first | with_reducible exact Below.refl _ _ | with_reducible assumption | (with_reducible refine btrans ?_ (by with_reducible assumption)) | with_reducible refine bdrew ?_ | with_reducible refine balloc ?_ _))))
  have n5_0 := keepcell hc5 n4_0
  have n5_1 := keepcell hc5 n4_1
  have n5_2 := keepcell hc5 n4_2
  have n5_3 := keepcell hc5 n4_3
  replace hB2 := btrans hB2 hc5
  clear hc5 n4_0 n4_1 n4_2 n4_3
  go_wp2_with fail
  have hgm : ∀ c off, ga = some ⟨c, off, none⟩ → y3.heap.size < c := by
    intro c off e
    have h1 := hgbl.out c off e
    simp at h1; omega
  have hsm : ∀ c off, sa = some ⟨c, off, none⟩ → c < y2.heap.size := hsal.out
  have HGM := hid hgm
  have HSM := hid hsm
  clear hgm hsm hgbl hsal
  generalize y2.heap.size = X2 at *
  generalize y3.heap.size = X3 at *
  refine wp_region_held_drew (S := (fun w' => w'.cell? ⟨w.heap.size, 0, none⟩ = some (.int .i64 now0) ∧ w'.cell? ⟨w.heap.size, 1, none⟩ = some (.slice a0 rs0.length cap0) ∧ w'.cell? ⟨X3, 0, none⟩ = some (.int .i64 now0) ∧ w'.cell? ⟨X3, 1, none⟩ = some (.slice (some ⟨b3, 0, none⟩) rs0.length rs0.length))) (by kernel_rfl) ?_ (fun hHeld => ?_)
  · (repeat' apply And.intro) <;> (repeat (first | with_reducible assumption | with_reducible refine keepdrew ?_ | with_reducible refine keepcell (by with_reducible assumption) ?_ | with_reducible refine keepalloc ?_ _))
  refine wpAnyH_take (i := 0) (v := ?_) rfl (by kernel_rfl) (by kernel_rfl) (by kernel_rfl) (fun _ _ _ h => h) (Or.inl ⟨by rfl, ?_⟩) hHeld ?_
  rotate_left
  · intro w hSw; (try dsimp only at hSw); go_simp; try (with_reducible rfl)
  try simp only [sq]
  refine wpAnyH_take (i := 1) (v := ?_) rfl (by kernel_rfl) (by kernel_rfl) (by kernel_rfl) (fun _ _ _ h => h) (Or.inl ⟨by rfl, ?_⟩) hHeld ?_
  rotate_left
  · intro w hSw; (try dsimp only at hSw); go_simp; try (with_reducible rfl)
  try simp only [sq]
  refine wpAnyH_ready (rs := [2]) (by kernel_rfl) (by simp) ?_
  refine AllReadyH.cons rfl (fun K hK => ?_) AllReadyH.nil
  try simp only [sq]
  go_simp
  (first
      | (go_at_call 7; refine (to_rows now0 a0 cap0 rs0 _ hm' (Q0.out.below (by (repeat (first | with_reducible exact Below.refl _ _ | with_reducible assumption | (with_reducible refine btrans ?_ (by with_reducible assumption)) | with_reducible refine bdrew ?_ | with_reducible refine balloc ?_ _))))).mono ?_; rintro e m1 ⟨c1', rfl, hg1, hl1, ho1, hm1⟩; have T1 := hid (show Rws (fun c => c1' < c) m1 (some ⟨c1', 0, none⟩) rs0 from .inr ⟨c1', 0, rfl, hl1, ho1⟩); clear ho1; have Z := hid (R3.out.below (show Below y5.heap.size y5 m1 by (repeat (first | with_reducible exact Below.refl _ _ | with_reducible assumption | (with_reducible refine btrans ?_ (by with_reducible assumption)) | with_reducible refine bdrew ?_ | with_reducible refine balloc ?_ _))))))
  go_wp2_with fail
  refine hK.out _ _ ?_ (fun hHeld => ?_)
  · (repeat' apply And.intro) <;> (repeat (first | with_reducible assumption | with_reducible refine keepdrew ?_ | with_reducible refine keepcell (by with_reducible assumption) ?_ | with_reducible refine keepalloc ?_ _))
  clear hK K
  try simp only [sq]
  refine wpAnyH_ready (rs := [3]) (by kernel_rfl) (by simp) ?_
  refine AllReadyH.cons rfl (fun K hK => ?_) AllReadyH.nil
  try simp only [sq]
  go_simp
  (first
      | (go_at_call 10; refine (eq_rows now0 _ _ _ _ rs0 _ hm' Z.out T1.out).mono ?_; rintro e m2 ⟨rfl, hm2⟩))
  go_wp2_with fail
  refine hK.out _ _ ?_ (fun hHeld => ?_)
  · (repeat' apply And.intro) <;> (repeat (first | with_reducible assumption | with_reducible refine keepdrew ?_ | with_reducible refine keepcell (by with_reducible assumption) ?_ | with_reducible refine keepalloc ?_ _))
  clear hK K
  try simp only [sq]
  refine wpAnyH_take (i := 4) (v := ?_) rfl (by kernel_rfl) (by kernel_rfl) (by kernel_rfl) (fun _ _ _ h => h) (Or.inl ⟨by rfl, ?_⟩) hHeld ?_
  rotate_left
  · intro w hSw; (try dsimp only at hSw); go_simp; try (with_reducible rfl)
  try simp only [sq]
  refine wpAnyH_done (by kernel_rfl) ?_ _
  have hY : Below y5.heap.size y5 m2 := by (repeat (first | with_reducible exact Below.refl _ _ | with_reducible assumption | (with_reducible refine btrans ?_ (by with_reducible assumption)) | with_reducible refine bdrew ?_ | with_reducible refine balloc ?_ _))
  replace n5_0 := keepcell hY n5_0
  replace n5_1 := keepcell hY n5_1
  replace n5_2 := keepcell hY n5_2
  replace n5_3 := keepcell hY n5_3
  replace hB2 := btrans hB2 hY
  replace Q0 := hid (Q0.out.below hY)
  replace S0 := hid (S0.out.below hY)
  replace R3 := hid (R3.out.below hY)
  replace O3 := hid (O3.out.below hY)
  replace G0 := hid (G0.out.below hY)
  clear hY hm1 hm2 hHeld T1 Z hg1 hl1
  go_wp2_with fail
  refine (mark_rows b3 X3 b3 now0 rs0 _ (Nat.le_refl _) O3.out.1 O3.out.2.1 HV.out.1 HV.out.2 O3.out.2.2.1 O3.out.2.2.2).mono ?_
  rintro e k1 ⟨⟨kv, rfl, hkv⟩, hmid⟩
  replace n5_0 := mid_cell hmid n5_0 (by omega)
  replace n5_1 := mid_cell hmid n5_1 (by omega)
  replace n5_2 := mid_cell hmid n5_2 (by omega)
  replace n5_3 := mid_cell hmid n5_3 (by omega)
  replace hB2 := mid_B hB2 hmid (by omega) hB2.size
  replace Q0 : Hid (Rws (fun _ => True) k1 a0 rs0) := hid (HP.out.below hB2)
  replace S0 : Hid (OwnA k1 sa qs) := hid (mid_ownA hmid S0.out (fun c off e => by have := HSM.out c off e; omega))
  replace G0 : Hid (OwnA k1 ga qs) := hid (mid_ownA hmid G0.out (fun c off e => by have := HGM.out c off e; omega))
  clear hmid R3 O3
  have hk0 : ¬ (kv < 0) := by omega
  have hk1 : ¬ ((1 : Int) + 2 * (qs.length : Int) < 0) := by omega
  go_wp2_with fail
  refine (eq_prsA ga sa gc sc qs _ hqm G0.out S0.out).mono ?_
  rintro e y6 ⟨rfl, hc6⟩
  replace Q0 : Hid (Rws (fun _ => True) y6 a0 rs0) := hid (Q0.out.below (show Below k1.heap.size k1 y6 by (repeat (first | with_reducible exact Below.refl _ _ | with_reducible assumption | (with_reducible refine btrans ?_ (by with_reducible assumption)) | with_reducible refine bdrew ?_ | with_reducible refine balloc ?_ _))))
  replace S0 : Hid (OwnA y6 sa qs) := hid (S0.out.below (show Below k1.heap.size k1 y6 by (repeat (first | with_reducible exact Below.refl _ _ | with_reducible assumption | (with_reducible refine btrans ?_ (by with_reducible assumption)) | with_reducible refine bdrew ?_ | with_reducible refine balloc ?_ _))))
  replace G0 : Hid (OwnA y6 ga qs) := hid (G0.out.below (show Below k1.heap.size k1 y6 by (repeat (first | with_reducible exact Below.refl _ _ | with_reducible assumption | (with_reducible refine btrans ?_ (by with_reducible assumption)) | with_reducible refine bdrew ?_ | with_reducible refine balloc ?_ _))))
  have n6_0 := keepcell hc6 n5_0
  have n6_1 := keepcell hc6 n5_1
  have n6_2 := keepcell hc6 n5_2
  have n6_3 := keepcell hc6 n5_3
  replace hB2 := btrans hB2 hc6
  clear hc6 n5_0 n5_1 n5_2 n5_3
  go_wp2_with fail
  refine (mark_prsA _ ga gc qs hqm G0.out).mono ?_
  rintro e k2 ⟨rfl, hmo, hmg⟩
  replace n6_0 := hmg.cell n6_0 (fun e => by have := HGM.out _ _ (OwnA.map_blk G0.out e.symm); dsimp only at this; omega)
  replace n6_1 := hmg.cell n6_1 (fun e => by have := HGM.out _ _ (OwnA.map_blk G0.out e.symm); dsimp only at this; omega)
  replace n6_2 := hmg.cell n6_2 (fun e => by have := HGM.out _ _ (OwnA.map_blk G0.out e.symm); dsimp only at this; omega)
  replace n6_3 := hmg.cell n6_3 (fun e => by have := HGM.out _ _ (OwnA.map_blk G0.out e.symm); dsimp only at this; omega)
  replace hB2 := bgrownr hB2 hmg (fun c e => by have := HGM.out _ _ (OwnA.map_blk G0.out e); omega)
  replace Q0 : Hid (Rws (fun _ => True) k2 a0 rs0) := hid (HP.out.below hB2)
  replace S0 : Hid (OwnA k2 sa qs) := hid (S0.out.grown hmg (fun c off e e2 => by have h1 := HGM.out _ _ (OwnA.map_blk G0.out e2.symm); have h2 := HSM.out c off e; omega))
  replace G0 : Hid (OwnM k2 ga qs.length) := hid hmo
  clear hmo hmg
  go_wp2_with fail
  refine (held_prsA _ ga gc qs.length hqm G0.out).mono ?_
  rintro e y7 ⟨rfl, hc7⟩
  replace Q0 : Hid (Rws (fun _ => True) y7 a0 rs0) := hid (Q0.out.below (show Below k2.heap.size k2 y7 by (repeat (first | with_reducible exact Below.refl _ _ | with_reducible assumption | (with_reducible refine btrans ?_ (by with_reducible assumption)) | with_reducible refine bdrew ?_ | with_reducible refine balloc ?_ _))))
  replace S0 : Hid (OwnA y7 sa qs) := hid (S0.out.below (show Below k2.heap.size k2 y7 by (repeat (first | with_reducible exact Below.refl _ _ | with_reducible assumption | (with_reducible refine btrans ?_ (by with_reducible assumption)) | with_reducible refine bdrew ?_ | with_reducible refine balloc ?_ _))))
  replace G0 : Hid (OwnM y7 ga qs.length) := hid (G0.out.below (show Below k2.heap.size k2 y7 by (repeat (first | with_reducible exact Below.refl _ _ | with_reducible assumption | (with_reducible refine btrans ?_ (by with_reducible assumption)) | with_reducible refine bdrew ?_ | with_reducible refine balloc ?_ _))))
  have n7_0 := keepcell hc7 n6_0
  have n7_1 := keepcell hc7 n6_1
  have n7_2 := keepcell hc7 n6_2
  have n7_3 := keepcell hc7 n6_3
  replace hB2 := btrans hB2 hc7
  clear hc7 n6_0 n6_1 n6_2 n6_3
  go_wp2_with fail
  refine (to_rows now0 a0 cap0 rs0 _ hm' Q0.out).mono ?_
  rintro e y8 ⟨b9, rfl, hg9, hl9, ho9, hc8⟩
  replace Q0 : Hid (Rws (fun _ => True) y8 a0 rs0) := hid (Q0.out.below (show Below y7.heap.size y7 y8 by (repeat (first | with_reducible exact Below.refl _ _ | with_reducible assumption | (with_reducible refine btrans ?_ (by with_reducible assumption)) | with_reducible refine bdrew ?_ | with_reducible refine balloc ?_ _))))
  replace S0 : Hid (OwnA y8 sa qs) := hid (S0.out.below (show Below y7.heap.size y7 y8 by (repeat (first | with_reducible exact Below.refl _ _ | with_reducible assumption | (with_reducible refine btrans ?_ (by with_reducible assumption)) | with_reducible refine bdrew ?_ | with_reducible refine balloc ?_ _))))
  replace G0 : Hid (OwnM y8 ga qs.length) := hid (G0.out.below (show Below y7.heap.size y7 y8 by (repeat (first | with_reducible exact Below.refl _ _ | with_reducible assumption | (with_reducible refine btrans ?_ (by with_reducible assumption)) | with_reducible refine bdrew ?_ | with_reducible refine balloc ?_ _))))
  have n8_0 := keepcell hc8 n7_0
  have n8_1 := keepcell hc8 n7_1
  have n8_2 := keepcell hc8 n7_2
  have n8_3 := keepcell hc8 n7_3
  replace hB2 := btrans hB2 hc8
  clear hc8 n7_0 n7_1 n7_2 n7_3
  have R9 := hid (show Rws (fun c => b9 < c) y8 (some ⟨b9, 0, none⟩) rs0 from .inr ⟨b9, 0, rfl, hl9, ho9⟩)
  clear ho9 hg9 hl9
  go_wp2_with fail
  refine (CI.out b9 _ R9.out).mono ?_
  rintro e y9 ⟨ha, hcp, rfl, hho, hhb, hc9⟩
  replace Q0 : Hid (Rws (fun _ => True) y9 a0 rs0) := hid (Q0.out.below (show Below y8.heap.size y8 y9 by (repeat (first | with_reducible exact Below.refl _ _ | with_reducible assumption | (with_reducible refine btrans ?_ (by with_reducible assumption)) | with_reducible refine bdrew ?_ | with_reducible refine balloc ?_ _))))
  replace S0 : Hid (OwnA y9 sa qs) := hid (S0.out.below (show Below y8.heap.size y8 y9 by (repeat (first | with_reducible exact Below.refl _ _ | with_reducible assumption | (with_reducible refine btrans ?_ (by with_reducible assumption)) | with_reducible refine bdrew ?_ | with_reducible refine balloc ?_ _))))
  replace G0 : Hid (OwnM y9 ga qs.length) := hid (G0.out.below (show Below y8.heap.size y8 y9 by (repeat (first | with_reducible exact Below.refl _ _ | with_reducible assumption | (with_reducible refine btrans ?_ (by with_reducible assumption)) | with_reducible refine bdrew ?_ | with_reducible refine balloc ?_ _))))
  have n9_0 := keepcell hc9 n8_0
  have n9_1 := keepcell hc9 n8_1
  have n9_2 := keepcell hc9 n8_2
  have n9_3 := keepcell hc9 n8_3
  replace hB2 := btrans hB2 hc9
  clear hc9 n8_0 n8_1 n8_2 n8_3
  have H0 := hid hho
  clear hho hhb R9
  go_wp2_with fail
  refine (eq_prsA ha sa hcp sc qs _ hqm H0.out S0.out).mono ?_
  rintro e y10 ⟨rfl, hc10⟩
  replace Q0 : Hid (Rws (fun _ => True) y10 a0 rs0) := hid (Q0.out.below (show Below y9.heap.size y9 y10 by (repeat (first | with_reducible exact Below.refl _ _ | with_reducible assumption | (with_reducible refine btrans ?_ (by with_reducible assumption)) | with_reducible refine bdrew ?_ | with_reducible refine balloc ?_ _))))
  replace S0 : Hid (OwnA y10 sa qs) := hid (S0.out.below (show Below y9.heap.size y9 y10 by (repeat (first | with_reducible exact Below.refl _ _ | with_reducible assumption | (with_reducible refine btrans ?_ (by with_reducible assumption)) | with_reducible refine bdrew ?_ | with_reducible refine balloc ?_ _))))
  replace G0 : Hid (OwnM y10 ga qs.length) := hid (G0.out.below (show Below y9.heap.size y9 y10 by (repeat (first | with_reducible exact Below.refl _ _ | with_reducible assumption | (with_reducible refine btrans ?_ (by with_reducible assumption)) | with_reducible refine bdrew ?_ | with_reducible refine balloc ?_ _))))
  replace H0 : Hid (OwnA y10 ha qs) := hid (H0.out.below (show Below y9.heap.size y9 y10 by (repeat (first | with_reducible exact Below.refl _ _ | with_reducible assumption | (with_reducible refine btrans ?_ (by with_reducible assumption)) | with_reducible refine bdrew ?_ | with_reducible refine balloc ?_ _))))
  have n10_0 := keepcell hc10 n9_0
  have n10_1 := keepcell hc10 n9_1
  have n10_2 := keepcell hc10 n9_2
  have n10_3 := keepcell hc10 n9_3
  replace hB2 := btrans hB2 hc10
  clear hc10 n9_0 n9_1 n9_2 n9_3
  go_wp2_with fail
  refine (held_prsA _ ga gc qs.length hqm G0.out).mono ?_
  rintro e y11 ⟨rfl, hc11⟩
  replace Q0 : Hid (Rws (fun _ => True) y11 a0 rs0) := hid (Q0.out.below (show Below y10.heap.size y10 y11 by (repeat (first | with_reducible exact Below.refl _ _ | with_reducible assumption | (with_reducible refine btrans ?_ (by with_reducible assumption)) | with_reducible refine bdrew ?_ | with_reducible refine balloc ?_ _))))
  replace S0 : Hid (OwnA y11 sa qs) := hid (S0.out.below (show Below y10.heap.size y10 y11 by (repeat (first | with_reducible exact Below.refl _ _ | with_reducible assumption | (with_reducible refine btrans ?_ (by with_reducible assumption)) | with_reducible refine bdrew ?_ | with_reducible refine balloc ?_ _))))
  replace G0 : Hid (OwnM y11 ga qs.length) := hid (G0.out.below (show Below y10.heap.size y10 y11 by (repeat (first | with_reducible exact Below.refl _ _ | with_reducible assumption | (with_reducible refine btrans ?_ (by with_reducible assumption)) | with_reducible refine bdrew ?_ | with_reducible refine balloc ?_ _))))
  replace H0 : Hid (OwnA y11 ha qs) := hid (H0.out.below (show Below y10.heap.size y10 y11 by (repeat (first | with_reducible exact Below.refl _ _ | with_reducible assumption | (with_reducible refine btrans ?_ (by with_reducible assumption)) | with_reducible refine bdrew ?_ | with_reducible refine balloc ?_ _))))
  have n11_0 := keepcell hc11 n10_0
  have n11_1 := keepcell hc11 n10_1
  have n11_2 := keepcell hc11 n10_2
  have n11_3 := keepcell hc11 n10_3
  replace hB2 := btrans hB2 hc11
  clear hc11 n10_0 n10_1 n10_2 n10_3
  go_wp2_with fail
  go_ret
  exact ⟨rfl, hB2⟩
set_option maxRecDepth 100000 in
theorem lifted (os : Os) (started : os.Started) (H : Type) (enc : TypeId × Value → H) :
    ReturnsInHanded {} Tryz.checked os 3 .any (Rows.fnExactPairsSpec.pre6 enc Tryz.prog Tryz.f3 Rows.fnExactPairsRow.domain false) (Rows.fnExactPairsSpec.post enc Tryz.prog Tryz.f3 false true false false) := by
  refine returnsInHanded_of_change (C := Tryz.checked) own started (by kernel_rfl) Tryz.func3
    (ChangeSpec.witness6 (enc := enc) (C := Tryz.checked) false ⟨#[], #[.agg #[.int .i64 0, .slice none 0 0], .int .i64 0], []⟩ 8 (by kernel_rfl) (by kernel_rfl) (by kernel_rfl) (by kernel_rfl)) ?_
  intro W base args ds gs before hval0 hW hcnd _
  have hval : ∀ (j : Nat) t v, Tryz.f3.params[j]? = some t → args[j]? = some v → Value.okWide Tryz.prog W .any base t v := hval0
  have hW' := hW
  obtain ⟨p, q, hA0, hV, rfl, hfz, hnd⟩ := hW
  have hA : DataW.TrodAll enc Tryz.prog W 0 (fun _ => true) true Tryz.f3.params.toList args.toList ds p := hA0
  rw [Tryz.params3] at hA hval
  obtain ⟨v0, vs0, d0, ds0, p0, q0, hargs, rfl, rfl, h0, r0⟩ := trodAll_cons hA
  obtain ⟨v1, vs1, d1, ds1, p1, q1, rfl, rfl, rfl, h1, r1⟩ := trodAll_cons r0
  obtain ⟨rfl, rfl, rfl⟩ := trodAll_nil r1
  obtain rfl : args = #[v0, v1] := by cases args; simp_all
  obtain ⟨rfl, rfl⟩ := trodVars_none hV
  have k0 := h0
  have lt0 : ∀ x ∈ p0, x.block < W.heap.size := by obtain ⟨m, hm⟩ := k0; exact DataW.trod_lt m _ _ _ hm
  have k1 := h1
  have lt1 : ∀ x ∈ p1, x.block < W.heap.size := by obtain ⟨m, hm⟩ := k1; exact DataW.trod_lt m _ _ _ hm
  obtain ⟨c0_0, c0_1, g0_0, g0_1, m0, rfl, rfl, rfl, hy0_0, hy0_1⟩ := open_agg2 Tryz.underlying24 (by kernel_rfl) cells24 (hval 0 24 v0 rfl rfl) h0
  obtain ⟨now0, e0_0, rfl, wnow0⟩ := DataW.trod_int Tryz.underlying3 hy0_0
  simp at e0_0
  subst e0_0
  obtain ⟨a0, cap0, rs0, e0_1, hl0, w0⟩ := open_rows hy0_1
  subst e0_1
  obtain ⟨a1, rfl, rfl, rfl, w1⟩ := open_int Tryz.underlying3 (hval 1 3 v1 rfl rfl) h1
  clear hA0 hval0
  refine (walk now0 a0 cap0 rs0 a1 W wnow0 hl0 w0 w1).mono fun e W' ⟨he, bel⟩ => ?_
  subst he
  exact ⟨_, rfl, _, _, _, [], _, [], hW', trodAll_mk1 (shut_bool Tryz.underlying4 _), (trodAll_cons_mk (Below.trod laidOut (by kernel_rfl) (of_decide_eq_true (by kernel_rfl)) k0 bel lt0) (trodAll_cons_mk (Below.trod laidOut (by kernel_rfl) (of_decide_eq_true (by kernel_rfl)) k1 bel lt1) trodAll_mk0)), rfl, bel.frame _, fun h => by cases h⟩
theorem band {a b : Bool} (h1 : a = true) (h2 : b = true) : (a && b) = true := by rw [h1, h2]; rfl
set_option maxRecDepth 100000 in
theorem q1 : (Rows.fnExactPairsRow.wf (OpenSpec.ofChange Rows.fnExactPairsSpec)) = true := by kernel_rfl
set_option maxRecDepth 100000 in
theorem q2 : (laidOutB Tryz.pinned.checked.prog) = true := sh2
set_option maxRecDepth 100000 in
theorem q3 : (mapsRowed Tryz.pinned.checked.prog) = true := sh3
set_option maxRecDepth 100000 in
theorem q4 : (Tryz.f3.params.all (Tryz.pinned.checked.prog.readableRec ·)) = true := by kernel_rfl
set_option maxRecDepth 100000 in
theorem q5 : (namedTie Tryz.pinned.checked.prog Rows.fnExactPairsRow.named Rows.fnExactPairsSpec.vars) = true := by kernel_rfl
set_option maxRecDepth 100000 in
theorem q6 : ((Rows.fnExactPairsRow.stops == [])) = true := by kernel_rfl
set_option maxRecDepth 100000 in
theorem q7 : ((Tryz.pinned.checked.prog.stops == [])) = true := sh7
set_option maxRecDepth 100000 in
theorem q8 : ((Rows.fnExactPairsRow.knobs == [])) = true := by kernel_rfl
set_option maxRecDepth 100000 in
theorem q9 : ((Tryz.pinned.checked.prog.stopKnobs == [])) = true := sh9
set_option maxRecDepth 100000 in
theorem q10 : ((Rows.fnExactPairsRow.inPlace == Tryz.pinned.checked.prog.inPlace 3)) = true := by kernel_rfl
set_option maxRecDepth 100000 in
theorem q11 : ((Rows.fnExactPairsRow.unfollowed == Tryz.pinned.checked.prog.unfollowed 3)) = true := by kernel_rfl
set_option maxRecDepth 100000 in
theorem q12 : ((Rows.fnExactPairsRow.recurses == Tryz.pinned.checked.prog.recurses 3)) = true := by kernel_rfl
set_option maxRecDepth 100000 in
theorem q13 : ((Rows.fnExactPairsRow.named == Tryz.pinned.checked.prog.varsNamed 3)) = true := by kernel_rfl
set_option maxRecDepth 100000 in
theorem q14 : ((Rows.fnExactPairsRow.maps == (Tryz.f3.params.toList ++ Rows.fnExactPairsSpec.plain.varTypes Tryz.pinned.checked.prog).any (Tryz.pinned.checked.prog.mapsRec ·))) = true := by kernel_rfl
set_option maxRecDepth 100000 in
theorem q15 : ((Rows.fnExactPairsRow.ifaces == (Tryz.f3.params.toList ++ Rows.fnExactPairsSpec.plain.varTypes Tryz.pinned.checked.prog).any (Tryz.pinned.checked.prog.ifacesRec ·))) = true := by kernel_rfl
set_option maxRecDepth 100000 in
theorem q16 : ((Rows.fnExactPairsRow.mapsOut == Tryz.pinned.checked.prog.mapsAmong Tryz.f3.resultTypes.toList)) = true := by kernel_rfl
set_option maxRecDepth 100000 in
theorem q17 : ((Rows.fnExactPairsRow.loops == (Tryz.f3.params.toList ++ Rows.fnExactPairsSpec.plain.varTypes Tryz.pinned.checked.prog).any (Tryz.pinned.checked.prog.loopsFrom ·))) = true := by kernel_rfl
set_option maxRecDepth 100000 in
theorem q18 : ((Rows.fnExactPairsRow.wideKeys == (Tryz.f3.params.toList ++ Rows.fnExactPairsSpec.plain.varTypes Tryz.pinned.checked.prog ++ Tryz.f3.resultTypes.toList).any (Tryz.pinned.checked.prog.wideKeysFrom ·))) = true := by kernel_rfl
set_option maxRecDepth 100000 in
theorem q19 : (Rows.fnExactPairsSpec.vars.all (Tryz.pinned.checked.prog.varReadable ·)) = true := by kernel_rfl
set_option maxRecDepth 100000 in
theorem q20 : (Tryz.f3.resultTypes.all (fun t => Tryz.pinned.checked.prog.readableRec t && decide (t < Tryz.pinned.checked.prog.types.size))) = true := by kernel_rfl
set_option maxRecDepth 100000 in
theorem q21 : ((Rows.fnExactPairsRow.ifacesOut == Tryz.f3.resultTypes.toList.any (Tryz.pinned.checked.prog.ifacesRec ·))) = true := by kernel_rfl
set_option maxRecDepth 100000 in
theorem q22 : ((Rows.fnExactPairsRow.loopsOut == Tryz.f3.resultTypes.toList.any (Tryz.pinned.checked.prog.loopsFrom ·))) = true := by kernel_rfl
set_option maxRecDepth 100000 in
theorem q23 : ((Rows.fnExactPairsRow.plainKeys == Tryz.pinned.checked.prog.plainKeys)) = true := sh23
set_option maxRecDepth 100000 in
theorem q24 : (Rows.fnExactPairsRow.shortTexts.isNone) = true := by kernel_rfl
set_option maxRecDepth 100000 in
theorem q25 : (Tryz.pinned.checked.prog.stopsHeard) = true := sh25
set_option maxRecDepth 100000 in
theorem q26 : (Tryz.pinned.checked.prog.mayEnter) = true := sh26
set_option maxRecDepth 100000 in
theorem q27 : ((Rows.fnExactPairsRow.lifted == Tryz.pinned.checked.prog.liftsFinal)) = true := sh27
set_option maxRecDepth 100000 in
theorem q28 : ((Tryz.pinned.checked.prog.make == some Rows.fnExactPairsRow.make)) = true := sh28
set_option maxRecDepth 100000 in
theorem q29 : ((Rows.fnExactPairsRow.kinds == (if Rows.fnExactPairsRow.domain.isEmpty then [] else Tryz.f3.params.toList.map fun t => match Tryz.pinned.checked.prog.underlying t with | some (.int k) => some k | _ => none))) = true := by kernel_rfl
set_option maxRecDepth 100000 in
theorem q30 : ((Rows.fnExactPairsRow.pinned == Rows.fnExactPairsRow.pinnedBy)) = true := by kernel_rfl
set_option maxRecDepth 100000 in
theorem q31 : ((Rows.fnExactPairsRow.veiled == (Tryz.f3.params.toList ++ Rows.fnExactPairsSpec.plain.varTypes Tryz.pinned.checked.prog ++ Tryz.f3.resultTypes.toList).any (Tryz.pinned.checked.prog.veiledRec ·))) = true := by kernel_rfl
set_option maxRecDepth 100000 in
theorem q32 : (Rows.fnExactPairsRow.veiledFits Tryz.pinned.checked.prog Tryz.f3.params.toList (Tryz.f3.params.toList ++ Rows.fnExactPairsSpec.plain.varTypes Tryz.pinned.checked.prog ++ Tryz.f3.resultTypes.toList)) = true := by kernel_rfl
set_option maxRecDepth 100000 in
theorem closed : joinedFacts Tryz.pinned.checked.prog 3 Tryz.f3 Rows.fnExactPairsSpec Rows.fnExactPairsRow = true := by
  unfold joinedFacts
  exact (band (band (band (band (band (band (band (band (band (band (band (band (band (band (band (band (band (band (band (band (band (band (band (band (band (band (band (band (band (band (band q1 q2) q3) q4) q5) q6) q7) q8) q9) q10) q11) q12) q13) q14) q15) q16) q17) q18) q19) q20) q21) q22) q23) q24) q25) q26) q27) q28) q29) q30) q31) q32)
set_option maxRecDepth 100000 in
theorem over : Rows.fnExactPairsRow.holds Tryz.pinned (OpenSpec.ofChange Rows.fnExactPairsSpec) :=
  OpenClaim.holds_of_wide 3 Tryz.f3 rfl rfl rfl rfl rfl rfl rfl ⟨rfl, rfl, rfl, rfl, rfl⟩ rfl rfl rfl rfl rfl (by kernel_rfl) Tryz.func3 closed
    (of_decide_eq_true (by kernel_rfl)) (by unfold Func.isWrapper; first | (rw [if_pos (by decide +kernel)]; kernel_rfl) | (rw [if_neg (by decide +kernel)]; exact ⟨rfl, rfl⟩))
    (fun os started H enc _ => lifted os started H enc)
end Go.Proofs.YtpgcnadmhbjlgaaGreat.fnExactPairs
namespace Go.Proofs.YtpgcnadmhbjlgaaGreat
theorem fnExactPairs_holds : Rows.FnExactPairsSaid := fnExactPairs.over
#print axioms fnExactPairs_holds
end Go.Proofs.YtpgcnadmhbjlgaaGreat
