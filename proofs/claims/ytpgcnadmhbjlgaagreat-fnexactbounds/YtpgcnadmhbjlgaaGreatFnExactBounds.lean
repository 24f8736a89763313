/- FnExactBounds: at every argument Bounds of the landed program answers as the specification, and writes into no argument. -/
import Derived.Test.YtpgcnadmhbjlgaaGreatRows
import Derived.Test.YtpgcnadmhbjlgaaGreatFacts
import Derived.Test.YtpgcnadmhbjlgaaGreatBb
import Derived.Test.YtpgcnadmhbjlgaaGreatBc
import Derived.Test.YtpgcnadmhbjlgaaGreatRwO
import Derived.Test.YtpgcnadmhbjlgaaGreatRwE
import Derived.Test.YtpgcnadmhbjlgaaGreatFacts
import Derived.WalkKit
import Derived.Deep.DeepCutAuto
import Derived.ProofKit
import Derived.OpenShut
import Derived.ShutString
import Derived.ChangeOld
import Derived.Below
import Derived.Carry
import Derived.Lib.SmallJoins
import Derived.Deep.SlicePairs
namespace Go.Proofs.YtpgcnadmhbjlgaaGreat.fnExactBounds
open Go.ChangeShapes Go.WideShapes Go.ChangeAt Go.RowKit Go.Joins
set_option linter.unusedVariables false
set_option linter.unusedSimpArgs false
theorem own : ownKnob Tryz.prog.godebug = none := by kernel_rfl
theorem laidOut : laidOutB Tryz.prog = true := by kernel_rfl
theorem cells24 : Tryz.prog.cellsOf 24 = 2 := by kernel_rfl
theorem eq_box_same (a b c d : Int) (w : World) : Calls Tryz.prog 16 #[.agg #[.int .i64 a, .int .i64 b, .int .i64 c, .int .i64 d], .agg #[.int .i64 a, .int .i64 b, .int .i64 c, .int .i64 d]] w fun e w' => e = .returned (.bool true) ∧ Below w.heap.size w w' := by
  go_enter Tryz.func16, Tryz.ntmps16
  go_wp2_with fail
  go_ret
  exact ⟨rfl, by (repeat (first | with_reducible exact Below.refl _ _ | with_reducible assumption | (with_reducible refine btrans ?_ (by with_reducible assumption)) | with_reducible refine bdrew ?_ | with_reducible refine balloc ?_ _))⟩
set_option maxRecDepth 100000 in
set_option maxHeartbeats 4000000 in
theorem walk (now0 : Int) (a0 : Option Addr) (cap0 : Nat) (rs0 : List Rw) (a1 : Int) (w : World) (wnow0 : (Lit.int .i64 now0).wf = true) (hl0 : rs0.length ≤ 9223372036854775807) (w0 : RwsL w a0 rs0) (w1 : (Lit.int .i64 a1).wf = true) :
    Calls Tryz.prog 4 #[.agg #[.int .i64 now0, .slice a0 rs0.length cap0], .int .i64 a1] w fun e w' => e = .returned (.bool true) ∧ Below w.heap.size w w' := by
  clear wnow0 w1
  have HR0 := hid w0
  clear w0
  go_enter Tryz.func4, Tryz.ntmps4
  go_wp2_with fail
  refine (sz_allL now0 a0 cap0 rs0 _ hl0 (HR0.out.below (by show Below _ _ _; (repeat (first | with_reducible exact Below.refl _ _ | with_reducible assumption | (with_reducible refine btrans ?_ (by with_reducible assumption)) | with_reducible refine bdrew ?_ | with_reducible refine balloc ?_ _))))).mono ?_
  rintro e w1 ⟨⟨v, rfl, hv⟩, hb1⟩
  have q0 : w1.cell? ⟨w.heap.size, 0, none⟩ = some (.int .i64 now0) := by (repeat (first | with_reducible assumption | (refine newcell _ _ _ _ _ _ ?_ rfl; simp; done) | refine keepcell (by with_reducible assumption) ?_ | refine keepdrew ?_ | refine keepalloc ?_ _))
  have q1 : w1.cell? ⟨w.heap.size, 1, none⟩ = some (.slice a0 rs0.length cap0) := by (repeat (first | with_reducible assumption | (refine newcell _ _ _ _ _ _ ?_ rfl; simp; done) | refine keepcell (by with_reducible assumption) ?_ | refine keepdrew ?_ | refine keepalloc ?_ _))
  have hB1 : Below w.heap.size w w1 := by (repeat (first | with_reducible exact Below.refl _ _ | with_reducible assumption | (with_reducible refine btrans ?_ (by with_reducible assumption)) | with_reducible refine bdrew ?_ | with_reducible refine balloc ?_ _))
  rcases hv with rfl | ⟨hv0, hv1, HV⟩
  · go_wp2_with fail
    go_ret
    exact ⟨rfl, hB1⟩
  have hv2 : ¬ v < 0 := by omega
  have HP := hid (HR0.out.rws HV.out.2)
  have hm' : rs0.length ≤ 1099511627776 := by have := HV.out.1; omega
  clear HV HR0
  go_wp2_with fail
  refine (to_rows now0 a0 cap0 rs0 _ hm' (HP.out.below hB1)).mono ?_
  clear hB1
  rintro e w2 ⟨b2, rfl, hg2, hl2, ho2, hb2⟩
  have r0 : w2.cell? ⟨w.heap.size, 0, none⟩ = some (.int .i64 now0) := by (repeat (first | with_reducible assumption | (refine newcell _ _ _ _ _ _ ?_ rfl; simp; done) | refine keepcell (by with_reducible assumption) ?_ | refine keepdrew ?_ | refine keepalloc ?_ _))
  have r1 : w2.cell? ⟨w.heap.size, 1, none⟩ = some (.slice a0 rs0.length cap0) := by (repeat (first | with_reducible assumption | (refine newcell _ _ _ _ _ _ ?_ rfl; simp; done) | refine keepcell (by with_reducible assumption) ?_ | refine keepdrew ?_ | refine keepalloc ?_ _))
  have Ho2 := hid (show Rws (fun c => b2 < c) w2 (some ⟨b2, 0, none⟩) rs0 from .inr ⟨b2, 0, rfl, hl2, ho2⟩)
  clear ho2
  go_wp2_with fail
  have HSP := hid (spec_Bounds now0 (some ⟨b2, 0, none⟩) rs0.length rs0 a1 w2 hm' Ho2.out)
  have HIM := hid (fun (W : World) (b : Nat) (h : Rws (fun c => b < c) W (some ⟨b, 0, none⟩) rs0) => impl_Bounds now0 (some ⟨b, 0, none⟩) rs0.length rs0 a1 W hm' h)
  unfold BD at HSP HIM
  generalize aX (bpts rs0 a1 (idsb now0 rs0 a1)) = u0 at *
  generalize aY (bpts rs0 a1 (idsb now0 rs0 a1)) = u1 at *
  generalize bX (bpts rs0 a1 (idsb now0 rs0 a1)) = u2 at *
  generalize bY' (bpts rs0 a1 (idsb now0 rs0 a1)) = u3 at *
  generalize aok (bpts rs0 a1 (idsb now0 rs0 a1)) = u4 at *
  refine HSP.out.mono ?_
  rintro e w3 ⟨rfl, hb3⟩
  have s0 : w3.cell? ⟨w.heap.size, 0, none⟩ = some (.int .i64 now0) := by (repeat (first | with_reducible assumption | (refine newcell _ _ _ _ _ _ ?_ rfl; simp; done) | refine keepcell (by with_reducible assumption) ?_ | refine keepdrew ?_ | refine keepalloc ?_ _))
  have s1 : w3.cell? ⟨w.heap.size, 1, none⟩ = some (.slice a0 rs0.length cap0) := by (repeat (first | with_reducible assumption | (refine newcell _ _ _ _ _ _ ?_ rfl; simp; done) | refine keepcell (by with_reducible assumption) ?_ | refine keepdrew ?_ | refine keepalloc ?_ _))
  have hB3 : Below w.heap.size w w3 := by (repeat (first | with_reducible exact Below.refl _ _ | with_reducible assumption | (with_reducible refine btrans ?_ (by with_reducible assumption)) | with_reducible refine bdrew ?_ | with_reducible refine balloc ?_ _))
  clear HSP
  go_upto_region 6 with fail
  have gA := new_alloc w3 w3.heap.size (.cells #[.int .i64 u0, .int .i64 u1, .int .i64 u2, .int .i64 u3] 38) rfl
  have hB4 : Below w.heap.size w (w3.alloc (.cells #[.int .i64 u0, .int .i64 u1, .int .i64 u2, .int .i64 u3] 38)) := balloc hB3 _
  have x0 := keepalloc s0 (.cells #[.int .i64 u0, .int .i64 u1, .int .i64 u2, .int .i64 u3] 38)
  have x1 := keepalloc s1 (.cells #[.int .i64 u0, .int .i64 u1, .int .i64 u2, .int .i64 u3] 38)
  clear hb1 hb2 hb3 hB3 Ho2
  generalize w3.alloc (.cells #[.int .i64 u0, .int .i64 u1, .int .i64 u2, .int .i64 u3] 38) = w4 at *
  generalize w3.heap.size = b6 at *
  go_wp2_with fail
  refine (to_rows now0 a0 cap0 rs0 _ hm' (HP.out.below hB4)).mono ?_
  rintro e w5 ⟨b4, rfl, hg4, hl4, ho4, hb5⟩
  have y0 := keepcell hb5 x0
  have y1 := keepcell hb5 x1
  have Ho4 := hid (show Rws (fun c => b4 < c) w5 (some ⟨b4, 0, none⟩) rs0 from .inr ⟨b4, 0, rfl, hl4, ho4⟩)
  have hB5 := btrans hB4 hb5
  replace gA := keepheap2 hb5 gA
  clear ho4 hb5 hB4
  go_upto_region 7 with fail
  have hal : Below w5.heap.size w5 (w5.alloc (.cells #[.int .i64 now0, .slice (some ⟨b4, 0, none⟩) rs0.length rs0.length] 30)) := balloc (Below.refl _ _) _
  have gX := new_alloc w5 w5.heap.size (.cells #[.int .i64 now0, .slice (some ⟨b4, 0, none⟩) rs0.length rs0.length] 30) rfl
  have hB6 := btrans hB5 hal
  have Ho5 := hid (Ho4.out.below hal)
  replace gA := keepheap2 hal gA
  have k0 := keepcell hal y0
  have k1 := keepcell hal y1
  clear hal hB5 Ho4
  generalize w5.alloc (.cells #[.int .i64 now0, .slice (some ⟨b4, 0, none⟩) rs0.length rs0.length] 30) = w6 at *
  generalize w5.heap.size = X at *
  obtain ⟨d0, d1, _, _⟩ := cell2r gX
  go_wp2_with fail
  refine (HIM.out _ b4 Ho5.out).mono ?_
  rintro e w7 ⟨rfl, hb7⟩
  have hB7 := btrans hB6 hb7
  have Ho7 := hid (Ho5.out.below hb7)
  replace gA := keepheap2 hb7 gA
  replace gX := keepheap2 hb7 gX
  replace k0 := keepcell hb7 k0
  replace k1 := keepcell hb7 k1
  clear hb7 hB6 d0 d1 Ho5 HIM
  go_upto_region 8 with fail
  have hal : Below w7.heap.size w7 (w7.alloc (.cells #[.int .i64 u0, .int .i64 u1, .int .i64 u2, .int .i64 u3] 38)) := balloc (Below.refl _ _) _
  have gB := new_alloc w7 w7.heap.size (.cells #[.int .i64 u0, .int .i64 u1, .int .i64 u2, .int .i64 u3] 38) rfl
  have hB8 := btrans hB7 hal
  have Ho8 := hid (Ho7.out.below hal)
  replace gA := keepheap2 hal gA
  replace gX := keepheap2 hal gX
  replace k0 := keepcell hal k0
  replace k1 := keepcell hal k1
  clear hal hB7 Ho7
  generalize w7.alloc (.cells #[.int .i64 u0, .int .i64 u1, .int .i64 u2, .int .i64 u3] 38) = w8 at *
  generalize w7.heap.size = b9 at *
  obtain ⟨p0, p1, p2, p3, _, _, _, _⟩ := cell4 gA
  obtain ⟨v0, v1, v2, v3, _, _, _, _⟩ := cell4 gB
  go_wp2_with fail
  refine (eq_box_same _ _ _ _ _).mono ?_
  rintro e w9 ⟨rfl, hb9⟩
  have hB9 := btrans hB8 hb9
  have Ho9 := hid (Ho8.out.below hb9)
  replace gX := keepheap2 hb9 gX
  replace k0 := keepcell hb9 k0
  replace k1 := keepcell hb9 k1
  obtain ⟨d0, d1, _, _⟩ := cell2r gX
  have hbb : (u4 != u4) = false := by simp
  clear hb9 hB8 Ho8 p0 p1 p2 p3 v0 v1 v2 v3 gA gB gX q0 q1 r0 r1 s0 s1 x0 x1 y0 y1
  go_wp2_with fail
  go_region_held3 (fun w' => w'.cell? ⟨w.heap.size, 0, none⟩ = some (.int .i64 now0) ∧ w'.cell? ⟨w.heap.size, 1, none⟩ = some (.slice a0 rs0.length cap0) ∧ w'.cell? ⟨X, 0, none⟩ = some (.int .i64 now0) ∧ w'.cell? ⟨X, 1, none⟩ = some (.slice (some ⟨b4, 0, none⟩) rs0.length rs0.length)) ((go_split_ands; (repeat' apply And.intro) <;> (repeat (first | with_reducible assumption | with_reducible refine keepset ?_ (by dsimp only; omega) | with_reducible refine keepdrew ?_ | with_reducible refine keepcell (by with_reducible assumption) ?_ | with_reducible refine keepalloc ?_ _))))
    (first
      | (go_at_call 7; refine (to_rows now0 a0 cap0 rs0 _ hm' (HP.out.below (bdrew hB9))).mono ?_; rintro e z1 ⟨c1, rfl, hg1', hl1', ho1', hbv1⟩; have Hov1 := hid (show Rws (fun c => c1 < c) z1 (some ⟨c1, 0, none⟩) rs0 from .inr ⟨c1, 0, rfl, hl1', ho1'⟩); clear ho1'; have Hx1 := hid ((Ho9.out.below (bdrew (Below.refl _ _))).below hbv1))
      | (go_at_call 10; refine (eq_rows now0 _ _ _ _ rs0 _ hm' Hx1.out Hov1.out).mono ?_; rintro e z2 ⟨rfl, hbv2⟩))
  go_wp2_with fail
  go_ret
  exact ⟨rfl, by (repeat (first | with_reducible exact Below.refl _ _ | with_reducible assumption | (with_reducible refine btrans ?_ (by with_reducible assumption)) | with_reducible refine bdrew ?_ | with_reducible refine balloc ?_ _))⟩
set_option maxRecDepth 100000 in
theorem lifted (os : Os) (started : os.Started) (H : Type) (enc : TypeId × Value → H) :
    ReturnsInHanded {} Tryz.checked os 4 .any (Rows.fnExactBoundsSpec.pre6 enc Tryz.prog Tryz.f4 Rows.fnExactBoundsRow.domain false) (Rows.fnExactBoundsSpec.post enc Tryz.prog Tryz.f4 false true false false) := by
  refine returnsInHanded_of_change (C := Tryz.checked) own started (by kernel_rfl) Tryz.func4
    (ChangeSpec.witness6 (enc := enc) (C := Tryz.checked) false ⟨#[], #[.agg #[.int .i64 0, .slice none 0 0], .int .i64 0], []⟩ 8 (by kernel_rfl) (by kernel_rfl) (by kernel_rfl) (by kernel_rfl)) ?_
  intro W base args ds gs before hval0 hW hcnd _
  have hval : ∀ (j : Nat) t v, Tryz.f4.params[j]? = some t → args[j]? = some v → Value.okWide Tryz.prog W .any base t v := hval0
  have hW' := hW
  obtain ⟨p, q, hA0, hV, rfl, hfz, hnd⟩ := hW
  have hA : DataW.TrodAll enc Tryz.prog W 0 (fun _ => true) true Tryz.f4.params.toList args.toList ds p := hA0
  rw [Tryz.params4] at hA hval
  obtain ⟨v0, vs0, d0, ds0, p0, q0, hargs, rfl, rfl, h0, r0⟩ := trodAll_cons hA
  obtain ⟨v1, vs1, d1, ds1, p1, q1, rfl, rfl, rfl, h1, r1⟩ := trodAll_cons r0
  obtain ⟨rfl, rfl, rfl⟩ := trodAll_nil r1
  obtain rfl : args = #[v0, v1] := by cases args; simp_all
  obtain ⟨rfl, rfl⟩ := trodVars_none hV
  have k0 := h0
  have lt0 : ∀ x ∈ p0, x.block < W.heap.size := by obtain ⟨m, hm⟩ := k0; exact DataW.trod_lt m _ _ _ hm
  have k1 := h1
  have lt1 : ∀ x ∈ p1, x.block < W.heap.size := by obtain ⟨m, hm⟩ := k1; exact DataW.trod_lt m _ _ _ hm
  obtain ⟨c0_0, c0_1, g0_0, g0_1, m0, rfl, rfl, rfl, hy0_0, hy0_1⟩ := open_agg2 Tryz.underlying24 (by kernel_rfl) cells24 (hval 0 24 v0 rfl rfl) h0
  obtain ⟨now0, e0_0, rfl, wnow0⟩ := DataW.trod_int Tryz.underlying3 hy0_0
  simp at e0_0
  subst e0_0
  obtain ⟨a0, cap0, rs0, e0_1, hl0, w0⟩ := open_rows hy0_1
  subst e0_1
  obtain ⟨a1, rfl, rfl, rfl, w1⟩ := open_int Tryz.underlying3 (hval 1 3 v1 rfl rfl) h1
  clear hA0 hval0
  refine (walk now0 a0 cap0 rs0 a1 W wnow0 hl0 w0 w1).mono fun e W' ⟨he, bel⟩ => ?_
  subst he
  exact ⟨_, rfl, _, _, _, [], _, [], hW', trodAll_mk1 (shut_bool Tryz.underlying4 _), (trodAll_cons_mk (Below.trod laidOut (by kernel_rfl) (of_decide_eq_true (by kernel_rfl)) k0 bel lt0) (trodAll_cons_mk (Below.trod laidOut (by kernel_rfl) (of_decide_eq_true (by kernel_rfl)) k1 bel lt1) trodAll_mk0)), rfl, bel.frame _, fun h => by cases h⟩
theorem band {a b : Bool} (h1 : a = true) (h2 : b = true) : (a && b) = true := by rw [h1, h2]; rfl
set_option maxRecDepth 100000 in
theorem q1 : (Rows.fnExactBoundsRow.wf (OpenSpec.ofChange Rows.fnExactBoundsSpec)) = true := by kernel_rfl
set_option maxRecDepth 100000 in
theorem q2 : (laidOutB Tryz.pinned.checked.prog) = true := sh2
set_option maxRecDepth 100000 in
theorem q3 : (mapsRowed Tryz.pinned.checked.prog) = true := sh3
set_option maxRecDepth 100000 in
theorem q4 : (Tryz.f4.params.all (Tryz.pinned.checked.prog.readableRec ·)) = true := by kernel_rfl
set_option maxRecDepth 100000 in
theorem q5 : (namedTie Tryz.pinned.checked.prog Rows.fnExactBoundsRow.named Rows.fnExactBoundsSpec.vars) = true := by kernel_rfl
set_option maxRecDepth 100000 in
theorem q6 : ((Rows.fnExactBoundsRow.stops == [])) = true := by kernel_rfl
set_option maxRecDepth 100000 in
theorem q7 : ((Tryz.pinned.checked.prog.stops == [])) = true := sh7
set_option maxRecDepth 100000 in
theorem q8 : ((Rows.fnExactBoundsRow.knobs == [])) = true := by kernel_rfl
set_option maxRecDepth 100000 in
theorem q9 : ((Tryz.pinned.checked.prog.stopKnobs == [])) = true := sh9
set_option maxRecDepth 100000 in
theorem q10 : ((Rows.fnExactBoundsRow.inPlace == Tryz.pinned.checked.prog.inPlace 4)) = true := by kernel_rfl
set_option maxRecDepth 100000 in
theorem q11 : ((Rows.fnExactBoundsRow.unfollowed == Tryz.pinned.checked.prog.unfollowed 4)) = true := by kernel_rfl
set_option maxRecDepth 100000 in
theorem q12 : ((Rows.fnExactBoundsRow.recurses == Tryz.pinned.checked.prog.recurses 4)) = true := by kernel_rfl
set_option maxRecDepth 100000 in
theorem q13 : ((Rows.fnExactBoundsRow.named == Tryz.pinned.checked.prog.varsNamed 4)) = true := by kernel_rfl
set_option maxRecDepth 100000 in
theorem q14 : ((Rows.fnExactBoundsRow.maps == (Tryz.f4.params.toList ++ Rows.fnExactBoundsSpec.plain.varTypes Tryz.pinned.checked.prog).any (Tryz.pinned.checked.prog.mapsRec ·))) = true := by kernel_rfl
set_option maxRecDepth 100000 in
theorem q15 : ((Rows.fnExactBoundsRow.ifaces == (Tryz.f4.params.toList ++ Rows.fnExactBoundsSpec.plain.varTypes Tryz.pinned.checked.prog).any (Tryz.pinned.checked.prog.ifacesRec ·))) = true := by kernel_rfl
set_option maxRecDepth 100000 in
theorem q16 : ((Rows.fnExactBoundsRow.mapsOut == Tryz.pinned.checked.prog.mapsAmong Tryz.f4.resultTypes.toList)) = true := by kernel_rfl
set_option maxRecDepth 100000 in
theorem q17 : ((Rows.fnExactBoundsRow.loops == (Tryz.f4.params.toList ++ Rows.fnExactBoundsSpec.plain.varTypes Tryz.pinned.checked.prog).any (Tryz.pinned.checked.prog.loopsFrom ·))) = true := by kernel_rfl
set_option maxRecDepth 100000 in
theorem q18 : ((Rows.fnExactBoundsRow.wideKeys == (Tryz.f4.params.toList ++ Rows.fnExactBoundsSpec.plain.varTypes Tryz.pinned.checked.prog ++ Tryz.f4.resultTypes.toList).any (Tryz.pinned.checked.prog.wideKeysFrom ·))) = true := by kernel_rfl
set_option maxRecDepth 100000 in
theorem q19 : (Rows.fnExactBoundsSpec.vars.all (Tryz.pinned.checked.prog.varReadable ·)) = true := by kernel_rfl
set_option maxRecDepth 100000 in
theorem q20 : (Tryz.f4.resultTypes.all (fun t => Tryz.pinned.checked.prog.readableRec t && decide (t < Tryz.pinned.checked.prog.types.size))) = true := by kernel_rfl
set_option maxRecDepth 100000 in
theorem q21 : ((Rows.fnExactBoundsRow.ifacesOut == Tryz.f4.resultTypes.toList.any (Tryz.pinned.checked.prog.ifacesRec ·))) = true := by kernel_rfl
set_option maxRecDepth 100000 in
theorem q22 : ((Rows.fnExactBoundsRow.loopsOut == Tryz.f4.resultTypes.toList.any (Tryz.pinned.checked.prog.loopsFrom ·))) = true := by kernel_rfl
set_option maxRecDepth 100000 in
theorem q23 : ((Rows.fnExactBoundsRow.plainKeys == Tryz.pinned.checked.prog.plainKeys)) = true := sh23
set_option maxRecDepth 100000 in
theorem q24 : (Rows.fnExactBoundsRow.shortTexts.isNone) = true := by kernel_rfl
set_option maxRecDepth 100000 in
theorem q25 : (Tryz.pinned.checked.prog.stopsHeard) = true := sh25
set_option maxRecDepth 100000 in
theorem q26 : (Tryz.pinned.checked.prog.mayEnter) = true := sh26
set_option maxRecDepth 100000 in
theorem q27 : ((Rows.fnExactBoundsRow.lifted == Tryz.pinned.checked.prog.liftsFinal)) = true := sh27
set_option maxRecDepth 100000 in
theorem q28 : ((Tryz.pinned.checked.prog.make == some Rows.fnExactBoundsRow.make)) = true := sh28
set_option maxRecDepth 100000 in
theorem q29 : ((Rows.fnExactBoundsRow.kinds == (if Rows.fnExactBoundsRow.domain.isEmpty then [] else Tryz.f4.params.toList.map fun t => match Tryz.pinned.checked.prog.underlying t with | some (.int k) => some k | _ => none))) = true := by kernel_rfl
set_option maxRecDepth 100000 in
theorem q30 : ((Rows.fnExactBoundsRow.pinned == Rows.fnExactBoundsRow.pinnedBy)) = true := by kernel_rfl
set_option maxRecDepth 100000 in
theorem q31 : ((Rows.fnExactBoundsRow.veiled == (Tryz.f4.params.toList ++ Rows.fnExactBoundsSpec.plain.varTypes Tryz.pinned.checked.prog ++ Tryz.f4.resultTypes.toList).any (Tryz.pinned.checked.prog.veiledRec ·))) = true := by kernel_rfl
set_option maxRecDepth 100000 in
theorem q32 : (Rows.fnExactBoundsRow.veiledFits Tryz.pinned.checked.prog Tryz.f4.params.toList (Tryz.f4.params.toList ++ Rows.fnExactBoundsSpec.plain.varTypes Tryz.pinned.checked.prog ++ Tryz.f4.resultTypes.toList)) = true := by kernel_rfl
set_option maxRecDepth 100000 in
theorem closed : joinedFacts Tryz.pinned.checked.prog 4 Tryz.f4 Rows.fnExactBoundsSpec Rows.fnExactBoundsRow = true := by
  unfold joinedFacts
  exact (band (band (band (band (band (band (band (band (band (band (band (band (band (band (band (band (band (band (band (band (band (band (band (band (band (band (band (band (band (band (band q1 q2) q3) q4) q5) q6) q7) q8) q9) q10) q11) q12) q13) q14) q15) q16) q17) q18) q19) q20) q21) q22) q23) q24) q25) q26) q27) q28) q29) q30) q31) q32)
set_option maxRecDepth 100000 in
theorem over : Rows.fnExactBoundsRow.holds Tryz.pinned (OpenSpec.ofChange Rows.fnExactBoundsSpec) :=
  OpenClaim.holds_of_wide 4 Tryz.f4 rfl rfl rfl rfl rfl rfl rfl ⟨rfl, rfl, rfl, rfl, rfl⟩ rfl rfl rfl rfl rfl (by kernel_rfl) Tryz.func4 closed
    (of_decide_eq_true (by kernel_rfl)) (by unfold Func.isWrapper; first | (rw [if_pos (by decide +kernel)]; kernel_rfl) | (rw [if_neg (by decide +kernel)]; exact ⟨rfl, rfl⟩))
    (fun os started H enc _ => lifted os started H enc)
end Go.Proofs.YtpgcnadmhbjlgaaGreat.fnExactBounds
namespace Go.Proofs.YtpgcnadmhbjlgaaGreat
theorem fnExactBounds_holds : Rows.FnExactBoundsSaid := fnExactBounds.over
#print axioms fnExactBounds_holds
end Go.Proofs.YtpgcnadmhbjlgaaGreat
