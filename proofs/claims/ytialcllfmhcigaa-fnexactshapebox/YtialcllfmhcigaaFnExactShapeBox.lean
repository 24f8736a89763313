/- For every shape the landed ShapeBox answers as the specification's and leaves it as it was. -/
import Derived.Test.YtialcllfmhcigaaRows
import Derived.Test.YtialcllfmhcigaaFacts
import Derived.Test.YtialcllfmhcigaaShBox
import Derived.WalkKit
import Derived.Deep.DeepCutAuto
import Derived.ProofKit
import Derived.OpenShut
import Derived.ShutString
import Derived.ChangeOld
import Derived.Below
import Derived.Carry
import Derived.Lib.SmallJoins
import Derived.Deep.SlicePairs
namespace Go.Proofs.Ytialcllfmhcigaa.fnExactShapeBox
open Go.ChangeShapes Go.WideShapes Go.ChangeAt Go.RowKit Go.Joins
set_option linter.unusedVariables false
set_option linter.unusedSimpArgs false
theorem own : ownKnob Try.prog.godebug = none := by kernel_rfl
theorem laidOut : laidOutB Try.prog = true := by kernel_rfl
theorem cells76 : Try.prog.cellsOf 76 = 2 := by kernel_rfl
theorem cells80 : Try.prog.cellsOf 80 = 2 := by kernel_rfl
theorem eq_box_same (a b c d : Int) (w : World) : Calls Try.prog 70 #[.agg #[.int .i64 a, .int .i64 b, .int .i64 c, .int .i64 d], .agg #[.int .i64 a, .int .i64 b, .int .i64 c, .int .i64 d]] w fun e w' => e = .returned (.bool true) ∧ Below w.heap.size w w' := by
  go_enter Try.func70, Try.ntmps70
  go_wp2_with fail
  go_ret
  exact ⟨rfl, by (repeat (first | with_reducible exact Below.refl _ _ | with_reducible assumption | (with_reducible refine btrans ?_ (by with_reducible assumption)) | with_reducible refine bdrew ?_ | with_reducible refine balloc ?_ _))⟩
set_option maxHeartbeats 2000000 in
theorem walk (kd0 : Int) (a0 : Option Addr) (cap0 : Nat) (ps0 : List (Int × Int)) (w : World) (wkd0 : (Lit.int .i64 kd0).wf = true) (w0 : PtsIn w a0 cap0 ps0) :
    Calls Try.prog 14 #[shv kd0 a0 ps0.length cap0] w fun e w' => e = .returned (.bool true) ∧ Below w.heap.size w w' := by
  clear wkd0
  obtain ⟨hp, hc, hm⟩ := w0
  by_cases hbig : (1048576 : Int) < (ps0.length : Int)
  · go_enter Try.func14, Try.ntmps14
    go_wp2_with fail
    refine (szs_big _ _ _ _ _ _ (by omega) (by omega) (by omega) hbig).mono ?_
    rintro e w1 ⟨rfl, hb1⟩
    go_wp2_with fail
    go_ret
    exact ⟨rfl, by (repeat (first | with_reducible exact Below.refl _ _ | with_reducible assumption | (with_reducible refine btrans ?_ (by with_reducible assumption)) | with_reducible refine bdrew ?_ | with_reducible refine balloc ?_ _))⟩
  have hm' : ps0.length ≤ 1099511627776 := by omega
  have hp0 := hid hp
  clear hp
  go_enter Try.func14, Try.ntmps14
  go_wp2_with fail
  refine (szs_ok _ _ _ _ _ _ (by omega) (by omega) (by omega)).mono ?_
  rintro e w1 ⟨rfl, hb1⟩
  have q0 : w1.cell? ⟨w.heap.size, 0, none⟩ = some (.int .i64 kd0) := by (repeat (first | with_reducible assumption | (refine newcell _ _ _ _ _ _ ?_ rfl; simp; done) | refine keepcell (by with_reducible assumption) ?_ | refine keepdrew ?_ | refine keepalloc ?_ _))
  have q1 : w1.cell? ⟨w.heap.size, 1, none⟩ = some (.slice a0 ps0.length cap0) := by (repeat (first | with_reducible assumption | (refine newcell _ _ _ _ _ _ ?_ rfl; simp; done) | refine keepcell (by with_reducible assumption) ?_ | refine keepdrew ?_ | refine keepalloc ?_ _))
  have hB1 : Below w.heap.size w w1 := by (repeat (first | with_reducible exact Below.refl _ _ | with_reducible assumption | (with_reducible refine btrans ?_ (by with_reducible assumption)) | with_reducible refine bdrew ?_ | with_reducible refine balloc ?_ _))
  have hs1 : ¬ ((1048576 : Int) - (ps0.length : Int) < 0) := by omega
  go_wp2_with fail
  refine (to_shape kd0 a0 cap0 ps0 _ hm' hc (hp0.out.below hB1)).mono ?_
  clear hB1
  rintro e w2 ⟨b2, rfl, hg2, ho2, hb2⟩
  have r0 : w2.cell? ⟨w.heap.size, 0, none⟩ = some (.int .i64 kd0) := by (repeat (first | with_reducible assumption | (refine newcell _ _ _ _ _ _ ?_ rfl; simp; done) | refine keepcell (by with_reducible assumption) ?_ | refine keepdrew ?_ | refine keepalloc ?_ _))
  have r1 : w2.cell? ⟨w.heap.size, 1, none⟩ = some (.slice a0 ps0.length cap0) := by (repeat (first | with_reducible assumption | (refine newcell _ _ _ _ _ _ ?_ rfl; simp; done) | refine keepcell (by with_reducible assumption) ?_ | refine keepdrew ?_ | refine keepalloc ?_ _))
  have Ho2 := hid ho2
  clear ho2
  go_wp2_with fail
  refine (spec_ShapeBox _ _ _ ps0 _ hm' (Nat.le_refl _) Ho2.out.pts).mono ?_
  rintro e w3 ⟨rfl, hb3⟩
  have s0 : w3.cell? ⟨w.heap.size, 0, none⟩ = some (.int .i64 kd0) := by (repeat (first | with_reducible assumption | (refine newcell _ _ _ _ _ _ ?_ rfl; simp; done) | refine keepcell (by with_reducible assumption) ?_ | refine keepdrew ?_ | refine keepalloc ?_ _))
  have s1 : w3.cell? ⟨w.heap.size, 1, none⟩ = some (.slice a0 ps0.length cap0) := by (repeat (first | with_reducible assumption | (refine newcell _ _ _ _ _ _ ?_ rfl; simp; done) | refine keepcell (by with_reducible assumption) ?_ | refine keepdrew ?_ | refine keepalloc ?_ _))
  have hB3 : Below w.heap.size w w3 := by (repeat (first | with_reducible exact Below.refl _ _ | with_reducible assumption | (with_reducible refine btrans ?_ (by with_reducible assumption)) | with_reducible refine bdrew ?_ | with_reducible refine balloc ?_ _))
  have hl3 : w.heap.size < w3.heap.size := World.block_lt_of_cell? w3 _ s0
  clear hb1 hb2 hb3
  go_wp2_with fail
  refine (to_shape kd0 a0 cap0 ps0 _ hm' hc (hp0.out.below (balloc hB3 _))).mono ?_
  rintro e w4 ⟨b4, rfl, hg4, ho4, hb4⟩
  have hB3' := hid hB3
  clear hB3
  have t0 : w4.cell? ⟨w.heap.size, 0, none⟩ = some (.int .i64 kd0) := by (repeat (first | with_reducible assumption | (refine newcell _ _ _ _ _ _ ?_ rfl; simp; done) | refine keepcell (by with_reducible assumption) ?_ | refine keepdrew ?_ | refine keepalloc ?_ _))
  have t1 : w4.cell? ⟨w.heap.size, 1, none⟩ = some (.slice a0 ps0.length cap0) := by (repeat (first | with_reducible assumption | (refine newcell _ _ _ _ _ _ ?_ rfl; simp; done) | refine keepcell (by with_reducible assumption) ?_ | refine keepdrew ?_ | refine keepalloc ?_ _))
  have tb0 : w4.cell? ⟨w3.heap.size, 0, none⟩ = some (.int .i64 (sv aX kd0 ps0)) := by (repeat (first | with_reducible assumption | (refine newcell _ _ _ _ _ _ ?_ rfl; simp; done) | refine keepcell (by with_reducible assumption) ?_ | refine keepdrew ?_ | refine keepalloc ?_ _))
  have tb1 : w4.cell? ⟨w3.heap.size, 1, none⟩ = some (.int .i64 (sv aY kd0 ps0)) := by (repeat (first | with_reducible assumption | (refine newcell _ _ _ _ _ _ ?_ rfl; simp; done) | refine keepcell (by with_reducible assumption) ?_ | refine keepdrew ?_ | refine keepalloc ?_ _))
  have tb2 : w4.cell? ⟨w3.heap.size, 2, none⟩ = some (.int .i64 (sv bX kd0 ps0)) := by (repeat (first | with_reducible assumption | (refine newcell _ _ _ _ _ _ ?_ rfl; simp; done) | refine keepcell (by with_reducible assumption) ?_ | refine keepdrew ?_ | refine keepalloc ?_ _))
  have tb3 : w4.cell? ⟨w3.heap.size, 3, none⟩ = some (.int .i64 (sv bY' kd0 ps0)) := by (repeat (first | with_reducible assumption | (refine newcell _ _ _ _ _ _ ?_ rfl; simp; done) | refine keepcell (by with_reducible assumption) ?_ | refine keepdrew ?_ | refine keepalloc ?_ _))
  have Ho4 := hid ho4
  have hl4 : w3.heap.size < w4.heap.size := World.block_lt_of_cell? w4 _ tb0
  clear ho4
  go_wp2_with fail
  refine (impl_ShapeBox _ _ _ ps0 _ hm' (Nat.le_refl _) (Ho4.out.below (balloc (Below.refl _ _) _)).pts).mono ?_
  rintro e w5 ⟨rfl, hb5⟩
  have u0 : w5.cell? ⟨w.heap.size, 0, none⟩ = some (.int .i64 kd0) := by (repeat (first | with_reducible assumption | (refine newcell _ _ _ _ _ _ ?_ rfl; simp; done) | refine keepcell (by with_reducible assumption) ?_ | refine keepdrew ?_ | refine keepalloc ?_ _))
  have u1 : w5.cell? ⟨w.heap.size, 1, none⟩ = some (.slice a0 ps0.length cap0) := by (repeat (first | with_reducible assumption | (refine newcell _ _ _ _ _ _ ?_ rfl; simp; done) | refine keepcell (by with_reducible assumption) ?_ | refine keepdrew ?_ | refine keepalloc ?_ _))
  have u2 : w5.cell? ⟨w4.heap.size, 0, none⟩ = some (.int .i64 kd0) := by (repeat (first | with_reducible assumption | (refine newcell _ _ _ _ _ _ ?_ rfl; simp; done) | refine keepcell (by with_reducible assumption) ?_ | refine keepdrew ?_ | refine keepalloc ?_ _))
  have u3 : w5.cell? ⟨w4.heap.size, 1, none⟩ = some (.slice (some ⟨b4, 0, none⟩) ps0.length ps0.length) := by (repeat (first | with_reducible assumption | (refine newcell _ _ _ _ _ _ ?_ rfl; simp; done) | refine keepcell (by with_reducible assumption) ?_ | refine keepdrew ?_ | refine keepalloc ?_ _))
  have ub0 : w5.cell? ⟨w3.heap.size, 0, none⟩ = some (.int .i64 (sv aX kd0 ps0)) := by (repeat (first | with_reducible assumption | (refine newcell _ _ _ _ _ _ ?_ rfl; simp; done) | refine keepcell (by with_reducible assumption) ?_ | refine keepdrew ?_ | refine keepalloc ?_ _))
  have ub1 : w5.cell? ⟨w3.heap.size, 1, none⟩ = some (.int .i64 (sv aY kd0 ps0)) := by (repeat (first | with_reducible assumption | (refine newcell _ _ _ _ _ _ ?_ rfl; simp; done) | refine keepcell (by with_reducible assumption) ?_ | refine keepdrew ?_ | refine keepalloc ?_ _))
  have ub2 : w5.cell? ⟨w3.heap.size, 2, none⟩ = some (.int .i64 (sv bX kd0 ps0)) := by (repeat (first | with_reducible assumption | (refine newcell _ _ _ _ _ _ ?_ rfl; simp; done) | refine keepcell (by with_reducible assumption) ?_ | refine keepdrew ?_ | refine keepalloc ?_ _))
  have ub3 : w5.cell? ⟨w3.heap.size, 3, none⟩ = some (.int .i64 (sv bY' kd0 ps0)) := by (repeat (first | with_reducible assumption | (refine newcell _ _ _ _ _ _ ?_ rfl; simp; done) | refine keepcell (by with_reducible assumption) ?_ | refine keepdrew ?_ | refine keepalloc ?_ _))
  have Ho5 := hid (Ho4.out.below (btrans (balloc (Below.refl _ _) _) hb5))
  have hl5 : w4.heap.size < w5.heap.size := World.block_lt_of_cell? w5 _ u2
  have hl6 : w3.heap.size < w5.heap.size := World.block_lt_of_cell? w5 _ ub0
  go_wp2_with fail
  refine (eq_box_same _ _ _ _ _).mono ?_
  rintro e w6 ⟨rfl, hb6⟩
  have v0 : w6.cell? ⟨w.heap.size, 0, none⟩ = some (.int .i64 kd0) := by (repeat (first | with_reducible assumption | (refine newcell _ _ _ _ _ _ ?_ rfl; simp; done) | refine keepcell (by with_reducible assumption) ?_ | refine keepdrew ?_ | refine keepalloc ?_ _))
  have v1 : w6.cell? ⟨w.heap.size, 1, none⟩ = some (.slice a0 ps0.length cap0) := by (repeat (first | with_reducible assumption | (refine newcell _ _ _ _ _ _ ?_ rfl; simp; done) | refine keepcell (by with_reducible assumption) ?_ | refine keepdrew ?_ | refine keepalloc ?_ _))
  have v2 : w6.cell? ⟨w4.heap.size, 0, none⟩ = some (.int .i64 kd0) := by (repeat (first | with_reducible assumption | (refine newcell _ _ _ _ _ _ ?_ rfl; simp; done) | refine keepcell (by with_reducible assumption) ?_ | refine keepdrew ?_ | refine keepalloc ?_ _))
  have v3 : w6.cell? ⟨w4.heap.size, 1, none⟩ = some (.slice (some ⟨b4, 0, none⟩) ps0.length ps0.length) := by (repeat (first | with_reducible assumption | (refine newcell _ _ _ _ _ _ ?_ rfl; simp; done) | refine keepcell (by with_reducible assumption) ?_ | refine keepdrew ?_ | refine keepalloc ?_ _))
  have Ho6 := hid (Ho5.out.below (btrans (balloc (Below.refl _ _) _) hb6))
  have hB6 : Below w.heap.size w w6 := by have hB3 := hB3'.out; (repeat (first | with_reducible exact Below.refl _ _ | with_reducible assumption | (with_reducible refine btrans ?_ (by with_reducible assumption)) | with_reducible refine bdrew ?_ | with_reducible refine balloc ?_ _))
  clear hb4 hb5 hb6
  generalize w4.heap.size = X at *
  go_wp2_with fail
  go_region_held3 (fun w' => w'.cell? ⟨w.heap.size, 0, none⟩ = some (.int .i64 kd0) ∧ w'.cell? ⟨w.heap.size, 1, none⟩ = some (.slice a0 ps0.length cap0) ∧ w'.cell? ⟨X, 0, none⟩ = some (.int .i64 kd0) ∧ w'.cell? ⟨X, 1, none⟩ = some (.slice (some ⟨b4, 0, none⟩) ps0.length ps0.length)) ((go_split_ands; (repeat' apply And.intro) <;> (repeat (first | with_reducible assumption | with_reducible refine keepset ?_ (by dsimp only; omega) | with_reducible refine keepdrew ?_ | with_reducible refine keepcell (by with_reducible assumption) ?_ | with_reducible refine keepalloc ?_ _))))
    (first
      | (go_at_call 75; refine (to_shape kd0 a0 cap0 ps0 _ hm' hc (hp0.out.below (bdrew hB6))).mono ?_; rintro e v1 ⟨c1, rfl, hg1', ho1', hbv1⟩; have Hov1 := hid ho1'; clear ho1'; have Hx1 := hid ((Ho6.out.below (bdrew (Below.refl _ _))).below hbv1))
      | (go_at_call 77; refine (eq_shape kd0 _ _ _ _ ps0 _ hm' (Nat.le_refl _) (Nat.le_refl _) Hx1.out.pts Hov1.out.pts).mono ?_; rintro e v2 ⟨rfl, hbv2⟩))
  go_wp2_with fail
  go_ret
  exact ⟨rfl, by (repeat (first | with_reducible exact Below.refl _ _ | with_reducible assumption | (with_reducible refine btrans ?_ (by with_reducible assumption)) | with_reducible refine bdrew ?_ | with_reducible refine balloc ?_ _))⟩
set_option maxRecDepth 100000 in
theorem lifted (os : Os) (started : os.Started) (H : Type) (enc : TypeId × Value → H) :
    ReturnsInHanded {} Try.checked os 14 .any (Rows.fnExactShapeBoxSpec.pre6 enc Try.prog Try.f14 Rows.fnExactShapeBoxRow.domain false) (Rows.fnExactShapeBoxSpec.post enc Try.prog Try.f14 false true false false) := by
  refine returnsInHanded_of_change (C := Try.checked) own started (by kernel_rfl) Try.func14
    (ChangeSpec.witness6 (enc := enc) (C := Try.checked) false ⟨#[], #[.agg #[.int .i64 0, .slice none 0 0]], []⟩ 8 (by kernel_rfl) (by kernel_rfl) (by kernel_rfl) (by kernel_rfl)) ?_
  intro W base args ds gs before hval0 hW hcnd _
  have hval : ∀ (j : Nat) t v, Try.f14.params[j]? = some t → args[j]? = some v → Value.okWide Try.prog W .any base t v := hval0
  have hW' := hW
  obtain ⟨p, q, hA0, hV, rfl, hfz, hnd⟩ := hW
  have hA : DataW.TrodAll enc Try.prog W 0 (fun _ => true) true Try.f14.params.toList args.toList ds p := hA0
  rw [Try.params14] at hA hval
  obtain ⟨v0, vs0, d0, ds0, p0, q0, hargs, rfl, rfl, h0, r0⟩ := trodAll_cons hA
  obtain ⟨rfl, rfl, rfl⟩ := trodAll_nil r0
  obtain rfl : args = #[v0] := by cases args; simp_all
  obtain ⟨rfl, rfl⟩ := trodVars_none hV
  have k0 := h0
  have lt0 : ∀ x ∈ p0, x.block < W.heap.size := by obtain ⟨m, hm⟩ := k0; exact DataW.trod_lt m _ _ _ hm
  obtain ⟨c0_0, c0_1, g0_0, g0_1, m0, rfl, rfl, rfl, hy0_0, hy0_1⟩ := open_agg2 Try.underlying80 (by kernel_rfl) cells80 (hval 0 80 v0 rfl rfl) h0
  obtain ⟨kd0, e0_0, rfl, wkd0⟩ := DataW.trod_int Try.underlying3 hy0_0
  simp at e0_0
  subst e0_0
  obtain ⟨a0, cap0, ps0, e0_1, w0⟩ : ∃ (a : Option Addr) (cap : Nat) (ps : List (Int × Int)), c0_1 = .slice a ps.length cap ∧ PtsIn W a cap ps := by
    rcases Go.Deep.open_slice_pairs Try.underlying68 Try.underlying76 cells76 rfl rfl (by kernel_rfl) (by kernel_rfl) hy0_1 with ⟨hcs, _⟩ | ⟨x, l, c, m, n, V0, V1, D0, D1, P0, P1, hcs, _, hl, hm, hmm, _, hall⟩
    · simp at hcs
      exact ⟨none, 0, [], hcs, ptsIn_nil _ _⟩
    · simp at hcs
      obtain ⟨ps, hp, hw⟩ := ptsIn_of hl hm (fun j hj => by
        obtain ⟨h1, h2, h3, h4⟩ := hall j (by rw [hmm]; simp; omega)
        obtain ⟨z0, e0, _, y0⟩ := DataW.trod_int Try.underlying3 h3
        obtain ⟨z1, e1, _, y1⟩ := DataW.trod_int Try.underlying3 h4
        simp at e0 e1
        exact ⟨z0, z1, by rw [h1, e0], by rw [h2, e1], y0, y1⟩)
      exact ⟨some x, c, ps, by rw [hcs, hp], hw⟩
  subst e0_1
  clear hA0 hval0
  refine (walk kd0 a0 cap0 ps0 W wkd0 w0).mono fun e W' ⟨he, bel⟩ => ?_
  subst he
  exact ⟨_, rfl, _, _, _, [], _, [], hW', trodAll_mk1 (shut_bool Try.underlying4 _), (trodAll_cons_mk (Below.trod laidOut (by kernel_rfl) (of_decide_eq_true (by kernel_rfl)) k0 bel lt0) trodAll_mk0), rfl, bel.frame _, fun h => by cases h⟩
theorem band {a b : Bool} (h1 : a = true) (h2 : b = true) : (a && b) = true := by rw [h1, h2]; rfl
set_option maxRecDepth 100000 in
theorem q1 : (Rows.fnExactShapeBoxRow.wf (OpenSpec.ofChange Rows.fnExactShapeBoxSpec)) = true := by kernel_rfl
set_option maxRecDepth 100000 in
theorem q2 : (laidOutB Try.pinned.checked.prog) = true := sh2
set_option maxRecDepth 100000 in
theorem q3 : (mapsRowed Try.pinned.checked.prog) = true := sh3
set_option maxRecDepth 100000 in
theorem q4 : (Try.f14.params.all (Try.pinned.checked.prog.readableRec ·)) = true := by kernel_rfl
set_option maxRecDepth 100000 in
theorem q5 : (namedTie Try.pinned.checked.prog Rows.fnExactShapeBoxRow.named Rows.fnExactShapeBoxSpec.vars) = true := by kernel_rfl
set_option maxRecDepth 100000 in
theorem q6 : ((Rows.fnExactShapeBoxRow.stops == [])) = true := by kernel_rfl
set_option maxRecDepth 100000 in
theorem q7 : ((Try.pinned.checked.prog.stops == [])) = true := sh7
set_option maxRecDepth 100000 in
theorem q8 : ((Rows.fnExactShapeBoxRow.knobs == [])) = true := by kernel_rfl
set_option maxRecDepth 100000 in
theorem q9 : ((Try.pinned.checked.prog.stopKnobs == [])) = true := sh9
set_option maxRecDepth 100000 in
theorem q10 : ((Rows.fnExactShapeBoxRow.inPlace == Try.pinned.checked.prog.inPlace 14)) = true := by kernel_rfl
set_option maxRecDepth 100000 in
theorem q11 : ((Rows.fnExactShapeBoxRow.unfollowed == Try.pinned.checked.prog.unfollowed 14)) = true := by kernel_rfl
set_option maxRecDepth 100000 in
theorem q12 : ((Rows.fnExactShapeBoxRow.recurses == Try.pinned.checked.prog.recurses 14)) = true := by kernel_rfl
set_option maxRecDepth 100000 in
theorem q13 : ((Rows.fnExactShapeBoxRow.named == Try.pinned.checked.prog.varsNamed 14)) = true := by kernel_rfl
set_option maxRecDepth 100000 in
theorem q14 : ((Rows.fnExactShapeBoxRow.maps == (Try.f14.params.toList ++ Rows.fnExactShapeBoxSpec.plain.varTypes Try.pinned.checked.prog).any (Try.pinned.checked.prog.mapsRec ·))) = true := by kernel_rfl
set_option maxRecDepth 100000 in
theorem q15 : ((Rows.fnExactShapeBoxRow.ifaces == (Try.f14.params.toList ++ Rows.fnExactShapeBoxSpec.plain.varTypes Try.pinned.checked.prog).any (Try.pinned.checked.prog.ifacesRec ·))) = true := by kernel_rfl
set_option maxRecDepth 100000 in
theorem q16 : ((Rows.fnExactShapeBoxRow.mapsOut == Try.pinned.checked.prog.mapsAmong Try.f14.resultTypes.toList)) = true := by kernel_rfl
set_option maxRecDepth 100000 in
theorem q17 : ((Rows.fnExactShapeBoxRow.loops == (Try.f14.params.toList ++ Rows.fnExactShapeBoxSpec.plain.varTypes Try.pinned.checked.prog).any (Try.pinned.checked.prog.loopsFrom ·))) = true := by kernel_rfl
set_option maxRecDepth 100000 in
theorem q18 : ((Rows.fnExactShapeBoxRow.wideKeys == (Try.f14.params.toList ++ Rows.fnExactShapeBoxSpec.plain.varTypes Try.pinned.checked.prog ++ Try.f14.resultTypes.toList).any (Try.pinned.checked.prog.wideKeysFrom ·))) = true := by kernel_rfl
set_option maxRecDepth 100000 in
theorem q19 : (Rows.fnExactShapeBoxSpec.vars.all (Try.pinned.checked.prog.varReadable ·)) = true := by kernel_rfl
set_option maxRecDepth 100000 in
theorem q20 : (Try.f14.resultTypes.all (fun t => Try.pinned.checked.prog.readableRec t && decide (t < Try.pinned.checked.prog.types.size))) = true := by kernel_rfl
set_option maxRecDepth 100000 in
theorem q21 : ((Rows.fnExactShapeBoxRow.ifacesOut == Try.f14.resultTypes.toList.any (Try.pinned.checked.prog.ifacesRec ·))) = true := by kernel_rfl
set_option maxRecDepth 100000 in
theorem q22 : ((Rows.fnExactShapeBoxRow.loopsOut == Try.f14.resultTypes.toList.any (Try.pinned.checked.prog.loopsFrom ·))) = true := by kernel_rfl
set_option maxRecDepth 100000 in
theorem q23 : ((Rows.fnExactShapeBoxRow.plainKeys == Try.pinned.checked.prog.plainKeys)) = true := sh23
set_option maxRecDepth 100000 in
theorem q24 : (Rows.fnExactShapeBoxRow.shortTexts.isNone) = true := by kernel_rfl
set_option maxRecDepth 100000 in
theorem q25 : (Try.pinned.checked.prog.stopsHeard) = true := sh25
set_option maxRecDepth 100000 in
theorem q26 : (Try.pinned.checked.prog.mayEnter) = true := sh26
set_option maxRecDepth 100000 in
theorem q27 : ((Rows.fnExactShapeBoxRow.lifted == Try.pinned.checked.prog.liftsFinal)) = true := sh27
set_option maxRecDepth 100000 in
theorem q28 : ((Try.pinned.checked.prog.make == some Rows.fnExactShapeBoxRow.make)) = true := sh28
set_option maxRecDepth 100000 in
theorem q29 : ((Rows.fnExactShapeBoxRow.kinds == (if Rows.fnExactShapeBoxRow.domain.isEmpty then [] else Try.f14.params.toList.map fun t => match Try.pinned.checked.prog.underlying t with | some (.int k) => some k | _ => none))) = true := by kernel_rfl
set_option maxRecDepth 100000 in
theorem q30 : ((Rows.fnExactShapeBoxRow.pinned == Rows.fnExactShapeBoxRow.pinnedBy)) = true := by kernel_rfl
set_option maxRecDepth 100000 in
theorem q31 : ((Rows.fnExactShapeBoxRow.veiled == (Try.f14.params.toList ++ Rows.fnExactShapeBoxSpec.plain.varTypes Try.pinned.checked.prog ++ Try.f14.resultTypes.toList).any (Try.pinned.checked.prog.veiledRec ·))) = true := by kernel_rfl
set_option maxRecDepth 100000 in
theorem q32 : (Rows.fnExactShapeBoxRow.veiledFits Try.pinned.checked.prog Try.f14.params.toList (Try.f14.params.toList ++ Rows.fnExactShapeBoxSpec.plain.varTypes Try.pinned.checked.prog ++ Try.f14.resultTypes.toList)) = true := by kernel_rfl
set_option maxRecDepth 100000 in
theorem closed : joinedFacts Try.pinned.checked.prog 14 Try.f14 Rows.fnExactShapeBoxSpec Rows.fnExactShapeBoxRow = true := by
  unfold joinedFacts
  exact (band (band (band (band (band (band (band (band (band (band (band (band (band (band (band (band (band (band (band (band (band (band (band (band (band (band (band (band (band (band (band q1 q2) q3) q4) q5) q6) q7) q8) q9) q10) q11) q12) q13) q14) q15) q16) q17) q18) q19) q20) q21) q22) q23) q24) q25) q26) q27) q28) q29) q30) q31) q32)
set_option maxRecDepth 100000 in
theorem over : Rows.fnExactShapeBoxRow.holds Try.pinned (OpenSpec.ofChange Rows.fnExactShapeBoxSpec) :=
  OpenClaim.holds_of_wide 14 Try.f14 rfl rfl rfl rfl rfl rfl rfl ⟨rfl, rfl, rfl, rfl, rfl⟩ rfl rfl rfl rfl rfl (by kernel_rfl) Try.func14 closed
    (of_decide_eq_true (by kernel_rfl)) (by unfold Func.isWrapper; first | (rw [if_pos (by decide +kernel)]; kernel_rfl) | (rw [if_neg (by decide +kernel)]; exact ⟨rfl, rfl⟩))
    (fun os started H enc _ => lifted os started H enc)
end Go.Proofs.Ytialcllfmhcigaa.fnExactShapeBox
namespace Go.Proofs.Ytialcllfmhcigaa
theorem fnExactShapeBox_holds : Rows.FnExactShapeBoxSaid := fnExactShapeBox.over
#print axioms fnExactShapeBox_holds
end Go.Proofs.Ytialcllfmhcigaa
