/- For every shape the landed ShapeOk answers as the specification's and leaves it as it was. -/
import Derived.Test.YtialcllfmhcigaaRows
import Derived.Test.YtialcllfmhcigaaFacts
import Derived.Test.YtialcllfmhcigaaShLaw
import Derived.WalkKit
import Derived.Deep.DeepCutAuto
import Derived.ProofKit
import Derived.OpenShut
import Derived.ShutString
import Derived.ChangeOld
import Derived.Below
import Derived.Carry
import Derived.Lib.SmallJoins
import Derived.Deep.SlicePairs
namespace Go.Proofs.Ytialcllfmhcigaa.fnExactShapeOk
open Go.ChangeShapes Go.WideShapes Go.ChangeAt Go.RowKit Go.Joins
set_option linter.unusedVariables false
set_option linter.unusedSimpArgs false
theorem own : ownKnob Try.prog.godebug = none := by kernel_rfl
theorem laidOut : laidOutB Try.prog = true := by kernel_rfl
theorem cells76 : Try.prog.cellsOf 76 = 2 := by kernel_rfl
theorem cells80 : Try.prog.cellsOf 80 = 2 := by kernel_rfl
set_option maxHeartbeats 2000000 in
theorem walk (kd0 : Int) (a0 : Option Addr) (cap0 : Nat) (ps0 : List (Int × Int)) (w : World) (wkd0 : (Lit.int .i64 kd0).wf = true) (w0 : PtsIn w a0 cap0 ps0) :
    Calls Try.prog 13 #[shv kd0 a0 ps0.length cap0] w fun e w' => e = .returned (.bool true) ∧ Below w.heap.size w w' := by
  clear wkd0
  obtain ⟨hp, hc, hm⟩ := w0
  by_cases hbig : (1048576 : Int) < (ps0.length : Int)
  · go_enter Try.func13, Try.ntmps13
    go_wp2_with fail
    refine (szs_big _ _ _ _ _ _ (by omega) (by omega) (by omega) hbig).mono ?_
    rintro e w1 ⟨rfl, hb1⟩
    go_wp2_with fail
    go_ret
    exact ⟨rfl, by (repeat (first | with_reducible exact Below.refl _ _ | with_reducible assumption | (with_reducible refine btrans ?_ (by with_reducible assumption)) | with_reducible refine bdrew ?_ | with_reducible refine balloc ?_ _))⟩
  have hm' : ps0.length ≤ 1099511627776 := by omega
  have hp0 := hid hp
  clear hp
  go_enter Try.func13, Try.ntmps13
  go_wp2_with fail
  refine (szs_ok _ _ _ _ _ _ (by omega) (by omega) (by omega)).mono ?_
  rintro e w1 ⟨rfl, hb1⟩
  have q0 : w1.cell? ⟨w.heap.size, 0, none⟩ = some (.int .i64 kd0) := by (repeat (first | with_reducible assumption | (refine newcell _ _ _ _ _ _ ?_ rfl; simp; done) | refine keepcell (by with_reducible assumption) ?_ | refine keepdrew ?_ | refine keepalloc ?_ _))
  have q1 : w1.cell? ⟨w.heap.size, 1, none⟩ = some (.slice a0 ps0.length cap0) := by (repeat (first | with_reducible assumption | (refine newcell _ _ _ _ _ _ ?_ rfl; simp; done) | refine keepcell (by with_reducible assumption) ?_ | refine keepdrew ?_ | refine keepalloc ?_ _))
  have hB1 : Below w.heap.size w w1 := by (repeat (first | with_reducible exact Below.refl _ _ | with_reducible assumption | (with_reducible refine btrans ?_ (by with_reducible assumption)) | with_reducible refine bdrew ?_ | with_reducible refine balloc ?_ _))
  have hs1 : ¬ ((1048576 : Int) - (ps0.length : Int) < 0) := by omega
  go_wp2_with fail
  refine (to_shape kd0 a0 cap0 ps0 _ hm' hc (hp0.out.below hB1)).mono ?_
  clear hB1
  rintro e w2 ⟨b2, rfl, hg2, ho2, hb2⟩
  have r0 : w2.cell? ⟨w.heap.size, 0, none⟩ = some (.int .i64 kd0) := by (repeat (first | with_reducible assumption | (refine newcell _ _ _ _ _ _ ?_ rfl; simp; done) | refine keepcell (by with_reducible assumption) ?_ | refine keepdrew ?_ | refine keepalloc ?_ _))
  have r1 : w2.cell? ⟨w.heap.size, 1, none⟩ = some (.slice a0 ps0.length cap0) := by (repeat (first | with_reducible assumption | (refine newcell _ _ _ _ _ _ ?_ rfl; simp; done) | refine keepcell (by with_reducible assumption) ?_ | refine keepdrew ?_ | refine keepalloc ?_ _))
  have Ho2 := hid ho2
  clear ho2
  go_wp2_with fail
  refine (spec_ShapeOk _ _ _ ps0 _ hm' (Nat.le_refl _) Ho2.out.pts).mono ?_
  rintro e w3 ⟨rfl, hb3⟩
  have s0 : w3.cell? ⟨w.heap.size, 0, none⟩ = some (.int .i64 kd0) := by (repeat (first | with_reducible assumption | (refine newcell _ _ _ _ _ _ ?_ rfl; simp; done) | refine keepcell (by with_reducible assumption) ?_ | refine keepdrew ?_ | refine keepalloc ?_ _))
  have s1 : w3.cell? ⟨w.heap.size, 1, none⟩ = some (.slice a0 ps0.length cap0) := by (repeat (first | with_reducible assumption | (refine newcell _ _ _ _ _ _ ?_ rfl; simp; done) | refine keepcell (by with_reducible assumption) ?_ | refine keepdrew ?_ | refine keepalloc ?_ _))
  have hB3 : Below w.heap.size w w3 := by (repeat (first | with_reducible exact Below.refl _ _ | with_reducible assumption | (with_reducible refine btrans ?_ (by with_reducible assumption)) | with_reducible refine bdrew ?_ | with_reducible refine balloc ?_ _))
  go_wp2_with fail
  refine (to_shape kd0 a0 cap0 ps0 _ hm' hc (hp0.out.below hB3)).mono ?_
  clear hB3
  rintro e w4 ⟨b4, rfl, hg4, ho4, hb4⟩
  have t0 : w4.cell? ⟨w.heap.size, 0, none⟩ = some (.int .i64 kd0) := by (repeat (first | with_reducible assumption | (refine newcell _ _ _ _ _ _ ?_ rfl; simp; done) | refine keepcell (by with_reducible assumption) ?_ | refine keepdrew ?_ | refine keepalloc ?_ _))
  have t1 : w4.cell? ⟨w.heap.size, 1, none⟩ = some (.slice a0 ps0.length cap0) := by (repeat (first | with_reducible assumption | (refine newcell _ _ _ _ _ _ ?_ rfl; simp; done) | refine keepcell (by with_reducible assumption) ?_ | refine keepdrew ?_ | refine keepalloc ?_ _))
  have Ho4 := hid ho4
  clear ho4
  go_wp2_with fail
  refine (impl_ShapeOk _ _ _ ps0 _ hm' (Nat.le_refl _) (Ho4.out.below (balloc (Below.refl _ _) _)).pts).mono ?_
  rintro e w5 ⟨rfl, hb5⟩
  have u0 : w5.cell? ⟨w.heap.size, 0, none⟩ = some (.int .i64 kd0) := by (repeat (first | with_reducible assumption | (refine newcell _ _ _ _ _ _ ?_ rfl; simp; done) | refine keepcell (by with_reducible assumption) ?_ | refine keepdrew ?_ | refine keepalloc ?_ _))
  have u1 : w5.cell? ⟨w.heap.size, 1, none⟩ = some (.slice a0 ps0.length cap0) := by (repeat (first | with_reducible assumption | (refine newcell _ _ _ _ _ _ ?_ rfl; simp; done) | refine keepcell (by with_reducible assumption) ?_ | refine keepdrew ?_ | refine keepalloc ?_ _))
  have u2 : w5.cell? ⟨w4.heap.size, 0, none⟩ = some (.int .i64 kd0) := by (repeat (first | with_reducible assumption | (refine newcell _ _ _ _ _ _ ?_ rfl; simp; done) | refine keepcell (by with_reducible assumption) ?_ | refine keepdrew ?_ | refine keepalloc ?_ _))
  have u3 : w5.cell? ⟨w4.heap.size, 1, none⟩ = some (.slice (some ⟨b4, 0, none⟩) ps0.length ps0.length) := by (repeat (first | with_reducible assumption | (refine newcell _ _ _ _ _ _ ?_ rfl; simp; done) | refine keepcell (by with_reducible assumption) ?_ | refine keepdrew ?_ | refine keepalloc ?_ _))
  have Ho5 := hid (Ho4.out.below (btrans (balloc (Below.refl _ _) _) hb5))
  have hB5 : Below w.heap.size w w5 := by (repeat (first | with_reducible exact Below.refl _ _ | with_reducible assumption | (with_reducible refine btrans ?_ (by with_reducible assumption)) | with_reducible refine bdrew ?_ | with_reducible refine balloc ?_ _))
  clear hb1 hb2 hb3 hb4 hb5
  generalize w4.heap.size = X at *
  go_wp2_with fail
  go_region_held3 (fun w' => w'.cell? ⟨w.heap.size, 0, none⟩ = some (.int .i64 kd0) ∧ w'.cell? ⟨w.heap.size, 1, none⟩ = some (.slice a0 ps0.length cap0) ∧ w'.cell? ⟨X, 0, none⟩ = some (.int .i64 kd0) ∧ w'.cell? ⟨X, 1, none⟩ = some (.slice (some ⟨b4, 0, none⟩) ps0.length ps0.length)) ((go_split_ands; (repeat' apply And.intro) <;> (repeat (first | with_reducible assumption | with_reducible refine keepset ?_ (by dsimp only; omega) | with_reducible refine keepdrew ?_ | with_reducible refine keepcell (by with_reducible assumption) ?_ | with_reducible refine keepalloc ?_ _))))
    (first
      | (go_at_call 75; refine (to_shape kd0 a0 cap0 ps0 _ hm' hc (hp0.out.below (bdrew hB5))).mono ?_; rintro e v1 ⟨c1, rfl, hg1', ho1', hbv1⟩; have Hov1 := hid ho1'; clear ho1'; have Hx1 := hid ((Ho5.out.below (bdrew (Below.refl _ _))).below hbv1))
      | (go_at_call 77; refine (eq_shape kd0 _ _ _ _ ps0 _ hm' (Nat.le_refl _) (Nat.le_refl _) Hx1.out.pts Hov1.out.pts).mono ?_; rintro e v2 ⟨rfl, hbv2⟩))
  go_wp2_with fail
  go_ret
  exact ⟨rfl, by (repeat (first | with_reducible exact Below.refl _ _ | with_reducible assumption | (with_reducible refine btrans ?_ (by with_reducible assumption)) | with_reducible refine bdrew ?_ | with_reducible refine balloc ?_ _))⟩
set_option maxRecDepth 100000 in
theorem lifted (os : Os) (started : os.Started) (H : Type) (enc : TypeId × Value → H) :
    ReturnsInHanded {} Try.checked os 13 .any (Rows.fnExactShapeOkSpec.pre6 enc Try.prog Try.f13 Rows.fnExactShapeOkRow.domain false) (Rows.fnExactShapeOkSpec.post enc Try.prog Try.f13 false true false false) := by
  refine returnsInHanded_of_change (C := Try.checked) own started (by kernel_rfl) Try.func13
    (ChangeSpec.witness6 (enc := enc) (C := Try.checked) false ⟨#[], #[.agg #[.int .i64 0, .slice none 0 0]], []⟩ 8 (by kernel_rfl) (by kernel_rfl) (by kernel_rfl) (by kernel_rfl)) ?_
  intro W base args ds gs before hval0 hW hcnd _
  have hval : ∀ (j : Nat) t v, Try.f13.params[j]? = some t → args[j]? = some v → Value.okWide Try.prog W .any base t v := hval0
  have hW' := hW
  obtain ⟨p, q, hA0, hV, rfl, hfz, hnd⟩ := hW
  have hA : DataW.TrodAll enc Try.prog W 0 (fun _ => true) true Try.f13.params.toList args.toList ds p := hA0
  rw [Try.params13] at hA hval
  obtain ⟨v0, vs0, d0, ds0, p0, q0, hargs, rfl, rfl, h0, r0⟩ := trodAll_cons hA
  obtain ⟨rfl, rfl, rfl⟩ := trodAll_nil r0
  obtain rfl : args = #[v0] := by cases args; simp_all
  obtain ⟨rfl, rfl⟩ := trodVars_none hV
  have k0 := h0
  have lt0 : ∀ x ∈ p0, x.block < W.heap.size := by obtain ⟨m, hm⟩ := k0; exact DataW.trod_lt m _ _ _ hm
  obtain ⟨c0_0, c0_1, g0_0, g0_1, m0, rfl, rfl, rfl, hy0_0, hy0_1⟩ := open_agg2 Try.underlying80 (by kernel_rfl) cells80 (hval 0 80 v0 rfl rfl) h0
  obtain ⟨kd0, e0_0, rfl, wkd0⟩ := DataW.trod_int Try.underlying3 hy0_0
  simp at e0_0
  subst e0_0
  obtain ⟨a0, cap0, ps0, e0_1, w0⟩ : ∃ (a : Option Addr) (cap : Nat) (ps : List (Int × Int)), c0_1 = .slice a ps.length cap ∧ PtsIn W a cap ps := by
    rcases Go.Deep.open_slice_pairs Try.underlying68 Try.underlying76 cells76 rfl rfl (by kernel_rfl) (by kernel_rfl) hy0_1 with ⟨hcs, _⟩ | ⟨x, l, c, m, n, V0, V1, D0, D1, P0, P1, hcs, _, hl, hm, hmm, _, hall⟩
    · simp at hcs
      exact ⟨none, 0, [], hcs, ptsIn_nil _ _⟩
    · simp at hcs
      obtain ⟨ps, hp, hw⟩ := ptsIn_of hl hm (fun j hj => by
        obtain ⟨h1, h2, h3, h4⟩ := hall j (by rw [hmm]; simp; omega)
        obtain ⟨z0, e0, _, y0⟩ := DataW.trod_int Try.underlying3 h3
        obtain ⟨z1, e1, _, y1⟩ := DataW.trod_int Try.underlying3 h4
        simp at e0 e1
        exact ⟨z0, z1, by rw [h1, e0], by rw [h2, e1], y0, y1⟩)
      exact ⟨some x, c, ps, by rw [hcs, hp], hw⟩
  subst e0_1
  clear hA0 hval0
  refine (walk kd0 a0 cap0 ps0 W wkd0 w0).mono fun e W' ⟨he, bel⟩ => ?_
  subst he
  exact ⟨_, rfl, _, _, _, [], _, [], hW', trodAll_mk1 (shut_bool Try.underlying4 _), (trodAll_cons_mk (Below.trod laidOut (by kernel_rfl) (of_decide_eq_true (by kernel_rfl)) k0 bel lt0) trodAll_mk0), rfl, bel.frame _, fun h => by cases h⟩
theorem band {a b : Bool} (h1 : a = true) (h2 : b = true) : (a && b) = true := by rw [h1, h2]; rfl
set_option maxRecDepth 100000 in
theorem q1 : (Rows.fnExactShapeOkRow.wf (OpenSpec.ofChange Rows.fnExactShapeOkSpec)) = true := by kernel_rfl
set_option maxRecDepth 100000 in
theorem q2 : (laidOutB Try.pinned.checked.prog) = true := sh2
set_option maxRecDepth 100000 in
theorem q3 : (mapsRowed Try.pinned.checked.prog) = true := sh3
set_option maxRecDepth 100000 in
theorem q4 : (Try.f13.params.all (Try.pinned.checked.prog.readableRec ·)) = true := by kernel_rfl
set_option maxRecDepth 100000 in
theorem q5 : (namedTie Try.pinned.checked.prog Rows.fnExactShapeOkRow.named Rows.fnExactShapeOkSpec.vars) = true := by kernel_rfl
set_option maxRecDepth 100000 in
theorem q6 : ((Rows.fnExactShapeOkRow.stops == [])) = true := by kernel_rfl
set_option maxRecDepth 100000 in
theorem q7 : ((Try.pinned.checked.prog.stops == [])) = true := sh7
set_option maxRecDepth 100000 in
theorem q8 : ((Rows.fnExactShapeOkRow.knobs == [])) = true := by kernel_rfl
set_option maxRecDepth 100000 in
theorem q9 : ((Try.pinned.checked.prog.stopKnobs == [])) = true := sh9
set_option maxRecDepth 100000 in
theorem q10 : ((Rows.fnExactShapeOkRow.inPlace == Try.pinned.checked.prog.inPlace 13)) = true := by kernel_rfl
set_option maxRecDepth 100000 in
theorem q11 : ((Rows.fnExactShapeOkRow.unfollowed == Try.pinned.checked.prog.unfollowed 13)) = true := by kernel_rfl
set_option maxRecDepth 100000 in
theorem q12 : ((Rows.fnExactShapeOkRow.recurses == Try.pinned.checked.prog.recurses 13)) = true := by kernel_rfl
set_option maxRecDepth 100000 in
theorem q13 : ((Rows.fnExactShapeOkRow.named == Try.pinned.checked.prog.varsNamed 13)) = true := by kernel_rfl
set_option maxRecDepth 100000 in
theorem q14 : ((Rows.fnExactShapeOkRow.maps == (Try.f13.params.toList ++ Rows.fnExactShapeOkSpec.plain.varTypes Try.pinned.checked.prog).any (Try.pinned.checked.prog.mapsRec ·))) = true := by kernel_rfl
set_option maxRecDepth 100000 in
theorem q15 : ((Rows.fnExactShapeOkRow.ifaces == (Try.f13.params.toList ++ Rows.fnExactShapeOkSpec.plain.varTypes Try.pinned.checked.prog).any (Try.pinned.checked.prog.ifacesRec ·))) = true := by kernel_rfl
set_option maxRecDepth 100000 in
theorem q16 : ((Rows.fnExactShapeOkRow.mapsOut == Try.pinned.checked.prog.mapsAmong Try.f13.resultTypes.toList)) = true := by kernel_rfl
set_option maxRecDepth 100000 in
theorem q17 : ((Rows.fnExactShapeOkRow.loops == (Try.f13.params.toList ++ Rows.fnExactShapeOkSpec.plain.varTypes Try.pinned.checked.prog).any (Try.pinned.checked.prog.loopsFrom ·))) = true := by kernel_rfl
set_option maxRecDepth 100000 in
theorem q18 : ((Rows.fnExactShapeOkRow.wideKeys == (Try.f13.params.toList ++ Rows.fnExactShapeOkSpec.plain.varTypes Try.pinned.checked.prog ++ Try.f13.resultTypes.toList).any (Try.pinned.checked.prog.wideKeysFrom ·))) = true := by kernel_rfl
set_option maxRecDepth 100000 in
theorem q19 : (Rows.fnExactShapeOkSpec.vars.all (Try.pinned.checked.prog.varReadable ·)) = true := by kernel_rfl
set_option maxRecDepth 100000 in
theorem q20 : (Try.f13.resultTypes.all (fun t => Try.pinned.checked.prog.readableRec t && decide (t < Try.pinned.checked.prog.types.size))) = true := by kernel_rfl
set_option maxRecDepth 100000 in
theorem q21 : ((Rows.fnExactShapeOkRow.ifacesOut == Try.f13.resultTypes.toList.any (Try.pinned.checked.prog.ifacesRec ·))) = true := by kernel_rfl
set_option maxRecDepth 100000 in
theorem q22 : ((Rows.fnExactShapeOkRow.loopsOut == Try.f13.resultTypes.toList.any (Try.pinned.checked.prog.loopsFrom ·))) = true := by kernel_rfl
set_option maxRecDepth 100000 in
theorem q23 : ((Rows.fnExactShapeOkRow.plainKeys == Try.pinned.checked.prog.plainKeys)) = true := sh23
set_option maxRecDepth 100000 in
theorem q24 : (Rows.fnExactShapeOkRow.shortTexts.isNone) = true := by kernel_rfl
set_option maxRecDepth 100000 in
theorem q25 : (Try.pinned.checked.prog.stopsHeard) = true := sh25
set_option maxRecDepth 100000 in
theorem q26 : (Try.pinned.checked.prog.mayEnter) = true := sh26
set_option maxRecDepth 100000 in
theorem q27 : ((Rows.fnExactShapeOkRow.lifted == Try.pinned.checked.prog.liftsFinal)) = true := sh27
set_option maxRecDepth 100000 in
theorem q28 : ((Try.pinned.checked.prog.make == some Rows.fnExactShapeOkRow.make)) = true := sh28
set_option maxRecDepth 100000 in
theorem q29 : ((Rows.fnExactShapeOkRow.kinds == (if Rows.fnExactShapeOkRow.domain.isEmpty then [] else Try.f13.params.toList.map fun t => match Try.pinned.checked.prog.underlying t with | some (.int k) => some k | _ => none))) = true := by kernel_rfl
set_option maxRecDepth 100000 in
theorem q30 : ((Rows.fnExactShapeOkRow.pinned == Rows.fnExactShapeOkRow.pinnedBy)) = true := by kernel_rfl
set_option maxRecDepth 100000 in
theorem q31 : ((Rows.fnExactShapeOkRow.veiled == (Try.f13.params.toList ++ Rows.fnExactShapeOkSpec.plain.varTypes Try.pinned.checked.prog ++ Try.f13.resultTypes.toList).any (Try.pinned.checked.prog.veiledRec ·))) = true := by kernel_rfl
set_option maxRecDepth 100000 in
theorem q32 : (Rows.fnExactShapeOkRow.veiledFits Try.pinned.checked.prog Try.f13.params.toList (Try.f13.params.toList ++ Rows.fnExactShapeOkSpec.plain.varTypes Try.pinned.checked.prog ++ Try.f13.resultTypes.toList)) = true := by kernel_rfl
set_option maxRecDepth 100000 in
theorem closed : joinedFacts Try.pinned.checked.prog 13 Try.f13 Rows.fnExactShapeOkSpec Rows.fnExactShapeOkRow = true := by
  unfold joinedFacts
  exact (band (band (band (band (band (band (band (band (band (band (band (band (band (band (band (band (band (band (band (band (band (band (band (band (band (band (band (band (band (band (band q1 q2) q3) q4) q5) q6) q7) q8) q9) q10) q11) q12) q13) q14) q15) q16) q17) q18) q19) q20) q21) q22) q23) q24) q25) q26) q27) q28) q29) q30) q31) q32)
set_option maxRecDepth 100000 in
theorem over : Rows.fnExactShapeOkRow.holds Try.pinned (OpenSpec.ofChange Rows.fnExactShapeOkSpec) :=
  OpenClaim.holds_of_wide 13 Try.f13 rfl rfl rfl rfl rfl rfl rfl ⟨rfl, rfl, rfl, rfl, rfl⟩ rfl rfl rfl rfl rfl (by kernel_rfl) Try.func13 closed
    (of_decide_eq_true (by kernel_rfl)) (by unfold Func.isWrapper; first | (rw [if_pos (by decide +kernel)]; kernel_rfl) | (rw [if_neg (by decide +kernel)]; exact ⟨rfl, rfl⟩))
    (fun os started H enc _ => lifted os started H enc)
end Go.Proofs.Ytialcllfmhcigaa.fnExactShapeOk
namespace Go.Proofs.Ytialcllfmhcigaa
theorem fnExactShapeOk_holds : Rows.FnExactShapeOkSaid := fnExactShapeOk.over
#print axioms fnExactShapeOk_holds
end Go.Proofs.Ytialcllfmhcigaa
