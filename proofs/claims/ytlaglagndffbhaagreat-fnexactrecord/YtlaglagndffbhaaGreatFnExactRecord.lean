/- At every list of changes the landed Record answers as the specification's, and writes into no argument. -/
import Derived.Test.YtlaglagndffbhaaGreatRows
import Derived.Test.YtlaglagndffbhaaGreatFacts
import Derived.Test.YtlaglagndffbhaaGreatJ1
import Derived.Test.YtlaglagndffbhaaGreatCg
import Derived.WalkKit
import Derived.Deep.DeepCutAuto
import Derived.ProofKit
import Derived.OpenShut
import Derived.ShutString
import Derived.ChangeOld
import Derived.Below
import Derived.Carry
import Derived.Lib.SmallJoins
import Derived.Deep.SlicePairs
namespace Go.Proofs.YtlaglagndffbhaaGreat.fnExactRecord
open Go.ChangeShapes Go.WideShapes Go.ChangeAt Go.RowKit Go.Joins
set_option linter.unusedVariables false
set_option linter.unusedSimpArgs false
theorem own : ownKnob Tryz.prog.godebug = none := by kernel_rfl
theorem laidOut : laidOutB Tryz.prog = true := by kernel_rfl
set_option maxHeartbeats 2000000 in
theorem walk (a0 : Option Addr) (cap0 : Nat) (cs0 : List Ch) (w : World) (hl0 : cs0.length ≤ 9223372036854775807) (w0 : Chs (fun _ => True) 9223372036854775807 w a0 cs0) :
    Calls Tryz.prog 4 #[.slice a0 cs0.length cap0] w fun e w' => e = .returned (.bool true) ∧ Below w.heap.size w w' := by
  have HR0 := hid w0
  clear w0
  go_enter Tryz.func4, Tryz.ntmps4
  go_wp2_with fail
  refine (sz_chs a0 cap0 cs0 1048576 _ hl0 (by omega) (by omega) HR0.out).mono ?_
  rintro e w1 ⟨⟨v, rfl, hv⟩, hb1⟩
  rcases hv with rfl | ⟨hv0, hv1, HV⟩
  · go_wp2_with fail
    go_ret
    exact ⟨rfl, hb1⟩
  have hv2 : ¬ v < 0 := by omega
  have HP := hid (HR0.out.small HV.out)
  have hm' : cs0.length ≤ 1099511627776 := by have := HV.out.1; omega
  have hn' : cs0.length ≤ 1048576 := HV.out.1
  have HVO := hid HV.out
  clear HV HR0
  go_wp2_with fail
  refine (to_chs a0 cap0 cs0 _ hm' (HP.out.below hb1)).mono ?_
  rintro e w2 ⟨b2, rfl, hbb2, ⟨hlt2, ho2⟩, hb2⟩
  have HO2 : Hid (Chs (fun c => b2 < c) 1099511627776 w2 (some ⟨b2, 0, none⟩) cs0) := hid (.inr ⟨b2, 0, rfl, hlt2, ho2⟩)
  have hB2 := btrans hb1 hb2
  clear ho2 hb2 hb1
  go_wp2_with fail
  refine (spec_Record _ _ cs0 _ hm' HO2.out).mono ?_
  rintro e w3 ⟨rfl, hb3⟩
  have hB3 := btrans hB2 hb3
  clear hb3 hB2 HO2
  go_wp2_with fail
  refine (to_chs a0 cap0 cs0 _ hm' (HP.out.below hB3)).mono ?_
  rintro e w4 ⟨b4, rfl, hbb4, ⟨hlt4, ho4⟩, hb4⟩
  have HO4 : Hid (Chs (fun c => b4 < c) 1099511627776 w4 (some ⟨b4, 0, none⟩) cs0) := hid (.inr ⟨b4, 0, rfl, hlt4, ho4⟩)
  have hB4 := btrans hB3 hb4
  clear ho4 hb4 hB3
  go_wp2_with fail
  refine (impl_Record _ _ cs0 _ hm' HO4.out).mono ?_
  rintro e w5 ⟨rfl, hb5⟩
  have hB5 := btrans hB4 hb5
  have HO5 := hid (HO4.out.below hb5)
  clear hb5 hB4 HO4
  go_wp2_with fail
  refine (to_chs a0 cap0 cs0 _ hm' (HP.out.below hB5)).mono ?_
  rintro e w6 ⟨b6, rfl, hbb6, ⟨hlt6, ho6⟩, hb6⟩
  have HO6 : Hid (Chs (fun c => b6 < c) 1099511627776 w6 (some ⟨b6, 0, none⟩) cs0) := hid (.inr ⟨b6, 0, rfl, hlt6, ho6⟩)
  have hB6 := btrans hB5 hb6
  have HO7 := hid (HO5.out.below hb6)
  clear ho6 hb6 hB5 HO5
  go_wp2_with fail
  refine (eq_chs _ _ _ _ cs0 _ hm' HO7.out HO6.out).mono ?_
  rintro e w7 ⟨rfl, hb7⟩
  have hB7 := btrans hB6 hb7
  clear hb7 hB6
  go_wp2_with fail
  go_ret
  exact ⟨rfl, hB7⟩
set_option maxRecDepth 100000 in
theorem lifted (os : Os) (started : os.Started) (H : Type) (enc : TypeId × Value → H) :
    ReturnsInHanded {} Tryz.checked os 4 .any (Rows.fnExactRecordSpec.pre6 enc Tryz.prog Tryz.f4 Rows.fnExactRecordRow.domain false) (Rows.fnExactRecordSpec.post enc Tryz.prog Tryz.f4 false true false false) := by
  refine returnsInHanded_of_change (C := Tryz.checked) own started (by kernel_rfl) Tryz.func4
    (ChangeSpec.witness6 (enc := enc) (C := Tryz.checked) false ⟨#[], #[.slice none 0 0], []⟩ 8 (by kernel_rfl) (by kernel_rfl) (by kernel_rfl) (by kernel_rfl)) ?_
  intro W base args ds gs before hval0 hW hcnd _
  have hval : ∀ (j : Nat) t v, Tryz.f4.params[j]? = some t → args[j]? = some v → Value.okWide Tryz.prog W .any base t v := hval0
  have hW' := hW
  obtain ⟨p, q, hA0, hV, rfl, hfz, hnd⟩ := hW
  have hA : DataW.TrodAll enc Tryz.prog W 0 (fun _ => true) true Tryz.f4.params.toList args.toList ds p := hA0
  rw [Tryz.params4] at hA hval
  obtain ⟨v0, vs0, d0, ds0, p0, q0, hargs, rfl, rfl, h0, r0⟩ := trodAll_cons hA
  obtain ⟨rfl, rfl, rfl⟩ := trodAll_nil r0
  obtain rfl : args = #[v0] := by cases args; simp_all
  obtain ⟨rfl, rfl⟩ := trodVars_none hV
  have k0 := h0
  have lt0 : ∀ x ∈ p0, x.block < W.heap.size := by obtain ⟨m, hm⟩ := k0; exact DataW.trod_lt m _ _ _ hm
  obtain ⟨x0, len0, xcap0, rfl⟩ := okWide_slice Tryz.underlying22 (hval 0 22 v0 rfl rfl)
  obtain ⟨a0, cap0, cs0, ecs0, hlc0, hl0, w0⟩ := open_chs (v := .slice x0 len0 xcap0) h0.choose_spec
  obtain ⟨rfl, rfl, rfl⟩ : a0 = x0 ∧ cs0.length = len0 ∧ cap0 = xcap0 := by cases ecs0; exact ⟨rfl, rfl, rfl⟩
  clear ecs0
  clear hA0 hval0
  refine (walk a0 cap0 cs0 W hl0 w0).mono fun e W' ⟨he, bel⟩ => ?_
  subst he
  exact ⟨_, rfl, _, _, _, [], _, [], hW', trodAll_mk1 (shut_bool Tryz.underlying4 _), (trodAll_cons_mk (Below.trod laidOut (by kernel_rfl) (of_decide_eq_true (by kernel_rfl)) k0 bel lt0) trodAll_mk0), rfl, bel.frame _, fun h => by cases h⟩
theorem band {a b : Bool} (h1 : a = true) (h2 : b = true) : (a && b) = true := by rw [h1, h2]; rfl
set_option maxRecDepth 100000 in
theorem q1 : (Rows.fnExactRecordRow.wf (OpenSpec.ofChange Rows.fnExactRecordSpec)) = true := by kernel_rfl
set_option maxRecDepth 100000 in
theorem q2 : (laidOutB Tryz.pinned.checked.prog) = true := sh2
set_option maxRecDepth 100000 in
theorem q3 : (mapsRowed Tryz.pinned.checked.prog) = true := sh3
set_option maxRecDepth 100000 in
theorem q4 : (Tryz.f4.params.all (Tryz.pinned.checked.prog.readableRec ·)) = true := by kernel_rfl
set_option maxRecDepth 100000 in
theorem q5 : (namedTie Tryz.pinned.checked.prog Rows.fnExactRecordRow.named Rows.fnExactRecordSpec.vars) = true := by kernel_rfl
set_option maxRecDepth 100000 in
theorem q6 : ((Rows.fnExactRecordRow.stops == [])) = true := by kernel_rfl
set_option maxRecDepth 100000 in
theorem q7 : ((Tryz.pinned.checked.prog.stops == [])) = true := sh7
set_option maxRecDepth 100000 in
theorem q8 : ((Rows.fnExactRecordRow.knobs == [])) = true := by kernel_rfl
set_option maxRecDepth 100000 in
theorem q9 : ((Tryz.pinned.checked.prog.stopKnobs == [])) = true := sh9
set_option maxRecDepth 100000 in
theorem q10 : ((Rows.fnExactRecordRow.inPlace == Tryz.pinned.checked.prog.inPlace 4)) = true := by kernel_rfl
set_option maxRecDepth 100000 in
theorem q11 : ((Rows.fnExactRecordRow.unfollowed == Tryz.pinned.checked.prog.unfollowed 4)) = true := by kernel_rfl
set_option maxRecDepth 100000 in
theorem q12 : ((Rows.fnExactRecordRow.recurses == Tryz.pinned.checked.prog.recurses 4)) = true := by kernel_rfl
set_option maxRecDepth 100000 in
theorem q13 : ((Rows.fnExactRecordRow.named == Tryz.pinned.checked.prog.varsNamed 4)) = true := by kernel_rfl
set_option maxRecDepth 100000 in
theorem q14 : ((Rows.fnExactRecordRow.maps == (Tryz.f4.params.toList ++ Rows.fnExactRecordSpec.plain.varTypes Tryz.pinned.checked.prog).any (Tryz.pinned.checked.prog.mapsRec ·))) = true := by kernel_rfl
set_option maxRecDepth 100000 in
theorem q15 : ((Rows.fnExactRecordRow.ifaces == (Tryz.f4.params.toList ++ Rows.fnExactRecordSpec.plain.varTypes Tryz.pinned.checked.prog).any (Tryz.pinned.checked.prog.ifacesRec ·))) = true := by kernel_rfl
set_option maxRecDepth 100000 in
theorem q16 : ((Rows.fnExactRecordRow.mapsOut == Tryz.pinned.checked.prog.mapsAmong Tryz.f4.resultTypes.toList)) = true := by kernel_rfl
set_option maxRecDepth 100000 in
theorem q17 : ((Rows.fnExactRecordRow.loops == (Tryz.f4.params.toList ++ Rows.fnExactRecordSpec.plain.varTypes Tryz.pinned.checked.prog).any (Tryz.pinned.checked.prog.loopsFrom ·))) = true := by kernel_rfl
set_option maxRecDepth 100000 in
theorem q18 : ((Rows.fnExactRecordRow.wideKeys == (Tryz.f4.params.toList ++ Rows.fnExactRecordSpec.plain.varTypes Tryz.pinned.checked.prog ++ Tryz.f4.resultTypes.toList).any (Tryz.pinned.checked.prog.wideKeysFrom ·))) = true := by kernel_rfl
set_option maxRecDepth 100000 in
theorem q19 : (Rows.fnExactRecordSpec.vars.all (Tryz.pinned.checked.prog.varReadable ·)) = true := by kernel_rfl
set_option maxRecDepth 100000 in
theorem q20 : (Tryz.f4.resultTypes.all (fun t => Tryz.pinned.checked.prog.readableRec t && decide (t < Tryz.pinned.checked.prog.types.size))) = true := by kernel_rfl
set_option maxRecDepth 100000 in
theorem q21 : ((Rows.fnExactRecordRow.ifacesOut == Tryz.f4.resultTypes.toList.any (Tryz.pinned.checked.prog.ifacesRec ·))) = true := by kernel_rfl
set_option maxRecDepth 100000 in
theorem q22 : ((Rows.fnExactRecordRow.loopsOut == Tryz.f4.resultTypes.toList.any (Tryz.pinned.checked.prog.loopsFrom ·))) = true := by kernel_rfl
set_option maxRecDepth 100000 in
theorem q23 : ((Rows.fnExactRecordRow.plainKeys == Tryz.pinned.checked.prog.plainKeys)) = true := sh23
set_option maxRecDepth 100000 in
theorem q24 : (Rows.fnExactRecordRow.shortTexts.isNone) = true := by kernel_rfl
set_option maxRecDepth 100000 in
theorem q25 : (Tryz.pinned.checked.prog.stopsHeard) = true := sh25
set_option maxRecDepth 100000 in
theorem q26 : (Tryz.pinned.checked.prog.mayEnter) = true := sh26
set_option maxRecDepth 100000 in
theorem q27 : ((Rows.fnExactRecordRow.lifted == Tryz.pinned.checked.prog.liftsFinal)) = true := sh27
set_option maxRecDepth 100000 in
theorem q28 : ((Tryz.pinned.checked.prog.make == some Rows.fnExactRecordRow.make)) = true := sh28
set_option maxRecDepth 100000 in
theorem q29 : ((Rows.fnExactRecordRow.kinds == (if Rows.fnExactRecordRow.domain.isEmpty then [] else Tryz.f4.params.toList.map fun t => match Tryz.pinned.checked.prog.underlying t with | some (.int k) => some k | _ => none))) = true := by kernel_rfl
set_option maxRecDepth 100000 in
theorem q30 : ((Rows.fnExactRecordRow.pinned == Rows.fnExactRecordRow.pinnedBy)) = true := by kernel_rfl
set_option maxRecDepth 100000 in
theorem q31 : ((Rows.fnExactRecordRow.veiled == (Tryz.f4.params.toList ++ Rows.fnExactRecordSpec.plain.varTypes Tryz.pinned.checked.prog ++ Tryz.f4.resultTypes.toList).any (Tryz.pinned.checked.prog.veiledRec ·))) = true := by kernel_rfl
set_option maxRecDepth 100000 in
theorem q32 : (Rows.fnExactRecordRow.veiledFits Tryz.pinned.checked.prog Tryz.f4.params.toList (Tryz.f4.params.toList ++ Rows.fnExactRecordSpec.plain.varTypes Tryz.pinned.checked.prog ++ Tryz.f4.resultTypes.toList)) = true := by kernel_rfl
set_option maxRecDepth 100000 in
theorem closed : joinedFacts Tryz.pinned.checked.prog 4 Tryz.f4 Rows.fnExactRecordSpec Rows.fnExactRecordRow = true := by
  unfold joinedFacts
  exact (band (band (band (band (band (band (band (band (band (band (band (band (band (band (band (band (band (band (band (band (band (band (band (band (band (band (band (band (band (band (band q1 q2) q3) q4) q5) q6) q7) q8) q9) q10) q11) q12) q13) q14) q15) q16) q17) q18) q19) q20) q21) q22) q23) q24) q25) q26) q27) q28) q29) q30) q31) q32)
set_option maxRecDepth 100000 in
theorem over : Rows.fnExactRecordRow.holds Tryz.pinned (OpenSpec.ofChange Rows.fnExactRecordSpec) :=
  OpenClaim.holds_of_wide 4 Tryz.f4 rfl rfl rfl rfl rfl rfl rfl ⟨rfl, rfl, rfl, rfl, rfl⟩ rfl rfl rfl rfl rfl (by kernel_rfl) Tryz.func4 closed
    (of_decide_eq_true (by kernel_rfl)) (by unfold Func.isWrapper; first | (rw [if_pos (by decide +kernel)]; kernel_rfl) | (rw [if_neg (by decide +kernel)]; exact ⟨rfl, rfl⟩))
    (fun os started H enc _ => lifted os started H enc)
end Go.Proofs.YtlaglagndffbhaaGreat.fnExactRecord
namespace Go.Proofs.YtlaglagndffbhaaGreat
theorem fnExactRecord_holds : Rows.FnExactRecordSaid := fnExactRecord.over
#print axioms fnExactRecord_holds
end Go.Proofs.YtlaglagndffbhaaGreat
