/- At every tree and box TreeFind answers as its model; it writes into no argument, keeps nothing of one, and its answer owns its memory. -/
import Derived.Test.YtmdnelgnpponpaaRows
import Derived.Test.YtmdnelgnpponpaaFacts
import Derived.Test.YtmdnelgnpponpaaIh
import Derived.Test.YtmdnelgnpponpaaFm
import Derived.WalkKit
import Derived.Deep.DeepCutAuto
import Derived.ProofKit
import Derived.OpenShut
import Derived.ShutString
import Derived.ChangeOld
import Derived.Below
import Derived.Carry
import Derived.Lib.SmallJoins
import Derived.Deep.SlicePairs
namespace Go.Proofs.Ytmdnelgnpponpaa.fnExactTreeFind
open Go.ChangeShapes Go.WideShapes Go.ChangeAt Go.RowKit Go.Joins
set_option linter.unusedVariables false
set_option linter.unusedSimpArgs false
theorem own : ownKnob Try.prog.godebug = none := by kernel_rfl
theorem laidOut : laidOutB Try.prog = true := by kernel_rfl
theorem cells23 : Try.prog.cellsOf 23 = 4 := by kernel_rfl
theorem walk (t0 : KT) (ia0 : Option Addr) (ic0 : Nat) (ka0 : Option Addr) (kc0 n0 : Nat) (x1 y1 z1 t1 : Int) (w : World) (w0 : KnL n0 w ia0 ic0 ka0 kc0 t0) (wx1 : (Lit.int .i64 x1).wf = true) (wy1 : (Lit.int .i64 y1).wf = true) (wz1 : (Lit.int .i64 z1).wf = true) (wt1 : (Lit.int .i64 t1).wf = true) :
    Calls Try.prog 5 #[kv t0 ia0 ic0 ka0 kc0, .agg #[.int .i64 x1, .int .i64 y1, .int .i64 z1, .int .i64 t1]] w fun e w' => e = .returned (.bool true) ∧ Below w.heap.size w w' := by
  exact treefind_w t0 ia0 ic0 ka0 kc0 n0 x1 y1 z1 t1 w w0
set_option maxRecDepth 100000 in
theorem lifted (os : Os) (started : os.Started) (H : Type) (enc : TypeId × Value → H) :
    ReturnsInHanded {} Try.checked os 5 .any (Rows.fnExactTreeFindSpec.pre6 enc Try.prog Try.f5 Rows.fnExactTreeFindRow.domain false) (Rows.fnExactTreeFindSpec.post enc Try.prog Try.f5 false true false false) := by
  refine returnsInHanded_of_change (C := Try.checked) own started (by kernel_rfl) Try.func5
    (ChangeSpec.witness6 (enc := enc) (C := Try.checked) false ⟨#[], #[.agg #[.int .i64 0, .int .i64 0, .int .i64 0, .int .i64 0, .bool false, .slice none 0 0, .slice none 0 0], .agg #[.int .i64 0, .int .i64 0, .int .i64 0, .int .i64 0]], []⟩ 8 (by kernel_rfl) (by kernel_rfl) (by kernel_rfl) (by kernel_rfl)) ?_
  intro W base args ds gs before hval0 hW hcnd _
  have hval : ∀ (j : Nat) t v, Try.f5.params[j]? = some t → args[j]? = some v → Value.okWide Try.prog W .any base t v := hval0
  have hW' := hW
  obtain ⟨p, q, hA0, hV, rfl, hfz, hnd⟩ := hW
  have hA : DataW.TrodAll enc Try.prog W 0 (fun _ => true) true Try.f5.params.toList args.toList ds p := hA0
  rw [Try.params5] at hA hval
  obtain ⟨v0, vs0, d0, ds0, p0, q0, hargs, rfl, rfl, h0, r0⟩ := trodAll_cons hA
  obtain ⟨v1, vs1, d1, ds1, p1, q1, rfl, rfl, rfl, h1, r1⟩ := trodAll_cons r0
  obtain ⟨rfl, rfl, rfl⟩ := trodAll_nil r1
  obtain rfl : args = #[v0, v1] := by cases args; simp_all
  obtain ⟨rfl, rfl⟩ := trodVars_none hV
  have k0 := h0
  have lt0 : ∀ x ∈ p0, x.block < W.heap.size := by obtain ⟨m, hm⟩ := k0; exact DataW.trod_lt m _ _ _ hm
  have k1 := h1
  have lt1 : ∀ x ∈ p1, x.block < W.heap.size := by obtain ⟨m, hm⟩ := k1; exact DataW.trod_lt m _ _ _ hm
  obtain ⟨cs0, rfl, hsz0⟩ := okWide_struct Try.underlying27 (hval 0 27 v0 rfl rfl)
  obtain ⟨t0, ia0, ic0, ka0, kc0, ecs0, w0⟩ := open_knot _ _ _ _ (Nat.le_refl _) h0.choose_spec
  obtain rfl : cs0 = #[.int .i64 t0.box.1, .int .i64 t0.box.2.1, .int .i64 t0.box.2.2.1, .int .i64 t0.box.2.2.2, .bool t0.lf, .slice ia0 t0.its.length ic0, .slice ka0 t0.kids.length kc0] := by cases cs0; simpa [Value.cells, ck] using ecs0
  obtain ⟨c1_0, c1_1, c1_2, c1_3, g1_0, g1_1, g1_2, g1_3, m1, rfl, rfl, rfl, hy1_0, hy1_1, hy1_2, hy1_3⟩ := open_agg4 Try.underlying23 (by kernel_rfl) cells23 (hval 1 23 v1 rfl rfl) h1
  obtain ⟨x1, e1_0, rfl, wx1⟩ := DataW.trod_int Try.underlying3 hy1_0
  obtain ⟨y1, e1_1, rfl, wy1⟩ := DataW.trod_int Try.underlying3 hy1_1
  obtain ⟨z1, e1_2, rfl, wz1⟩ := DataW.trod_int Try.underlying3 hy1_2
  obtain ⟨t1, e1_3, rfl, wt1⟩ := DataW.trod_int Try.underlying3 hy1_3
  simp at e1_0 e1_1 e1_2 e1_3
  subst e1_0 e1_1 e1_2 e1_3
  clear hA0 hval0
  refine (walk t0 ia0 ic0 ka0 kc0 _ x1 y1 z1 t1 W w0 wx1 wy1 wz1 wt1).mono fun e W' ⟨he, bel⟩ => ?_
  subst he
  exact ⟨_, rfl, _, _, _, [], _, [], hW', trodAll_mk1 (shut_bool Try.underlying4 _), (trodAll_cons_mk (Below.trod laidOut (by kernel_rfl) (of_decide_eq_true (by kernel_rfl)) k0 bel lt0) (trodAll_cons_mk (Below.trod laidOut (by kernel_rfl) (of_decide_eq_true (by kernel_rfl)) k1 bel lt1) trodAll_mk0)), rfl, bel.frame _, fun h => by cases h⟩
theorem band {a b : Bool} (h1 : a = true) (h2 : b = true) : (a && b) = true := by rw [h1, h2]; rfl
set_option maxRecDepth 100000 in
theorem q1 : (Rows.fnExactTreeFindRow.wf (OpenSpec.ofChange Rows.fnExactTreeFindSpec)) = true := by kernel_rfl
set_option maxRecDepth 100000 in
theorem q2 : (laidOutB Try.pinned.checked.prog) = true := sh2
set_option maxRecDepth 100000 in
theorem q3 : (mapsRowed Try.pinned.checked.prog) = true := sh3
set_option maxRecDepth 100000 in
theorem q4 : (Try.f5.params.all (Try.pinned.checked.prog.readableRec ·)) = true := by kernel_rfl
set_option maxRecDepth 100000 in
theorem q5 : (namedTie Try.pinned.checked.prog Rows.fnExactTreeFindRow.named Rows.fnExactTreeFindSpec.vars) = true := by kernel_rfl
set_option maxRecDepth 100000 in
theorem q6 : ((Rows.fnExactTreeFindRow.stops == [])) = true := by kernel_rfl
set_option maxRecDepth 100000 in
theorem q7 : ((Try.pinned.checked.prog.stops == [])) = true := sh7
set_option maxRecDepth 100000 in
theorem q8 : ((Rows.fnExactTreeFindRow.knobs == [])) = true := by kernel_rfl
set_option maxRecDepth 100000 in
theorem q9 : ((Try.pinned.checked.prog.stopKnobs == [])) = true := sh9
set_option maxRecDepth 100000 in
theorem q10 : ((Rows.fnExactTreeFindRow.inPlace == Try.pinned.checked.prog.inPlace 5)) = true := by kernel_rfl
set_option maxRecDepth 100000 in
theorem q11 : ((Rows.fnExactTreeFindRow.unfollowed == Try.pinned.checked.prog.unfollowed 5)) = true := by kernel_rfl
set_option maxRecDepth 100000 in
theorem q12 : ((Rows.fnExactTreeFindRow.recurses == Try.pinned.checked.prog.recurses 5)) = true := by kernel_rfl
set_option maxRecDepth 100000 in
theorem q13 : ((Rows.fnExactTreeFindRow.named == Try.pinned.checked.prog.varsNamed 5)) = true := by kernel_rfl
set_option maxRecDepth 100000 in
theorem q14 : ((Rows.fnExactTreeFindRow.maps == (Try.f5.params.toList ++ Rows.fnExactTreeFindSpec.plain.varTypes Try.pinned.checked.prog).any (Try.pinned.checked.prog.mapsRec ·))) = true := by kernel_rfl
set_option maxRecDepth 100000 in
theorem q15 : ((Rows.fnExactTreeFindRow.ifaces == (Try.f5.params.toList ++ Rows.fnExactTreeFindSpec.plain.varTypes Try.pinned.checked.prog).any (Try.pinned.checked.prog.ifacesRec ·))) = true := by kernel_rfl
set_option maxRecDepth 100000 in
theorem q16 : ((Rows.fnExactTreeFindRow.mapsOut == Try.pinned.checked.prog.mapsAmong Try.f5.resultTypes.toList)) = true := by kernel_rfl
set_option maxRecDepth 100000 in
theorem q17 : ((Rows.fnExactTreeFindRow.loops == (Try.f5.params.toList ++ Rows.fnExactTreeFindSpec.plain.varTypes Try.pinned.checked.prog).any (Try.pinned.checked.prog.loopsFrom ·))) = true := by kernel_rfl
set_option maxRecDepth 100000 in
theorem q18 : ((Rows.fnExactTreeFindRow.wideKeys == (Try.f5.params.toList ++ Rows.fnExactTreeFindSpec.plain.varTypes Try.pinned.checked.prog ++ Try.f5.resultTypes.toList).any (Try.pinned.checked.prog.wideKeysFrom ·))) = true := by kernel_rfl
set_option maxRecDepth 100000 in
theorem q19 : (Rows.fnExactTreeFindSpec.vars.all (Try.pinned.checked.prog.varReadable ·)) = true := by kernel_rfl
set_option maxRecDepth 100000 in
theorem q20 : (Try.f5.resultTypes.all (fun t => Try.pinned.checked.prog.readableRec t && decide (t < Try.pinned.checked.prog.types.size))) = true := by kernel_rfl
set_option maxRecDepth 100000 in
theorem q21 : ((Rows.fnExactTreeFindRow.ifacesOut == Try.f5.resultTypes.toList.any (Try.pinned.checked.prog.ifacesRec ·))) = true := by kernel_rfl
set_option maxRecDepth 100000 in
theorem q22 : ((Rows.fnExactTreeFindRow.loopsOut == Try.f5.resultTypes.toList.any (Try.pinned.checked.prog.loopsFrom ·))) = true := by kernel_rfl
set_option maxRecDepth 100000 in
theorem q23 : ((Rows.fnExactTreeFindRow.plainKeys == Try.pinned.checked.prog.plainKeys)) = true := sh23
set_option maxRecDepth 100000 in
theorem q24 : (Rows.fnExactTreeFindRow.shortTexts.isNone) = true := by kernel_rfl
set_option maxRecDepth 100000 in
theorem q25 : (Try.pinned.checked.prog.stopsHeard) = true := sh25
set_option maxRecDepth 100000 in
theorem q26 : (Try.pinned.checked.prog.mayEnter) = true := sh26
set_option maxRecDepth 100000 in
theorem q27 : ((Rows.fnExactTreeFindRow.lifted == Try.pinned.checked.prog.liftsFinal)) = true := sh27
set_option maxRecDepth 100000 in
theorem q28 : ((Try.pinned.checked.prog.make == some Rows.fnExactTreeFindRow.make)) = true := sh28
set_option maxRecDepth 100000 in
theorem q29 : ((Rows.fnExactTreeFindRow.kinds == (if Rows.fnExactTreeFindRow.domain.isEmpty then [] else Try.f5.params.toList.map fun t => match Try.pinned.checked.prog.underlying t with | some (.int k) => some k | _ => none))) = true := by kernel_rfl
set_option maxRecDepth 100000 in
theorem q30 : ((Rows.fnExactTreeFindRow.pinned == Rows.fnExactTreeFindRow.pinnedBy)) = true := by kernel_rfl
set_option maxRecDepth 100000 in
theorem q31 : ((Rows.fnExactTreeFindRow.veiled == (Try.f5.params.toList ++ Rows.fnExactTreeFindSpec.plain.varTypes Try.pinned.checked.prog ++ Try.f5.resultTypes.toList).any (Try.pinned.checked.prog.veiledRec ·))) = true := by kernel_rfl
set_option maxRecDepth 100000 in
theorem q32 : (Rows.fnExactTreeFindRow.veiledFits Try.pinned.checked.prog Try.f5.params.toList (Try.f5.params.toList ++ Rows.fnExactTreeFindSpec.plain.varTypes Try.pinned.checked.prog ++ Try.f5.resultTypes.toList)) = true := by kernel_rfl
set_option maxRecDepth 100000 in
theorem closed : joinedFacts Try.pinned.checked.prog 5 Try.f5 Rows.fnExactTreeFindSpec Rows.fnExactTreeFindRow = true := by
  unfold joinedFacts
  exact (band (band (band (band (band (band (band (band (band (band (band (band (band (band (band (band (band (band (band (band (band (band (band (band (band (band (band (band (band (band (band q1 q2) q3) q4) q5) q6) q7) q8) q9) q10) q11) q12) q13) q14) q15) q16) q17) q18) q19) q20) q21) q22) q23) q24) q25) q26) q27) q28) q29) q30) q31) q32)
set_option maxRecDepth 100000 in
theorem over : Rows.fnExactTreeFindRow.holds Try.pinned (OpenSpec.ofChange Rows.fnExactTreeFindSpec) :=
  OpenClaim.holds_of_wide 5 Try.f5 rfl rfl rfl rfl rfl rfl rfl ⟨rfl, rfl, rfl, rfl, rfl⟩ rfl rfl rfl rfl rfl (by kernel_rfl) Try.func5 closed
    (of_decide_eq_true (by kernel_rfl)) (by unfold Func.isWrapper; first | (rw [if_pos (by decide +kernel)]; kernel_rfl) | (rw [if_neg (by decide +kernel)]; exact ⟨rfl, rfl⟩))
    (fun os started H enc _ => lifted os started H enc)
end Go.Proofs.Ytmdnelgnpponpaa.fnExactTreeFind
namespace Go.Proofs.Ytmdnelgnpponpaa
theorem fnExactTreeFind_holds : Rows.FnExactTreeFindSaid := fnExactTreeFind.over
#print axioms fnExactTreeFind_holds
end Go.Proofs.Ytmdnelgnpponpaa
