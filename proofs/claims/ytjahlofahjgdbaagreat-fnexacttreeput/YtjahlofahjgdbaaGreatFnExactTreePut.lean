import Derived.Test.YtjahlofahjgdbaaGreatLm
import Derived.WalkKit
import Derived.Deep.DeepCutAuto
import Derived.ProofKit
import Derived.OpenShut
import Derived.ShutString
import Derived.ChangeOld
import Derived.Below
import Derived.Carry
import Derived.Lib.SmallJoins
import Derived.Deep.SlicePairs
set_option linter.unusedSimpArgs false
set_option linter.unusedVariables false
namespace Go.Proofs.YtjahlofahjgdbaaGreat.fnExactTreePut
open Go.ChangeShapes Go.WideShapes Go.ChangeAt Go.RowKit Go.Joins
theorem own : ownKnob Tryz.prog.godebug = none:=by kernel_rfl
theorem laidOut : laidOutB Tryz.prog = true:=by kernel_rfl
theorem cells29 : Tryz.prog.cellsOf 29 = 5:=by kernel_rfl
theorem walk (t0 : KT) (ia0 : Option Addr) (ic0 : Nat) (ka0 : Option Addr) (kc0 n0 : Nat) (x1 y1 z1 t1 q1 : Int) (w : World) (w0 : KnL n0 w ia0 ic0 ka0 kc0 t0) :
  Calls Tryz.prog 3 #[kv t0 ia0 ic0 ka0 kc0,.agg #[.int .i64 x1,.int .i64 y1,.int .i64 z1,.int .i64 t1,.int .i64 q1]] w fun e w' => e = .returned (.bool true) ∧ Below w.heap.size w w':=by
 exact treeput_w t0 ia0 ic0 ka0 kc0 n0 x1 y1 z1 t1 q1 w w0
set_option maxRecDepth 100000 in
theorem lifted (os : Os) (started : os.Started) (H : Type) (enc : TypeId × Value → H) :
  ReturnsInHanded {} Tryz.checked os 3 .any (Rows.fnExactTreePutSpec.pre6 enc Tryz.prog Tryz.f3 Rows.fnExactTreePutRow.domain false) (Rows.fnExactTreePutSpec.post enc Tryz.prog Tryz.f3 false true false false):=by
 refine returnsInHanded_of_change (C:=Tryz.checked) own started (by kernel_rfl) Tryz.func3
  (ChangeSpec.witness6 (enc:=enc) (C:=Tryz.checked) false ⟨#[],#[.agg #[.int .i64 0,.int .i64 0,.int .i64 0,.int .i64 0,.bool false,.slice none 0 0,.slice none 0 0],.agg #[.int .i64 0,.int .i64 0,.int .i64 0,.int .i64 0,.int .i64 0]],[]⟩ 8 (by kernel_rfl) (by kernel_rfl) (by kernel_rfl) (by kernel_rfl)) ?_
 intro W base args ds gs before hval0 hW hcnd _
 have hval : ∀ (j : Nat) t v,Tryz.f3.params[j]? = some t → args[j]? = some v → Value.okWide Tryz.prog W .any base t v:=hval0
 have hW':=hW
 obtain ⟨p,q,hA0,hV,rfl,hfz,hnd⟩:=hW
 have hA : DataW.TrodAll enc Tryz.prog W 0 (fun _ => true) true Tryz.f3.params.toList args.toList ds p:=hA0
 rw [Tryz.params3] at hA hval
 obtain ⟨v0,vs0,d0,ds0,p0,q0,hargs,rfl,rfl,h0,r0⟩:=trodAll_cons hA
 obtain ⟨v1,vs1,d1,ds1,p1,q1,rfl,rfl,rfl,h1,r1⟩:=trodAll_cons r0
 obtain ⟨rfl,rfl,rfl⟩:=trodAll_nil r1
 obtain rfl : args = #[v0,v1]:=by cases args;simp_all
 obtain ⟨rfl,rfl⟩:=trodVars_none hV
 have k0:=h0
 have lt0 : ∀ x ∈ p0,x.block < W.heap.size:=by obtain ⟨m,hm⟩:=k0;exact DataW.trod_lt m _ _ _ hm
 have k1:=h1
 have lt1 : ∀ x ∈ p1,x.block < W.heap.size:=by obtain ⟨m,hm⟩:=k1;exact DataW.trod_lt m _ _ _ hm
 obtain ⟨cs0,rfl,hsz0⟩:=okWide_struct Tryz.underlying27 (hval 0 27 v0 rfl rfl)
 obtain ⟨t0,ia0,ic0,ka0,kc0,ecs0,w0⟩:=open_knot _ _ _ _ (Nat.le_refl _) h0.choose_spec
 obtain rfl : cs0 = #[.int .i64 t0.box.1,.int .i64 t0.box.2.1,.int .i64 t0.box.2.2.1,.int .i64 t0.box.2.2.2,.bool t0.lf,.slice ia0 t0.its.length ic0,.slice ka0 t0.kids.length kc0]:=by cases cs0;simpa [Value.cells,ck] using ecs0
 obtain ⟨cs1,rfl,hsz1⟩:=okWide_struct Tryz.underlying29 (hval 1 29 v1 rfl rfl)
 obtain ⟨⟨x1,y1,z1,t1,q1⟩,ecs1⟩:=open_item h1.choose_spec
 obtain rfl : cs1 = #[.int .i64 x1,.int .i64 y1,.int .i64 z1,.int .i64 t1,.int .i64 q1]:=by cases cs1;simpa [Value.cells,ci] using ecs1
 clear hA0 hval0
 refine (walk t0 ia0 ic0 ka0 kc0 _ x1 y1 z1 t1 q1 W w0).mono fun e W' ⟨he,bel⟩ => ?_
 subst he
 exact ⟨_,rfl,_,_,_,[],_,[],hW',trodAll_mk1 (shut_bool Tryz.underlying4 _),(trodAll_cons_mk (Below.trod laidOut (by kernel_rfl) (of_decide_eq_true (by kernel_rfl)) k0 bel lt0) (trodAll_cons_mk (Below.trod laidOut (by kernel_rfl) (of_decide_eq_true (by kernel_rfl)) k1 bel lt1) trodAll_mk0)),rfl,bel.frame _,fun h => by cases h⟩
theorem band {a b : Bool} (h1 : a = true) (h2 : b = true) : (a && b) = true:=by rw [h1,h2];rfl
set_option maxRecDepth 100000 in
theorem q1 : (Rows.fnExactTreePutRow.wf (OpenSpec.ofChange Rows.fnExactTreePutSpec)) = true:=by kernel_rfl
set_option maxRecDepth 100000 in
theorem q2 : (laidOutB Tryz.pinned.checked.prog) = true:=sh2
set_option maxRecDepth 100000 in
theorem q3 : (mapsRowed Tryz.pinned.checked.prog) = true:=sh3
set_option maxRecDepth 100000 in
theorem q4 : (Tryz.f3.params.all (Tryz.pinned.checked.prog.readableRec ·)) = true:=by kernel_rfl
set_option maxRecDepth 100000 in
theorem q5 : (namedTie Tryz.pinned.checked.prog Rows.fnExactTreePutRow.named Rows.fnExactTreePutSpec.vars) = true:=by kernel_rfl
set_option maxRecDepth 100000 in
theorem q6 : ((Rows.fnExactTreePutRow.stops == [])) = true:=by kernel_rfl
set_option maxRecDepth 100000 in
theorem q7 : ((Tryz.pinned.checked.prog.stops == [])) = true:=sh7
set_option maxRecDepth 100000 in
theorem q8 : ((Rows.fnExactTreePutRow.knobs == [])) = true:=by kernel_rfl
set_option maxRecDepth 100000 in
theorem q9 : ((Tryz.pinned.checked.prog.stopKnobs == [])) = true:=sh9
set_option maxRecDepth 100000 in
theorem q10 : ((Rows.fnExactTreePutRow.inPlace == Tryz.pinned.checked.prog.inPlace 3)) = true:=by kernel_rfl
set_option maxRecDepth 100000 in
theorem q11 : ((Rows.fnExactTreePutRow.unfollowed == Tryz.pinned.checked.prog.unfollowed 3)) = true:=by kernel_rfl
set_option maxRecDepth 100000 in
theorem q12 : ((Rows.fnExactTreePutRow.recurses == Tryz.pinned.checked.prog.recurses 3)) = true:=by kernel_rfl
set_option maxRecDepth 100000 in
theorem q13 : ((Rows.fnExactTreePutRow.named == Tryz.pinned.checked.prog.varsNamed 3)) = true:=by kernel_rfl
set_option maxRecDepth 100000 in
theorem q14 : ((Rows.fnExactTreePutRow.maps == (Tryz.f3.params.toList ++ Rows.fnExactTreePutSpec.plain.varTypes Tryz.pinned.checked.prog).any (Tryz.pinned.checked.prog.mapsRec ·))) = true:=by kernel_rfl
set_option maxRecDepth 100000 in
theorem q15 : ((Rows.fnExactTreePutRow.ifaces == (Tryz.f3.params.toList ++ Rows.fnExactTreePutSpec.plain.varTypes Tryz.pinned.checked.prog).any (Tryz.pinned.checked.prog.ifacesRec ·))) = true:=by kernel_rfl
set_option maxRecDepth 100000 in
theorem q16 : ((Rows.fnExactTreePutRow.mapsOut == Tryz.pinned.checked.prog.mapsAmong Tryz.f3.resultTypes.toList)) = true:=by kernel_rfl
set_option maxRecDepth 100000 in
theorem q17 : ((Rows.fnExactTreePutRow.loops == (Tryz.f3.params.toList ++ Rows.fnExactTreePutSpec.plain.varTypes Tryz.pinned.checked.prog).any (Tryz.pinned.checked.prog.loopsFrom ·))) = true:=by kernel_rfl
set_option maxRecDepth 100000 in
theorem q18 : ((Rows.fnExactTreePutRow.wideKeys == (Tryz.f3.params.toList ++ Rows.fnExactTreePutSpec.plain.varTypes Tryz.pinned.checked.prog ++ Tryz.f3.resultTypes.toList).any (Tryz.pinned.checked.prog.wideKeysFrom ·))) = true:=by kernel_rfl
set_option maxRecDepth 100000 in
theorem q19 : (Rows.fnExactTreePutSpec.vars.all (Tryz.pinned.checked.prog.varReadable ·)) = true:=by kernel_rfl
set_option maxRecDepth 100000 in
theorem q20 : (Tryz.f3.resultTypes.all (fun t => Tryz.pinned.checked.prog.readableRec t && decide (t < Tryz.pinned.checked.prog.types.size))) = true:=by kernel_rfl
set_option maxRecDepth 100000 in
theorem q21 : ((Rows.fnExactTreePutRow.ifacesOut == Tryz.f3.resultTypes.toList.any (Tryz.pinned.checked.prog.ifacesRec ·))) = true:=by kernel_rfl
set_option maxRecDepth 100000 in
theorem q22 : ((Rows.fnExactTreePutRow.loopsOut == Tryz.f3.resultTypes.toList.any (Tryz.pinned.checked.prog.loopsFrom ·))) = true:=by kernel_rfl
set_option maxRecDepth 100000 in
theorem q23 : ((Rows.fnExactTreePutRow.plainKeys == Tryz.pinned.checked.prog.plainKeys)) = true:=sh23
set_option maxRecDepth 100000 in
theorem q24 : (Rows.fnExactTreePutRow.shortTexts.isNone) = true:=by kernel_rfl
set_option maxRecDepth 100000 in
theorem q25 : (Tryz.pinned.checked.prog.stopsHeard) = true:=sh25
set_option maxRecDepth 100000 in
theorem q26 : (Tryz.pinned.checked.prog.mayEnter) = true:=sh26
set_option maxRecDepth 100000 in
theorem q27 : ((Rows.fnExactTreePutRow.lifted == Tryz.pinned.checked.prog.liftsFinal)) = true:=sh27
set_option maxRecDepth 100000 in
theorem q28 : ((Tryz.pinned.checked.prog.make == some Rows.fnExactTreePutRow.make)) = true:=sh28
set_option maxRecDepth 100000 in
theorem q29 : ((Rows.fnExactTreePutRow.kinds == (if Rows.fnExactTreePutRow.domain.isEmpty then [] else Tryz.f3.params.toList.map fun t => match Tryz.pinned.checked.prog.underlying t with | some (.int k) => some k | _ => none))) = true:=by kernel_rfl
set_option maxRecDepth 100000 in
theorem q30 : ((Rows.fnExactTreePutRow.pinned == Rows.fnExactTreePutRow.pinnedBy)) = true:=by kernel_rfl
set_option maxRecDepth 100000 in
theorem q31 : ((Rows.fnExactTreePutRow.veiled == (Tryz.f3.params.toList ++ Rows.fnExactTreePutSpec.plain.varTypes Tryz.pinned.checked.prog ++ Tryz.f3.resultTypes.toList).any (Tryz.pinned.checked.prog.veiledRec ·))) = true:=by kernel_rfl
set_option maxRecDepth 100000 in
theorem q32 : (Rows.fnExactTreePutRow.veiledFits Tryz.pinned.checked.prog Tryz.f3.params.toList (Tryz.f3.params.toList ++ Rows.fnExactTreePutSpec.plain.varTypes Tryz.pinned.checked.prog ++ Tryz.f3.resultTypes.toList)) = true:=by kernel_rfl
set_option maxRecDepth 100000 in
theorem closed : joinedFacts Tryz.pinned.checked.prog 3 Tryz.f3 Rows.fnExactTreePutSpec Rows.fnExactTreePutRow = true:=by
 unfold joinedFacts
 exact (band (band (band (band (band (band (band (band (band (band (band (band (band (band (band (band (band (band (band (band (band (band (band (band (band (band (band (band (band (band (band q1 q2) q3) q4) q5) q6) q7) q8) q9) q10) q11) q12) q13) q14) q15) q16) q17) q18) q19) q20) q21) q22) q23) q24) q25) q26) q27) q28) q29) q30) q31) q32)
set_option maxRecDepth 100000 in
theorem over : Rows.fnExactTreePutRow.holds Tryz.pinned (OpenSpec.ofChange Rows.fnExactTreePutSpec):=
 OpenClaim.holds_of_wide 3 Tryz.f3 rfl rfl rfl rfl rfl rfl rfl ⟨rfl,rfl,rfl,rfl,rfl⟩ rfl rfl rfl rfl rfl (by kernel_rfl) Tryz.func3 closed
  (of_decide_eq_true (by kernel_rfl)) (by unfold Func.isWrapper;first | (rw [if_pos (by decide +kernel)];kernel_rfl) | (rw [if_neg (by decide +kernel)];exact ⟨rfl,rfl⟩))
  (fun os started H enc _ => lifted os started H enc)
end Go.Proofs.YtjahlofahjgdbaaGreat.fnExactTreePut
namespace Go.Proofs.YtjahlofahjgdbaaGreat
theorem fnExactTreePut_holds : Rows.FnExactTreePutSaid:=fnExactTreePut.over
#print axioms fnExactTreePut_holds
end Go.Proofs.YtjahlofahjgdbaaGreat
