/- For every argument the landed BoxArea answers as the specification's. -/
import Derived.Test.YtodioejofoknpaiRows
import Derived.Test.YtodioejofoknpaiGeo9
import Derived.WalkKit
import Derived.ProofKit
import Derived.OpenShut
import Derived.ShutString
import Derived.ChangeOld
import Derived.Below
import Derived.Carry
import Derived.Lib.SmallJoins
import Derived.Deep.SlicePairs
namespace Go.Proofs.Ytodioejofoknpai.fnExactBoxArea
open Go.ChangeShapes Go.WideShapes Go.ChangeAt Go.RowKit Go.Joins
set_option linter.unusedVariables false
theorem own : ownKnob Try.prog.godebug = none := by kernel_rfl
theorem laidOut : laidOutB Try.prog = true := by kernel_rfl
theorem cells23 : Try.prog.cellsOf 23 = 4 := by kernel_rfl
set_option maxHeartbeats 1000000 in
theorem walk (x0 y0 z0 t0 : Int) (w : World) (wx0 : (Lit.int .i64 x0).wf = true) (wy0 : (Lit.int .i64 y0).wf = true) (wz0 : (Lit.int .i64 z0).wf = true) (wt0 : (Lit.int .i64 t0).wf = true) :
    Calls Try.prog 5 #[.agg #[.int .i64 x0, .int .i64 y0, .int .i64 z0, .int .i64 t0]] w fun e w' => e = .returned (.bool true) ∧ Below w.heap.size w w' := by
  go_enter Try.func5, Try.ntmps5
  go_wp2_with fail
  refine (to_box _ _ _ _ _).mono ?_
  rintro e w1 ⟨rfl, rfl⟩
  go_wp2_with fail
  refine (spec_area _ _ _ _ _).mono ?_
  rintro e w2 ⟨rfl, hb2⟩
  (try (replace hb2 := hb2.symm; subst hb2))
  have q0 : w2.cell? ⟨w.heap.size, 0, none⟩ = some (.int .i64 x0) := by (repeat (first | assumption | (refine newcell _ _ _ _ _ _ ?_ rfl; simp; done) | refine keepcell (by assumption) ?_ | refine keepdrew ?_ | refine keepalloc ?_ _))
  have q1 : w2.cell? ⟨w.heap.size, 1, none⟩ = some (.int .i64 y0) := by (repeat (first | assumption | (refine newcell _ _ _ _ _ _ ?_ rfl; simp; done) | refine keepcell (by assumption) ?_ | refine keepdrew ?_ | refine keepalloc ?_ _))
  have q2 : w2.cell? ⟨w.heap.size, 2, none⟩ = some (.int .i64 z0) := by (repeat (first | assumption | (refine newcell _ _ _ _ _ _ ?_ rfl; simp; done) | refine keepcell (by assumption) ?_ | refine keepdrew ?_ | refine keepalloc ?_ _))
  have q3 : w2.cell? ⟨w.heap.size, 3, none⟩ = some (.int .i64 t0) := by (repeat (first | assumption | (refine newcell _ _ _ _ _ _ ?_ rfl; simp; done) | refine keepcell (by assumption) ?_ | refine keepdrew ?_ | refine keepalloc ?_ _))
  go_wp2_with fail
  refine (to_box _ _ _ _ _).mono ?_
  rintro e w3 ⟨rfl, rfl⟩
  go_wp2_with fail
  refine (impl_area _ _ _ _ _).mono ?_
  rintro e w4 ⟨rfl, hb4⟩
  go_wp2_with fail
  go_ret
  exact ⟨by first | rfl | simp, by (repeat (first | exact Below.refl _ _ | (refine btrans ?_ (by assumption)) | refine bdrew ?_ | refine balloc ?_ _))⟩
set_option maxRecDepth 100000 in
theorem lifted (os : Os) (started : os.Started) (H : Type) (enc : TypeId × Value → H) :
    ReturnsInHanded {} Try.checked os 5 .any (Rows.fnExactBoxAreaSpec.pre6 enc Try.prog Try.f5 Rows.fnExactBoxAreaRow.domain false) (Rows.fnExactBoxAreaSpec.post enc Try.prog Try.f5 false true false false) := by
  refine returnsInHanded_of_change (C := Try.checked) own started (by kernel_rfl) Try.func5
    (ChangeSpec.witness6 (enc := enc) (C := Try.checked) false ⟨#[], #[.agg #[.int .i64 0, .int .i64 0, .int .i64 0, .int .i64 0]], []⟩ 8 (by kernel_rfl) (by kernel_rfl) (by kernel_rfl) (by kernel_rfl)) ?_
  intro W base args ds gs before hval0 hW hcnd _
  have hval : ∀ (j : Nat) t v, Try.f5.params[j]? = some t → args[j]? = some v → Value.okWide Try.prog W .any base t v := hval0
  have hW' := hW
  obtain ⟨p, q, hA0, hV, rfl, hfz, hnd⟩ := hW
  have hA : DataW.TrodAll enc Try.prog W 0 (fun _ => true) true Try.f5.params.toList args.toList ds p := hA0
  rw [Try.params5] at hA hval
  obtain ⟨v0, vs0, d0, ds0, p0, q0, hargs, rfl, rfl, h0, r0⟩ := trodAll_cons hA
  obtain ⟨rfl, rfl, rfl⟩ := trodAll_nil r0
  obtain rfl : args = #[v0] := by cases args; simp_all
  obtain ⟨rfl, rfl⟩ := trodVars_none hV
  have k0 := h0
  have lt0 : ∀ x ∈ p0, x.block < W.heap.size := by obtain ⟨m, hm⟩ := k0; exact DataW.trod_lt m _ _ _ hm
  obtain ⟨c0_0, c0_1, c0_2, c0_3, g0_0, g0_1, g0_2, g0_3, m0, rfl, rfl, rfl, hy0_0, hy0_1, hy0_2, hy0_3⟩ := open_agg4 Try.underlying23 (by kernel_rfl) cells23 (hval 0 23 v0 rfl rfl) h0
  obtain ⟨x0, e0_0, rfl, wx0⟩ := DataW.trod_int Try.underlying3 hy0_0
  obtain ⟨y0, e0_1, rfl, wy0⟩ := DataW.trod_int Try.underlying3 hy0_1
  obtain ⟨z0, e0_2, rfl, wz0⟩ := DataW.trod_int Try.underlying3 hy0_2
  obtain ⟨t0, e0_3, rfl, wt0⟩ := DataW.trod_int Try.underlying3 hy0_3
  simp at e0_0 e0_1 e0_2 e0_3
  subst e0_0 e0_1 e0_2 e0_3
  clear hA0 hval0
  refine (walk x0 y0 z0 t0 W wx0 wy0 wz0 wt0).mono fun e W' ⟨he, bel⟩ => ?_
  subst he
  exact ⟨_, rfl, _, _, _, [], _, [], hW', trodAll_mk1 (shut_bool Try.underlying4 _), (trodAll_cons_mk (Below.trod laidOut (by kernel_rfl) (of_decide_eq_true (by kernel_rfl)) k0 bel lt0) trodAll_mk0), rfl, bel.frame _, fun h => by cases h⟩
theorem over : Rows.fnExactBoxAreaRow.holds Try.pinned (OpenSpec.ofChange Rows.fnExactBoxAreaSpec) :=
  OpenClaim.holds_of_wide 5 Try.f5 rfl rfl rfl rfl rfl rfl rfl ⟨rfl, rfl, rfl, rfl, rfl⟩ rfl rfl rfl rfl rfl (by kernel_rfl) Try.func5 (by kernel_rfl)
    (of_decide_eq_true (by kernel_rfl)) (by unfold Func.isWrapper; first | (rw [if_pos (by decide +kernel)]; kernel_rfl) | (rw [if_neg (by decide +kernel)]; exact ⟨rfl, rfl⟩))
    (fun os started H enc _ => lifted os started H enc)
end Go.Proofs.Ytodioejofoknpai.fnExactBoxArea
namespace Go.Proofs.Ytodioejofoknpai
theorem fnExactBoxArea_holds : Rows.FnExactBoxAreaSaid := fnExactBoxArea.over
#print axioms fnExactBoxArea_holds
end Go.Proofs.Ytodioejofoknpai
