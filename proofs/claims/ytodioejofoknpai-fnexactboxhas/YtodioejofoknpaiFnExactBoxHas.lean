/- For every argument the landed BoxHas answers as the specification's. -/
import Derived.Test.YtodioejofoknpaiRows
import Derived.Test.YtodioejofoknpaiGeo9
import Derived.WalkKit
import Derived.ProofKit
import Derived.OpenShut
import Derived.ShutString
import Derived.ChangeOld
import Derived.Below
import Derived.Carry
import Derived.Lib.SmallJoins
import Derived.Deep.SlicePairs
namespace Go.Proofs.Ytodioejofoknpai.fnExactBoxHas
open Go.ChangeShapes Go.WideShapes Go.ChangeAt Go.RowKit Go.Joins
set_option linter.unusedVariables false
theorem own : ownKnob Try.prog.godebug = none := by kernel_rfl
theorem laidOut : laidOutB Try.prog = true := by kernel_rfl
theorem cells23 : Try.prog.cellsOf 23 = 4 := by kernel_rfl
theorem to_box_b (a b c d : Int) (w : World) : Calls Try.prog 10 #[.agg #[.int .i64 a, .int .i64 b, .int .i64 c, .int .i64 d]] w fun e w' => e = .returned (.agg #[.int .i64 a, .int .i64 b, .int .i64 c, .int .i64 d]) ∧ Below w.heap.size w w' :=
  (to_box a b c d w).mono fun e w' ⟨h1, h2⟩ => ⟨h1, by subst h2; exact balloc (balloc (balloc (Below.refl _ _) _) _) _⟩
set_option maxHeartbeats 2000000 in
theorem walk (x0 y0 z0 t0 : Int) (x1 y1 z1 t1 : Int) (w : World) (wx0 : (Lit.int .i64 x0).wf = true) (wy0 : (Lit.int .i64 y0).wf = true) (wz0 : (Lit.int .i64 z0).wf = true) (wt0 : (Lit.int .i64 t0).wf = true) (wx1 : (Lit.int .i64 x1).wf = true) (wy1 : (Lit.int .i64 y1).wf = true) (wz1 : (Lit.int .i64 z1).wf = true) (wt1 : (Lit.int .i64 t1).wf = true) :
    Calls Try.prog 3 #[.agg #[.int .i64 x0, .int .i64 y0, .int .i64 z0, .int .i64 t0], .agg #[.int .i64 x1, .int .i64 y1, .int .i64 z1, .int .i64 t1]] w fun e w' => e = .returned (.bool true) ∧ Below w.heap.size w w' := by
  have hsame : (bok x0 y0 z0 t0 && bok x1 y1 z1 t1 && (hasb x0 y0 z0 t0 x1 y1 && hasb x0 y0 z0 t0 z1 t1)) = (bok x0 y0 z0 t0 && bok x1 y1 z1 t1 && hasbx x0 y0 z0 t0 x1 y1 z1 t1) := by
    cases hB : bok x1 y1 z1 t1
    · simp
    · obtain ⟨_, _, _, _, h5, h6⟩ := bok_le hB
      rw [has_same h5 h6]
  generalize hv : (bok x0 y0 z0 t0 && bok x1 y1 z1 t1 && hasbx x0 y0 z0 t0 x1 y1 z1 t1) = V at hsame
  clear wx0 wy0 wz0 wt0 wx1 wy1 wz1 wt1
  go_enter Try.func3, Try.ntmps3
  go_wp2_with fail
  go_region_held3 (fun w' => w'.cell? ⟨w.heap.size, 0, none⟩ = some (.int .i64 x0) ∧ w'.cell? ⟨w.heap.size, 1, none⟩ = some (.int .i64 y0) ∧ w'.cell? ⟨w.heap.size, 2, none⟩ = some (.int .i64 z0) ∧ w'.cell? ⟨w.heap.size, 3, none⟩ = some (.int .i64 t0) ∧ w'.cell? ⟨w.heap.size + 1, 0, none⟩ = some (.int .i64 x1) ∧ w'.cell? ⟨w.heap.size + 1, 1, none⟩ = some (.int .i64 y1) ∧ w'.cell? ⟨w.heap.size + 1, 2, none⟩ = some (.int .i64 z1) ∧ w'.cell? ⟨w.heap.size + 1, 3, none⟩ = some (.int .i64 t1)) (first | (obtain ⟨zz0, zz1, zz2, zz3, zz4, zz5, zz6, zz7⟩ := (by assumption : _ ∧ _); (repeat' apply And.intro) <;> (repeat (first | assumption | refine keepcell (by assumption) ?_ | refine keepdrew ?_ | refine keepalloc ?_ _)); done) | ((repeat' apply And.intro) <;> (repeat (first | assumption | (refine newcell _ _ _ _ _ _ ?_ rfl; simp; done) | refine keepcell (by assumption) ?_ | refine keepdrew ?_ | refine keepalloc ?_ _))))
    (first
      | (go_at_call 10; refine (to_box_b _ _ _ _ _).mono ?_; rintro e w' ⟨rfl, hb⟩)
      | (go_at_call 9; refine (spec_BoxHas _ _ _ _ _ _ _ _ _).mono ?_; rw [hv]; rintro e w' ⟨rfl, hb⟩))
  go_wp2_with fail
  go_region_held3 (fun w' => w'.cell? ⟨w.heap.size, 0, none⟩ = some (.int .i64 x0) ∧ w'.cell? ⟨w.heap.size, 1, none⟩ = some (.int .i64 y0) ∧ w'.cell? ⟨w.heap.size, 2, none⟩ = some (.int .i64 z0) ∧ w'.cell? ⟨w.heap.size, 3, none⟩ = some (.int .i64 t0) ∧ w'.cell? ⟨w.heap.size + 1, 0, none⟩ = some (.int .i64 x1) ∧ w'.cell? ⟨w.heap.size + 1, 1, none⟩ = some (.int .i64 y1) ∧ w'.cell? ⟨w.heap.size + 1, 2, none⟩ = some (.int .i64 z1) ∧ w'.cell? ⟨w.heap.size + 1, 3, none⟩ = some (.int .i64 t1)) (first | (obtain ⟨zz0, zz1, zz2, zz3, zz4, zz5, zz6, zz7⟩ := (by assumption : _ ∧ _); (repeat' apply And.intro) <;> (repeat (first | assumption | refine keepcell (by assumption) ?_ | refine keepdrew ?_ | refine keepalloc ?_ _)); done) | ((repeat' apply And.intro) <;> (repeat (first | assumption | (refine newcell _ _ _ _ _ _ ?_ rfl; simp; done) | refine keepcell (by assumption) ?_ | refine keepdrew ?_ | refine keepalloc ?_ _))))
    (first
      | (go_at_call 10; refine (to_box_b _ _ _ _ _).mono ?_; rintro e w' ⟨rfl, hb⟩)
      | (go_at_call 11; refine (impl_BoxHas _ _ _ _ _ _ _ _ _).mono ?_; rw [hsame]; rintro e w' ⟨rfl, hb⟩))
  go_wp2_with fail
  go_ret
  exact ⟨by first | rfl | simp, by (repeat (first | exact Below.refl _ _ | (refine btrans ?_ (by assumption)) | refine bdrew ?_ | refine balloc ?_ _))⟩
set_option maxRecDepth 100000 in
theorem lifted (os : Os) (started : os.Started) (H : Type) (enc : TypeId × Value → H) :
    ReturnsInHanded {} Try.checked os 3 .any (Rows.fnExactBoxHasSpec.pre6 enc Try.prog Try.f3 Rows.fnExactBoxHasRow.domain false) (Rows.fnExactBoxHasSpec.post enc Try.prog Try.f3 false true false false) := by
  refine returnsInHanded_of_change (C := Try.checked) own started (by kernel_rfl) Try.func3
    (ChangeSpec.witness6 (enc := enc) (C := Try.checked) false ⟨#[], #[.agg #[.int .i64 0, .int .i64 0, .int .i64 0, .int .i64 0], .agg #[.int .i64 0, .int .i64 0, .int .i64 0, .int .i64 0]], []⟩ 8 (by kernel_rfl) (by kernel_rfl) (by kernel_rfl) (by kernel_rfl)) ?_
  intro W base args ds gs before hval0 hW hcnd _
  have hval : ∀ (j : Nat) t v, Try.f3.params[j]? = some t → args[j]? = some v → Value.okWide Try.prog W .any base t v := hval0
  have hW' := hW
  obtain ⟨p, q, hA0, hV, rfl, hfz, hnd⟩ := hW
  have hA : DataW.TrodAll enc Try.prog W 0 (fun _ => true) true Try.f3.params.toList args.toList ds p := hA0
  rw [Try.params3] at hA hval
  obtain ⟨v0, vs0, d0, ds0, p0, q0, hargs, rfl, rfl, h0, r0⟩ := trodAll_cons hA
  obtain ⟨v1, vs1, d1, ds1, p1, q1, rfl, rfl, rfl, h1, r1⟩ := trodAll_cons r0
  obtain ⟨rfl, rfl, rfl⟩ := trodAll_nil r1
  obtain rfl : args = #[v0, v1] := by cases args; simp_all
  obtain ⟨rfl, rfl⟩ := trodVars_none hV
  have k0 := h0
  have lt0 : ∀ x ∈ p0, x.block < W.heap.size := by obtain ⟨m, hm⟩ := k0; exact DataW.trod_lt m _ _ _ hm
  have k1 := h1
  have lt1 : ∀ x ∈ p1, x.block < W.heap.size := by obtain ⟨m, hm⟩ := k1; exact DataW.trod_lt m _ _ _ hm
  obtain ⟨c0_0, c0_1, c0_2, c0_3, g0_0, g0_1, g0_2, g0_3, m0, rfl, rfl, rfl, hy0_0, hy0_1, hy0_2, hy0_3⟩ := open_agg4 Try.underlying23 (by kernel_rfl) cells23 (hval 0 23 v0 rfl rfl) h0
  obtain ⟨x0, e0_0, rfl, wx0⟩ := DataW.trod_int Try.underlying3 hy0_0
  obtain ⟨y0, e0_1, rfl, wy0⟩ := DataW.trod_int Try.underlying3 hy0_1
  obtain ⟨z0, e0_2, rfl, wz0⟩ := DataW.trod_int Try.underlying3 hy0_2
  obtain ⟨t0, e0_3, rfl, wt0⟩ := DataW.trod_int Try.underlying3 hy0_3
  simp at e0_0 e0_1 e0_2 e0_3
  subst e0_0 e0_1 e0_2 e0_3
  obtain ⟨c1_0, c1_1, c1_2, c1_3, g1_0, g1_1, g1_2, g1_3, m1, rfl, rfl, rfl, hy1_0, hy1_1, hy1_2, hy1_3⟩ := open_agg4 Try.underlying23 (by kernel_rfl) cells23 (hval 1 23 v1 rfl rfl) h1
  obtain ⟨x1, e1_0, rfl, wx1⟩ := DataW.trod_int Try.underlying3 hy1_0
  obtain ⟨y1, e1_1, rfl, wy1⟩ := DataW.trod_int Try.underlying3 hy1_1
  obtain ⟨z1, e1_2, rfl, wz1⟩ := DataW.trod_int Try.underlying3 hy1_2
  obtain ⟨t1, e1_3, rfl, wt1⟩ := DataW.trod_int Try.underlying3 hy1_3
  simp at e1_0 e1_1 e1_2 e1_3
  subst e1_0 e1_1 e1_2 e1_3
  clear hA0 hval0
  refine (walk x0 y0 z0 t0 x1 y1 z1 t1 W wx0 wy0 wz0 wt0 wx1 wy1 wz1 wt1).mono fun e W' ⟨he, bel⟩ => ?_
  subst he
  exact ⟨_, rfl, _, _, _, [], _, [], hW', trodAll_mk1 (shut_bool Try.underlying4 _), (trodAll_cons_mk (Below.trod laidOut (by kernel_rfl) (of_decide_eq_true (by kernel_rfl)) k0 bel lt0) (trodAll_cons_mk (Below.trod laidOut (by kernel_rfl) (of_decide_eq_true (by kernel_rfl)) k1 bel lt1) trodAll_mk0)), rfl, bel.frame _, fun h => by cases h⟩
theorem over : Rows.fnExactBoxHasRow.holds Try.pinned (OpenSpec.ofChange Rows.fnExactBoxHasSpec) :=
  OpenClaim.holds_of_wide 3 Try.f3 rfl rfl rfl rfl rfl rfl rfl ⟨rfl, rfl, rfl, rfl, rfl⟩ rfl rfl rfl rfl rfl (by kernel_rfl) Try.func3 (by kernel_rfl)
    (of_decide_eq_true (by kernel_rfl)) (by unfold Func.isWrapper; first | (rw [if_pos (by decide +kernel)]; kernel_rfl) | (rw [if_neg (by decide +kernel)]; exact ⟨rfl, rfl⟩))
    (fun os started H enc _ => lifted os started H enc)
end Go.Proofs.Ytodioejofoknpai.fnExactBoxHas
namespace Go.Proofs.Ytodioejofoknpai
theorem fnExactBoxHas_holds : Rows.FnExactBoxHasSaid := fnExactBoxHas.over
#print axioms fnExactBoxHas_holds
end Go.Proofs.Ytodioejofoknpai
