/- For every shape and every point the landed ShapeHas answers as the specification's and leaves the shape as it was. -/
import Derived.Test.YtialcllfmhcigaaRows
import Derived.Test.YtialcllfmhcigaaFacts
import Derived.Test.YtialcllfmhcigaaHas4
import Derived.WalkKit
import Derived.Deep.DeepCutAuto
import Derived.ProofKit
import Derived.OpenShut
import Derived.ShutString
import Derived.ChangeOld
import Derived.Below
import Derived.Carry
import Derived.Lib.SmallJoins
import Derived.Deep.SlicePairs
namespace Go.Proofs.Ytialcllfmhcigaa.fnExactShapeHas
open Go.ChangeShapes Go.WideShapes Go.ChangeAt Go.RowKit Go.Joins
set_option linter.unusedVariables false
set_option linter.unusedSimpArgs false
theorem own : ownKnob Try.prog.godebug = none := by kernel_rfl
theorem laidOut : laidOutB Try.prog = true := by kernel_rfl
theorem cells76 : Try.prog.cellsOf 76 = 2 := by kernel_rfl
theorem cells80 : Try.prog.cellsOf 80 = 2 := by kernel_rfl
set_option maxHeartbeats 2000000 in
theorem walk (kd0 : Int) (a0 : Option Addr) (cap0 : Nat) (ps0 : List (Int × Int)) (x1 y1 : Int) (w : World) (wkd0 : (Lit.int .i64 kd0).wf = true) (w0 : PtsIn w a0 cap0 ps0) (wx1 : (Lit.int .i64 x1).wf = true) (wy1 : (Lit.int .i64 y1).wf = true) :
    Calls Try.prog 15 #[shv kd0 a0 ps0.length cap0, .agg #[.int .i64 x1, .int .i64 y1]] w fun e w' => e = .returned (.bool true) ∧ Below w.heap.size w w' := by
  clear wkd0 wx1 wy1
  obtain ⟨hp, hc, hm⟩ := w0
  by_cases hbig : (1048576 : Int) < (ps0.length : Int)
  · go_enter Try.func15, Try.ntmps15
    go_wp2_with fail
    refine (szs_big _ _ _ _ _ _ (by omega) (by omega) (by omega) hbig).mono ?_
    rintro e w1 ⟨rfl, hb1⟩
    go_wp2_with fail
    go_ret
    exact ⟨rfl, by (repeat (first | with_reducible exact Below.refl _ _ | with_reducible assumption | (with_reducible refine btrans ?_ (by with_reducible assumption)) | with_reducible refine bdrew ?_ | with_reducible refine balloc ?_ _))⟩
  have hm' : ps0.length ≤ 1099511627776 := by omega
  have hp0 := hid hp
  clear hp
  go_enter Try.func15, Try.ntmps15
  go_wp2_with fail
  refine (szs_ok _ _ _ _ _ _ (by omega) (by omega) (by omega)).mono ?_
  rintro e w1 ⟨rfl, hb1⟩
  have fq0 : w1.cell? ⟨w.heap.size, 0, none⟩ = some (.int .i64 kd0) := by (repeat (first | with_reducible assumption | (refine newcell _ _ _ _ _ _ ?_ rfl; simp; done) | refine keepcell (by with_reducible assumption) ?_ | refine keepdrew ?_ | refine keepalloc ?_ _))
  have fq1 : w1.cell? ⟨w.heap.size, 1, none⟩ = some (.slice a0 ps0.length cap0) := by (repeat (first | with_reducible assumption | (refine newcell _ _ _ _ _ _ ?_ rfl; simp; done) | refine keepcell (by with_reducible assumption) ?_ | refine keepdrew ?_ | refine keepalloc ?_ _))
  have fq2 : w1.cell? ⟨w.heap.size + 1, 0, none⟩ = some (.int .i64 x1) := by (repeat (first | with_reducible assumption | (refine newcell _ _ _ _ _ _ ?_ rfl; simp; done) | refine keepcell (by with_reducible assumption) ?_ | refine keepdrew ?_ | refine keepalloc ?_ _))
  have fq3 : w1.cell? ⟨w.heap.size + 1, 1, none⟩ = some (.int .i64 y1) := by (repeat (first | with_reducible assumption | (refine newcell _ _ _ _ _ _ ?_ rfl; simp; done) | refine keepcell (by with_reducible assumption) ?_ | refine keepdrew ?_ | refine keepalloc ?_ _))
  have hB1 : Below w.heap.size w w1 := by (repeat (first | with_reducible exact Below.refl _ _ | with_reducible assumption | (with_reducible refine btrans ?_ (by with_reducible assumption)) | with_reducible refine bdrew ?_ | with_reducible refine balloc ?_ _))
  have hs1 : ¬ ((1048576 : Int) - (ps0.length : Int) < 0) := by omega
  clear hb1
  go_wp2_with fail
  go_region_held3 (fun w' => w'.cell? ⟨w.heap.size, 0, none⟩ = some (.int .i64 kd0) ∧ w'.cell? ⟨w.heap.size, 1, none⟩ = some (.slice a0 ps0.length cap0) ∧ w'.cell? ⟨w.heap.size + 1, 0, none⟩ = some (.int .i64 x1) ∧ w'.cell? ⟨w.heap.size + 1, 1, none⟩ = some (.int .i64 y1)) ((go_split_ands; (repeat' apply And.intro) <;> (repeat (first | with_reducible assumption | with_reducible refine keepset ?_ (by dsimp only; omega) | with_reducible refine keepdrew ?_ | with_reducible refine keepcell (by with_reducible assumption) ?_ | with_reducible refine keepalloc ?_ _))))
    (first
      | (go_at_call 75; refine (to_shape kd0 a0 cap0 ps0 _ hm' hc (hp0.out.below (bdrew hB1))).mono ?_; rintro e w2 ⟨b2, rfl, hg2, ho2, hb2⟩; have Ho2 := hid ho2; clear ho2)
      | (go_at_call 73; refine (to_point_b _ _ _).mono ?_; rintro e w3 ⟨rfl, hb3⟩; have Ho3 := hid (Ho2.out.below hb3))
      | (go_at_call 60; refine (spec_ShapeHas _ _ _ _ _ ps0 _ hm' (Nat.le_refl _) Ho3.out.pts).mono ?_; rintro e w4 ⟨rfl, hb4⟩))
  have fr0 : w4.cell? ⟨w.heap.size, 0, none⟩ = some (.int .i64 kd0) := by (repeat (first | with_reducible assumption | with_reducible refine keepset ?_ (by dsimp only; omega) | with_reducible refine keepdrew ?_ | with_reducible refine keepcell (by with_reducible assumption) ?_ | with_reducible refine keepalloc ?_ _))
  have fr1 : w4.cell? ⟨w.heap.size, 1, none⟩ = some (.slice a0 ps0.length cap0) := by (repeat (first | with_reducible assumption | with_reducible refine keepset ?_ (by dsimp only; omega) | with_reducible refine keepdrew ?_ | with_reducible refine keepcell (by with_reducible assumption) ?_ | with_reducible refine keepalloc ?_ _))
  have fr2 : w4.cell? ⟨w.heap.size + 1, 0, none⟩ = some (.int .i64 x1) := by (repeat (first | with_reducible assumption | with_reducible refine keepset ?_ (by dsimp only; omega) | with_reducible refine keepdrew ?_ | with_reducible refine keepcell (by with_reducible assumption) ?_ | with_reducible refine keepalloc ?_ _))
  have fr3 : w4.cell? ⟨w.heap.size + 1, 1, none⟩ = some (.int .i64 y1) := by (repeat (first | with_reducible assumption | with_reducible refine keepset ?_ (by dsimp only; omega) | with_reducible refine keepdrew ?_ | with_reducible refine keepcell (by with_reducible assumption) ?_ | with_reducible refine keepalloc ?_ _))
  have hB4 : Below w.heap.size w w4 := by (repeat (first | with_reducible exact Below.refl _ _ | with_reducible assumption | (with_reducible refine btrans ?_ (by with_reducible assumption)) | with_reducible refine bdrew ?_ | with_reducible refine balloc ?_ _))
  clear hb2 hb3 hb4 hB1
  go_wp2_with fail
  refine (to_shape kd0 a0 cap0 ps0 _ hm' hc (hp0.out.below hB4)).mono ?_
  rintro e w5 ⟨b5, rfl, hg5, ho5, hb5⟩
  have hB5' := hid (btrans hB4 hb5)
  have ft0 : w5.cell? ⟨w.heap.size, 0, none⟩ = some (.int .i64 kd0) := by (refine keepcell hb5 ?_; with_reducible assumption)
  have ft1 : w5.cell? ⟨w.heap.size, 1, none⟩ = some (.slice a0 ps0.length cap0) := by (refine keepcell hb5 ?_; with_reducible assumption)
  have ft2 : w5.cell? ⟨w.heap.size + 1, 0, none⟩ = some (.int .i64 x1) := by (refine keepcell hb5 ?_; with_reducible assumption)
  have ft3 : w5.cell? ⟨w.heap.size + 1, 1, none⟩ = some (.int .i64 y1) := by (refine keepcell hb5 ?_; with_reducible assumption)
  have Ho5 := hid ho5
  clear ho5
  go_wp2_with fail
  have fu0 : (w5.alloc (.cells #[.int .i64 kd0, .slice (some ⟨b5, 0, none⟩) ps0.length ps0.length] 52)).cell? ⟨w.heap.size, 0, none⟩ = some (.int .i64 kd0) := by (repeat (first | with_reducible assumption | (refine newcell _ _ _ _ _ _ ?_ rfl; simp; done) | refine keepcell (by with_reducible assumption) ?_ | refine keepdrew ?_ | refine keepalloc ?_ _))
  have fu1 : (w5.alloc (.cells #[.int .i64 kd0, .slice (some ⟨b5, 0, none⟩) ps0.length ps0.length] 52)).cell? ⟨w.heap.size, 1, none⟩ = some (.slice a0 ps0.length cap0) := by (repeat (first | with_reducible assumption | (refine newcell _ _ _ _ _ _ ?_ rfl; simp; done) | refine keepcell (by with_reducible assumption) ?_ | refine keepdrew ?_ | refine keepalloc ?_ _))
  have fu2 : (w5.alloc (.cells #[.int .i64 kd0, .slice (some ⟨b5, 0, none⟩) ps0.length ps0.length] 52)).cell? ⟨w.heap.size + 1, 0, none⟩ = some (.int .i64 x1) := by (repeat (first | with_reducible assumption | (refine newcell _ _ _ _ _ _ ?_ rfl; simp; done) | refine keepcell (by with_reducible assumption) ?_ | refine keepdrew ?_ | refine keepalloc ?_ _))
  have fu3 : (w5.alloc (.cells #[.int .i64 kd0, .slice (some ⟨b5, 0, none⟩) ps0.length ps0.length] 52)).cell? ⟨w.heap.size + 1, 1, none⟩ = some (.int .i64 y1) := by (repeat (first | with_reducible assumption | (refine newcell _ _ _ _ _ _ ?_ rfl; simp; done) | refine keepcell (by with_reducible assumption) ?_ | refine keepdrew ?_ | refine keepalloc ?_ _))
  have fu4 : (w5.alloc (.cells #[.int .i64 kd0, .slice (some ⟨b5, 0, none⟩) ps0.length ps0.length] 52)).cell? ⟨w5.heap.size, 0, none⟩ = some (.int .i64 kd0) := by (repeat (first | with_reducible assumption | (refine newcell _ _ _ _ _ _ ?_ rfl; simp; done) | refine keepcell (by with_reducible assumption) ?_ | refine keepdrew ?_ | refine keepalloc ?_ _))
  have fu5 : (w5.alloc (.cells #[.int .i64 kd0, .slice (some ⟨b5, 0, none⟩) ps0.length ps0.length] 52)).cell? ⟨w5.heap.size, 1, none⟩ = some (.slice (some ⟨b5, 0, none⟩) ps0.length ps0.length) := by (repeat (first | with_reducible assumption | (refine newcell _ _ _ _ _ _ ?_ rfl; simp; done) | refine keepcell (by with_reducible assumption) ?_ | refine keepdrew ?_ | refine keepalloc ?_ _))
  have hBW : Below w5.heap.size w5 (w5.alloc (.cells #[.int .i64 kd0, .slice (some ⟨b5, 0, none⟩) ps0.length ps0.length] 52)) := balloc (Below.refl _ _) _
  generalize (w5.alloc (.cells #[.int .i64 kd0, .slice (some ⟨b5, 0, none⟩) ps0.length ps0.length] 52)) = W5 at *
  have HoW := hid (Ho5.out.below hBW)
  have hBW' := btrans hB5'.out hBW
  generalize w5.heap.size = X at *
  clear hb5 hB4 hBW
  go_region_held3 (fun w' => w'.cell? ⟨w.heap.size, 0, none⟩ = some (.int .i64 kd0) ∧ w'.cell? ⟨w.heap.size, 1, none⟩ = some (.slice a0 ps0.length cap0) ∧ w'.cell? ⟨w.heap.size + 1, 0, none⟩ = some (.int .i64 x1) ∧ w'.cell? ⟨w.heap.size + 1, 1, none⟩ = some (.int .i64 y1) ∧ w'.cell? ⟨X, 0, none⟩ = some (.int .i64 kd0) ∧ w'.cell? ⟨X, 1, none⟩ = some (.slice (some ⟨b5, 0, none⟩) ps0.length ps0.length)) ((go_split_ands; (repeat' apply And.intro) <;> (repeat (first | with_reducible assumption | with_reducible refine keepset ?_ (by dsimp only; omega) | with_reducible refine keepdrew ?_ | with_reducible refine keepcell (by with_reducible assumption) ?_ | with_reducible refine keepalloc ?_ _))))
    (first
      | (go_at_call 73; refine (to_point_b _ _ _).mono ?_; rintro e w6 ⟨rfl, hb6⟩; have Ho6 := hid ((HoW.out.below (bdrew (Below.refl _ _))).below hb6))
      | (go_at_call 59; refine (impl_ShapeHas _ _ _ _ _ ps0 _ hm' (Nat.le_refl _) Ho6.out.pts).mono ?_; rintro e w7 ⟨rfl, hb7⟩))
  have fz0 : w7.cell? ⟨w.heap.size, 0, none⟩ = some (.int .i64 kd0) := by (repeat (first | with_reducible assumption | with_reducible refine keepset ?_ (by dsimp only; omega) | with_reducible refine keepdrew ?_ | with_reducible refine keepcell (by with_reducible assumption) ?_ | with_reducible refine keepalloc ?_ _))
  have fz1 : w7.cell? ⟨w.heap.size, 1, none⟩ = some (.slice a0 ps0.length cap0) := by (repeat (first | with_reducible assumption | with_reducible refine keepset ?_ (by dsimp only; omega) | with_reducible refine keepdrew ?_ | with_reducible refine keepcell (by with_reducible assumption) ?_ | with_reducible refine keepalloc ?_ _))
  have fz2 : w7.cell? ⟨w.heap.size + 1, 0, none⟩ = some (.int .i64 x1) := by (repeat (first | with_reducible assumption | with_reducible refine keepset ?_ (by dsimp only; omega) | with_reducible refine keepdrew ?_ | with_reducible refine keepcell (by with_reducible assumption) ?_ | with_reducible refine keepalloc ?_ _))
  have fz3 : w7.cell? ⟨w.heap.size + 1, 1, none⟩ = some (.int .i64 y1) := by (repeat (first | with_reducible assumption | with_reducible refine keepset ?_ (by dsimp only; omega) | with_reducible refine keepdrew ?_ | with_reducible refine keepcell (by with_reducible assumption) ?_ | with_reducible refine keepalloc ?_ _))
  have fz4 : w7.cell? ⟨X, 0, none⟩ = some (.int .i64 kd0) := by (repeat (first | with_reducible assumption | with_reducible refine keepset ?_ (by dsimp only; omega) | with_reducible refine keepdrew ?_ | with_reducible refine keepcell (by with_reducible assumption) ?_ | with_reducible refine keepalloc ?_ _))
  have fz5 : w7.cell? ⟨X, 1, none⟩ = some (.slice (some ⟨b5, 0, none⟩) ps0.length ps0.length) := by (repeat (first | with_reducible assumption | with_reducible refine keepset ?_ (by dsimp only; omega) | with_reducible refine keepdrew ?_ | with_reducible refine keepcell (by with_reducible assumption) ?_ | with_reducible refine keepalloc ?_ _))
  have Ho7 := hid (Ho6.out.below hb7)
  have hB7 : Below w.heap.size w w7 := by (repeat (first | with_reducible exact Below.refl _ _ | with_reducible assumption | (with_reducible refine btrans ?_ (by with_reducible assumption)) | with_reducible refine bdrew ?_ | with_reducible refine balloc ?_ _))
  clear hb6 hb7 hBW'
  go_wp2_with fail
  go_region_held3 (fun w' => w'.cell? ⟨w.heap.size, 0, none⟩ = some (.int .i64 kd0) ∧ w'.cell? ⟨w.heap.size, 1, none⟩ = some (.slice a0 ps0.length cap0) ∧ w'.cell? ⟨X, 0, none⟩ = some (.int .i64 kd0) ∧ w'.cell? ⟨X, 1, none⟩ = some (.slice (some ⟨b5, 0, none⟩) ps0.length ps0.length)) ((go_split_ands; (repeat' apply And.intro) <;> (repeat (first | with_reducible assumption | with_reducible refine keepset ?_ (by dsimp only; omega) | with_reducible refine keepdrew ?_ | with_reducible refine keepcell (by with_reducible assumption) ?_ | with_reducible refine keepalloc ?_ _))))
    (first
      | (go_at_call 75; refine (to_shape kd0 a0 cap0 ps0 _ hm' hc (hp0.out.below (bdrew hB7))).mono ?_; rintro e v1 ⟨c1, rfl, hg1', ho1', hbv1⟩; have Hov1 := hid ho1'; clear ho1'; have Hx1 := hid ((Ho7.out.below (bdrew (Below.refl _ _))).below hbv1))
      | (go_at_call 77; refine (eq_shape kd0 _ _ _ _ ps0 _ hm' (Nat.le_refl _) (Nat.le_refl _) Hx1.out.pts Hov1.out.pts).mono ?_; rintro e v2 ⟨rfl, hbv2⟩))
  go_wp2_with fail
  go_ret
  exact ⟨rfl, by (repeat (first | with_reducible exact Below.refl _ _ | with_reducible assumption | (with_reducible refine btrans ?_ (by with_reducible assumption)) | with_reducible refine bdrew ?_ | with_reducible refine balloc ?_ _))⟩
set_option maxRecDepth 100000 in
theorem lifted (os : Os) (started : os.Started) (H : Type) (enc : TypeId × Value → H) :
    ReturnsInHanded {} Try.checked os 15 .any (Rows.fnExactShapeHasSpec.pre6 enc Try.prog Try.f15 Rows.fnExactShapeHasRow.domain false) (Rows.fnExactShapeHasSpec.post enc Try.prog Try.f15 false true false false) := by
  refine returnsInHanded_of_change (C := Try.checked) own started (by kernel_rfl) Try.func15
    (ChangeSpec.witness6 (enc := enc) (C := Try.checked) false ⟨#[], #[.agg #[.int .i64 0, .slice none 0 0], .agg #[.int .i64 0, .int .i64 0]], []⟩ 8 (by kernel_rfl) (by kernel_rfl) (by kernel_rfl) (by kernel_rfl)) ?_
  intro W base args ds gs before hval0 hW hcnd _
  have hval : ∀ (j : Nat) t v, Try.f15.params[j]? = some t → args[j]? = some v → Value.okWide Try.prog W .any base t v := hval0
  have hW' := hW
  obtain ⟨p, q, hA0, hV, rfl, hfz, hnd⟩ := hW
  have hA : DataW.TrodAll enc Try.prog W 0 (fun _ => true) true Try.f15.params.toList args.toList ds p := hA0
  rw [Try.params15] at hA hval
  obtain ⟨v0, vs0, d0, ds0, p0, q0, hargs, rfl, rfl, h0, r0⟩ := trodAll_cons hA
  obtain ⟨v1, vs1, d1, ds1, p1, q1, rfl, rfl, rfl, h1, r1⟩ := trodAll_cons r0
  obtain ⟨rfl, rfl, rfl⟩ := trodAll_nil r1
  obtain rfl : args = #[v0, v1] := by cases args; simp_all
  obtain ⟨rfl, rfl⟩ := trodVars_none hV
  have k0 := h0
  have lt0 : ∀ x ∈ p0, x.block < W.heap.size := by obtain ⟨m, hm⟩ := k0; exact DataW.trod_lt m _ _ _ hm
  have k1 := h1
  have lt1 : ∀ x ∈ p1, x.block < W.heap.size := by obtain ⟨m, hm⟩ := k1; exact DataW.trod_lt m _ _ _ hm
  obtain ⟨c0_0, c0_1, g0_0, g0_1, m0, rfl, rfl, rfl, hy0_0, hy0_1⟩ := open_agg2 Try.underlying80 (by kernel_rfl) cells80 (hval 0 80 v0 rfl rfl) h0
  obtain ⟨kd0, e0_0, rfl, wkd0⟩ := DataW.trod_int Try.underlying3 hy0_0
  simp at e0_0
  subst e0_0
  obtain ⟨a0, cap0, ps0, e0_1, w0⟩ : ∃ (a : Option Addr) (cap : Nat) (ps : List (Int × Int)), c0_1 = .slice a ps.length cap ∧ PtsIn W a cap ps := by
    rcases Go.Deep.open_slice_pairs Try.underlying68 Try.underlying76 cells76 rfl rfl (by kernel_rfl) (by kernel_rfl) hy0_1 with ⟨hcs, _⟩ | ⟨x, l, c, m, n, V0, V1, D0, D1, P0, P1, hcs, _, hl, hm, hmm, _, hall⟩
    · simp at hcs
      exact ⟨none, 0, [], hcs, ptsIn_nil _ _⟩
    · simp at hcs
      obtain ⟨ps, hp, hw⟩ := ptsIn_of hl hm (fun j hj => by
        obtain ⟨h1, h2, h3, h4⟩ := hall j (by rw [hmm]; simp; omega)
        obtain ⟨z0, e0, _, y0⟩ := DataW.trod_int Try.underlying3 h3
        obtain ⟨z1, e1, _, y1⟩ := DataW.trod_int Try.underlying3 h4
        simp at e0 e1
        exact ⟨z0, z1, by rw [h1, e0], by rw [h2, e1], y0, y1⟩)
      exact ⟨some x, c, ps, by rw [hcs, hp], hw⟩
  subst e0_1
  obtain ⟨c1_0, c1_1, g1_0, g1_1, m1, rfl, rfl, rfl, hy1_0, hy1_1⟩ := open_agg2 Try.underlying76 (by kernel_rfl) cells76 (hval 1 76 v1 rfl rfl) h1
  obtain ⟨x1, e1_0, rfl, wx1⟩ := DataW.trod_int Try.underlying3 hy1_0
  obtain ⟨y1, e1_1, rfl, wy1⟩ := DataW.trod_int Try.underlying3 hy1_1
  simp at e1_0 e1_1
  subst e1_0 e1_1
  clear hA0 hval0
  refine (walk kd0 a0 cap0 ps0 x1 y1 W wkd0 w0 wx1 wy1).mono fun e W' ⟨he, bel⟩ => ?_
  subst he
  exact ⟨_, rfl, _, _, _, [], _, [], hW', trodAll_mk1 (shut_bool Try.underlying4 _), (trodAll_cons_mk (Below.trod laidOut (by kernel_rfl) (of_decide_eq_true (by kernel_rfl)) k0 bel lt0) (trodAll_cons_mk (Below.trod laidOut (by kernel_rfl) (of_decide_eq_true (by kernel_rfl)) k1 bel lt1) trodAll_mk0)), rfl, bel.frame _, fun h => by cases h⟩
theorem band {a b : Bool} (h1 : a = true) (h2 : b = true) : (a && b) = true := by rw [h1, h2]; rfl
set_option maxRecDepth 100000 in
theorem q1 : (Rows.fnExactShapeHasRow.wf (OpenSpec.ofChange Rows.fnExactShapeHasSpec)) = true := by kernel_rfl
set_option maxRecDepth 100000 in
theorem q2 : (laidOutB Try.pinned.checked.prog) = true := sh2
set_option maxRecDepth 100000 in
theorem q3 : (mapsRowed Try.pinned.checked.prog) = true := sh3
set_option maxRecDepth 100000 in
theorem q4 : (Try.f15.params.all (Try.pinned.checked.prog.readableRec ·)) = true := by kernel_rfl
set_option maxRecDepth 100000 in
theorem q5 : (namedTie Try.pinned.checked.prog Rows.fnExactShapeHasRow.named Rows.fnExactShapeHasSpec.vars) = true := by kernel_rfl
set_option maxRecDepth 100000 in
theorem q6 : ((Rows.fnExactShapeHasRow.stops == [])) = true := by kernel_rfl
set_option maxRecDepth 100000 in
theorem q7 : ((Try.pinned.checked.prog.stops == [])) = true := sh7
set_option maxRecDepth 100000 in
theorem q8 : ((Rows.fnExactShapeHasRow.knobs == [])) = true := by kernel_rfl
set_option maxRecDepth 100000 in
theorem q9 : ((Try.pinned.checked.prog.stopKnobs == [])) = true := sh9
set_option maxRecDepth 100000 in
theorem q10 : ((Rows.fnExactShapeHasRow.inPlace == Try.pinned.checked.prog.inPlace 15)) = true := by kernel_rfl
set_option maxRecDepth 100000 in
theorem q11 : ((Rows.fnExactShapeHasRow.unfollowed == Try.pinned.checked.prog.unfollowed 15)) = true := by kernel_rfl
set_option maxRecDepth 100000 in
theorem q12 : ((Rows.fnExactShapeHasRow.recurses == Try.pinned.checked.prog.recurses 15)) = true := by kernel_rfl
set_option maxRecDepth 100000 in
theorem q13 : ((Rows.fnExactShapeHasRow.named == Try.pinned.checked.prog.varsNamed 15)) = true := by kernel_rfl
set_option maxRecDepth 100000 in
theorem q14 : ((Rows.fnExactShapeHasRow.maps == (Try.f15.params.toList ++ Rows.fnExactShapeHasSpec.plain.varTypes Try.pinned.checked.prog).any (Try.pinned.checked.prog.mapsRec ·))) = true := by kernel_rfl
set_option maxRecDepth 100000 in
theorem q15 : ((Rows.fnExactShapeHasRow.ifaces == (Try.f15.params.toList ++ Rows.fnExactShapeHasSpec.plain.varTypes Try.pinned.checked.prog).any (Try.pinned.checked.prog.ifacesRec ·))) = true := by kernel_rfl
set_option maxRecDepth 100000 in
theorem q16 : ((Rows.fnExactShapeHasRow.mapsOut == Try.pinned.checked.prog.mapsAmong Try.f15.resultTypes.toList)) = true := by kernel_rfl
set_option maxRecDepth 100000 in
theorem q17 : ((Rows.fnExactShapeHasRow.loops == (Try.f15.params.toList ++ Rows.fnExactShapeHasSpec.plain.varTypes Try.pinned.checked.prog).any (Try.pinned.checked.prog.loopsFrom ·))) = true := by kernel_rfl
set_option maxRecDepth 100000 in
theorem q18 : ((Rows.fnExactShapeHasRow.wideKeys == (Try.f15.params.toList ++ Rows.fnExactShapeHasSpec.plain.varTypes Try.pinned.checked.prog ++ Try.f15.resultTypes.toList).any (Try.pinned.checked.prog.wideKeysFrom ·))) = true := by kernel_rfl
set_option maxRecDepth 100000 in
theorem q19 : (Rows.fnExactShapeHasSpec.vars.all (Try.pinned.checked.prog.varReadable ·)) = true := by kernel_rfl
set_option maxRecDepth 100000 in
theorem q20 : (Try.f15.resultTypes.all (fun t => Try.pinned.checked.prog.readableRec t && decide (t < Try.pinned.checked.prog.types.size))) = true := by kernel_rfl
set_option maxRecDepth 100000 in
theorem q21 : ((Rows.fnExactShapeHasRow.ifacesOut == Try.f15.resultTypes.toList.any (Try.pinned.checked.prog.ifacesRec ·))) = true := by kernel_rfl
set_option maxRecDepth 100000 in
theorem q22 : ((Rows.fnExactShapeHasRow.loopsOut == Try.f15.resultTypes.toList.any (Try.pinned.checked.prog.loopsFrom ·))) = true := by kernel_rfl
set_option maxRecDepth 100000 in
theorem q23 : ((Rows.fnExactShapeHasRow.plainKeys == Try.pinned.checked.prog.plainKeys)) = true := sh23
set_option maxRecDepth 100000 in
theorem q24 : (Rows.fnExactShapeHasRow.shortTexts.isNone) = true := by kernel_rfl
set_option maxRecDepth 100000 in
theorem q25 : (Try.pinned.checked.prog.stopsHeard) = true := sh25
set_option maxRecDepth 100000 in
theorem q26 : (Try.pinned.checked.prog.mayEnter) = true := sh26
set_option maxRecDepth 100000 in
theorem q27 : ((Rows.fnExactShapeHasRow.lifted == Try.pinned.checked.prog.liftsFinal)) = true := sh27
set_option maxRecDepth 100000 in
theorem q28 : ((Try.pinned.checked.prog.make == some Rows.fnExactShapeHasRow.make)) = true := sh28
set_option maxRecDepth 100000 in
theorem q29 : ((Rows.fnExactShapeHasRow.kinds == (if Rows.fnExactShapeHasRow.domain.isEmpty then [] else Try.f15.params.toList.map fun t => match Try.pinned.checked.prog.underlying t with | some (.int k) => some k | _ => none))) = true := by kernel_rfl
set_option maxRecDepth 100000 in
theorem q30 : ((Rows.fnExactShapeHasRow.pinned == Rows.fnExactShapeHasRow.pinnedBy)) = true := by kernel_rfl
set_option maxRecDepth 100000 in
theorem q31 : ((Rows.fnExactShapeHasRow.veiled == (Try.f15.params.toList ++ Rows.fnExactShapeHasSpec.plain.varTypes Try.pinned.checked.prog ++ Try.f15.resultTypes.toList).any (Try.pinned.checked.prog.veiledRec ·))) = true := by kernel_rfl
set_option maxRecDepth 100000 in
theorem q32 : (Rows.fnExactShapeHasRow.veiledFits Try.pinned.checked.prog Try.f15.params.toList (Try.f15.params.toList ++ Rows.fnExactShapeHasSpec.plain.varTypes Try.pinned.checked.prog ++ Try.f15.resultTypes.toList)) = true := by kernel_rfl
set_option maxRecDepth 100000 in
theorem closed : joinedFacts Try.pinned.checked.prog 15 Try.f15 Rows.fnExactShapeHasSpec Rows.fnExactShapeHasRow = true := by
  unfold joinedFacts
  exact (band (band (band (band (band (band (band (band (band (band (band (band (band (band (band (band (band (band (band (band (band (band (band (band (band (band (band (band (band (band (band q1 q2) q3) q4) q5) q6) q7) q8) q9) q10) q11) q12) q13) q14) q15) q16) q17) q18) q19) q20) q21) q22) q23) q24) q25) q26) q27) q28) q29) q30) q31) q32)
set_option maxRecDepth 100000 in
theorem over : Rows.fnExactShapeHasRow.holds Try.pinned (OpenSpec.ofChange Rows.fnExactShapeHasSpec) :=
  OpenClaim.holds_of_wide 15 Try.f15 rfl rfl rfl rfl rfl rfl rfl ⟨rfl, rfl, rfl, rfl, rfl⟩ rfl rfl rfl rfl rfl (by kernel_rfl) Try.func15 closed
    (of_decide_eq_true (by kernel_rfl)) (by unfold Func.isWrapper; first | (rw [if_pos (by decide +kernel)]; kernel_rfl) | (rw [if_neg (by decide +kernel)]; exact ⟨rfl, rfl⟩))
    (fun os started H enc _ => lifted os started H enc)
end Go.Proofs.Ytialcllfmhcigaa.fnExactShapeHas
namespace Go.Proofs.Ytialcllfmhcigaa
theorem fnExactShapeHas_holds : Rows.FnExactShapeHasSaid := fnExactShapeHas.over
#print axioms fnExactShapeHas_holds
end Go.Proofs.Ytialcllfmhcigaa
