/- At every statement that a law can be given, Reads answers as the specification does and leaves its argument as it was; no condition. -/
import Derived.Test.YtkifhdkebddnpaaRows
import Derived.Test.YtkifhdkebddnpaaFacts
import Derived.Test.YtkifhdkebddnpaaQa
import Derived.WalkKit
import Derived.Deep.DeepCutAuto
import Derived.ProofKit
import Derived.OpenShut
import Derived.ShutString
import Derived.ChangeOld
import Derived.Below
import Derived.Carry
import Derived.Lib.SmallJoins
import Derived.Deep.SlicePairs
namespace Go.Proofs.Ytkifhdkebddnpaa.fnExactReads
open Go.ChangeShapes Go.WideShapes Go.ChangeAt Go.RowKit Go.Joins
set_option linter.unusedVariables false
set_option linter.unusedSimpArgs false
theorem own : ownKnob Try.prog.godebug = none := by kernel_rfl
theorem laidOut : laidOutB Try.prog = true := by kernel_rfl
set_option maxRecDepth 100000 in
set_option maxHeartbeats 4000000 in
theorem walk (ek0 id0 kd0 : Int) (a0 : Option Addr) (cap0 : Nat) (ps0 : List (Int × Int)) (el0 ec0 er0 : Int) (w : World) (wk0 : (Lit.int .i64 ek0).wf = true ∧ (Lit.int .i64 id0).wf = true ∧ (Lit.int .i64 kd0).wf = true ∧ (Lit.int .i64 el0).wf = true ∧ (Lit.int .i64 ec0).wf = true ∧ (Lit.int .i64 er0).wf = true) (w0 : PtsIn w a0 cap0 ps0) :
    Calls Try.prog 3 #[asv ek0 id0 kd0 a0 ps0.length cap0 el0 ec0 er0] w fun e w' => e = .returned (.bool true) ∧ Below w.heap.size w w' := by
  clear wk0
  obtain ⟨hp, hc, hm⟩ := w0
  by_cases hbig : (1048576 : Int) < (ps0.length : Int)
  · go_enter Try.func3, Try.ntmps3
    go_wp2_with fail
    refine (asz_big _ _ _ _ _ _ _ _ _ _ _ (by omega) (by omega) (by omega) hbig).mono ?_
    rintro e u1 ⟨rfl, hb1⟩
    go_wp2_with fail
    go_ret
    exact ⟨rfl, by (repeat (first | with_reducible exact Below.refl _ _ | with_reducible assumption | (with_reducible refine btrans ?_ (by with_reducible assumption)) | with_reducible refine bdrew ?_ | with_reducible refine balloc ?_ _))⟩
  have hm' : ps0.length ≤ 1099511627776 := by omega
  have HP := hid hp
  have hB := Below.refl w.heap.size w
  clear hp
  have MS := hid (fun b w' => spec_Reads ek0 id0 kd0 (some ⟨b, 0, none⟩) ps0.length ps0.length el0 ec0 er0 w')
  have MI := hid (fun b w' => impl_Reads ek0 id0 kd0 (some ⟨b, 0, none⟩) ps0.length ps0.length el0 ec0 er0 w')
  generalize rdsb ek0 = tv at *
  go_enter Try.func3, Try.ntmps3
  go_wp2_with fail
  have gS := (new_alloc w (w.heap.size) (.cells #[.int .i64 ek0, .int .i64 id0, .int .i64 kd0, .slice a0 ps0.length cap0, .int .i64 el0, .int .i64 ec0, .int .i64 er0] 28) (by simp))
  have hal : Below w.heap.size w (w.alloc (.cells #[.int .i64 ek0, .int .i64 id0, .int .i64 kd0, .slice a0 ps0.length cap0, .int .i64 el0, .int .i64 ec0, .int .i64 er0] 28)) := (balloc (Below.refl _ _) (.cells #[.int .i64 ek0, .int .i64 id0, .int .i64 kd0, .slice a0 ps0.length cap0, .int .i64 el0, .int .i64 ec0, .int .i64 er0] 28))
  replace HP := hid (HP.out.below hal)
  replace hB := btrans hB hal
  clear hal
  generalize (w.alloc (.cells #[.int .i64 ek0, .int .i64 id0, .int .i64 kd0, .slice a0 ps0.length cap0, .int .i64 el0, .int .i64 ec0, .int .i64 er0] 28)) = yw1 at *
  refine (asz_ok _ _ _ _ _ _ _ _ _ _ _ (by omega) (by omega) (by omega)).mono ?_
  rintro e yw2 ⟨rfl, hcl⟩
  replace gS := keepheap hcl gS
  replace HP := hid (HP.out.below hcl)
  replace hB := btrans hB hcl
  clear hcl
  have hs1 : ¬ ((1048576 : Int) - (ps0.length : Int) < 0) := by omega
  obtain ⟨k1_0, k1_1, k1_2, k1_3, k1_4, k1_5, k1_6, _, _, _, _, _, _, _⟩ := cell7 gS
  go_wp2_with fail
  clear k1_0 k1_1 k1_2 k1_3 k1_4 k1_5 k1_6
  refine (to_ask ek0 id0 kd0 a0 cap0 ps0 el0 ec0 er0 _ hm' hc HP.out).mono ?_
  rintro e yw3 ⟨b2, rfl, hgb2, hb2, hcl⟩
  replace gS := keepheap hcl gS
  replace HP := hid (HP.out.below hcl)
  replace hB := btrans hB hcl
  clear hcl
  have H2 := hid hb2.pts
  clear hb2 hgb2
  obtain ⟨k2_0, k2_1, k2_2, k2_3, k2_4, k2_5, k2_6, _, _, _, _, _, _, _⟩ := cell7 gS
  go_wp2_with fail
  clear k2_0 k2_1 k2_2 k2_3 k2_4 k2_5 k2_6
  refine (MS.out b2 _).mono ?_
  rintro e yw4 ⟨rfl, hcl⟩
  replace gS := keepheap hcl gS
  replace HP := hid (HP.out.below hcl)
  replace H2 := hid (H2.out.below hcl)
  replace hB := btrans hB hcl
  clear hcl
  clear H2 MS
  obtain ⟨k3_0, k3_1, k3_2, k3_3, k3_4, k3_5, k3_6, _, _, _, _, _, _, _⟩ := cell7 gS
  go_wp2_with fail
  clear k3_0 k3_1 k3_2 k3_3 k3_4 k3_5 k3_6
  refine (to_ask ek0 id0 kd0 a0 cap0 ps0 el0 ec0 er0 _ hm' hc HP.out).mono ?_
  rintro e yw5 ⟨b4, rfl, hgb4, hb4, hcl⟩
  replace gS := keepheap hcl gS
  replace HP := hid (HP.out.below hcl)
  replace hB := btrans hB hcl
  clear hcl
  have H4 := hid hb4.pts
  clear hb4 hgb4
  obtain ⟨k4_0, k4_1, k4_2, k4_3, k4_4, k4_5, k4_6, _, _, _, _, _, _, _⟩ := cell7 gS
  have ak4_0 := (keepalloc k4_0 (.cells #[.int .i64 ek0, .int .i64 id0, .int .i64 kd0, .slice (some ⟨b4, 0, none⟩) ps0.length ps0.length, .int .i64 el0, .int .i64 ec0, .int .i64 er0] 36))
  have ak4_1 := (keepalloc k4_1 (.cells #[.int .i64 ek0, .int .i64 id0, .int .i64 kd0, .slice (some ⟨b4, 0, none⟩) ps0.length ps0.length, .int .i64 el0, .int .i64 ec0, .int .i64 er0] 36))
  have ak4_2 := (keepalloc k4_2 (.cells #[.int .i64 ek0, .int .i64 id0, .int .i64 kd0, .slice (some ⟨b4, 0, none⟩) ps0.length ps0.length, .int .i64 el0, .int .i64 ec0, .int .i64 er0] 36))
  have ak4_3 := (keepalloc k4_3 (.cells #[.int .i64 ek0, .int .i64 id0, .int .i64 kd0, .slice (some ⟨b4, 0, none⟩) ps0.length ps0.length, .int .i64 el0, .int .i64 ec0, .int .i64 er0] 36))
  have ak4_4 := (keepalloc k4_4 (.cells #[.int .i64 ek0, .int .i64 id0, .int .i64 kd0, .slice (some ⟨b4, 0, none⟩) ps0.length ps0.length, .int .i64 el0, .int .i64 ec0, .int .i64 er0] 36))
  have ak4_5 := (keepalloc k4_5 (.cells #[.int .i64 ek0, .int .i64 id0, .int .i64 kd0, .slice (some ⟨b4, 0, none⟩) ps0.length ps0.length, .int .i64 el0, .int .i64 ec0, .int .i64 er0] 36))
  have ak4_6 := (keepalloc k4_6 (.cells #[.int .i64 ek0, .int .i64 id0, .int .i64 kd0, .slice (some ⟨b4, 0, none⟩) ps0.length ps0.length, .int .i64 el0, .int .i64 ec0, .int .i64 er0] 36))
  go_wp2_with fail
  clear k4_0 k4_1 k4_2 k4_3 k4_4 k4_5 k4_6 ak4_0 ak4_1 ak4_2 ak4_3 ak4_4 ak4_5 ak4_6
  replace gS := (old_alloc (o' := .cells #[.int .i64 ek0, .int .i64 id0, .int .i64 kd0, .slice (some ⟨b4, 0, none⟩) ps0.length ps0.length, .int .i64 el0, .int .i64 ec0, .int .i64 er0] 36) gS)
  have gX := (new_alloc yw5 (yw5.heap.size) (.cells #[.int .i64 ek0, .int .i64 id0, .int .i64 kd0, .slice (some ⟨b4, 0, none⟩) ps0.length ps0.length, .int .i64 el0, .int .i64 ec0, .int .i64 er0] 36) (by simp))
  have hal : Below yw5.heap.size yw5 (yw5.alloc (.cells #[.int .i64 ek0, .int .i64 id0, .int .i64 kd0, .slice (some ⟨b4, 0, none⟩) ps0.length ps0.length, .int .i64 el0, .int .i64 ec0, .int .i64 er0] 36)) := (balloc (Below.refl _ _) (.cells #[.int .i64 ek0, .int .i64 id0, .int .i64 kd0, .slice (some ⟨b4, 0, none⟩) ps0.length ps0.length, .int .i64 el0, .int .i64 ec0, .int .i64 er0] 36))
  replace HP := hid (HP.out.below hal)
  replace H4 := hid (H4.out.below hal)
  replace hB := btrans hB hal
  clear hal
  generalize (yw5.alloc (.cells #[.int .i64 ek0, .int .i64 id0, .int .i64 kd0, .slice (some ⟨b4, 0, none⟩) ps0.length ps0.length, .int .i64 el0, .int .i64 ec0, .int .i64 er0] 36)) = yw6 at *
  generalize yw5.heap.size = X at *
  refine (MI.out b4 _).mono ?_
  rintro e yw7 ⟨rfl, hcl⟩
  replace gS := keepheap hcl gS
  replace gX := keepheap hcl gX
  replace HP := hid (HP.out.below hcl)
  replace H4 := hid (H4.out.below hcl)
  replace hB := btrans hB hcl
  clear hcl
  obtain ⟨k5_0, k5_1, k5_2, k5_3, k5_4, k5_5, k5_6, _, _, _, _, _, _, _⟩ := cell7 gS
  obtain ⟨k6_0, k6_1, k6_2, k6_3, k6_4, k6_5, k6_6, _, _, _, _, _, _, _⟩ := cell7 gX
  go_wp2_with fail
  clear k5_0 k5_1 k5_2 k5_3 k5_4 k5_5 k5_6 k6_0 k6_1 k6_2 k6_3 k6_4 k6_5 k6_6
  refine wp_region_held_drew (S := (fun w' => w'.heap[w.heap.size]? = some (.cells #[.int .i64 ek0, .int .i64 id0, .int .i64 kd0, .slice a0 ps0.length cap0, .int .i64 el0, .int .i64 ec0, .int .i64 er0] 28 (0, 0)) ∧ w'.heap[X]? = some (.cells #[.int .i64 ek0, .int .i64 id0, .int .i64 kd0, .slice (some ⟨b4, 0, none⟩) ps0.length ps0.length, .int .i64 el0, .int .i64 ec0, .int .i64 er0] 36 (0, 0)))) (by kernel_rfl) ?_ (fun hHeld => ?_)
  · exact ⟨gS, gX⟩
  replace gS : yw7.drew.heap[w.heap.size]? = some (.cells #[.int .i64 ek0, .int .i64 id0, .int .i64 kd0, .slice a0 ps0.length cap0, .int .i64 el0, .int .i64 ec0, .int .i64 er0] 28 (0, 0)) := gS
  replace gX : yw7.drew.heap[X]? = some (.cells #[.int .i64 ek0, .int .i64 id0, .int .i64 kd0, .slice (some ⟨b4, 0, none⟩) ps0.length ps0.length, .int .i64 el0, .int .i64 ec0, .int .i64 er0] 36 (0, 0)) := gX
  replace HP : Hid (Pts yw7.drew a0 ps0) := hid (HP.out.below (bdrew (Below.refl _ _)))
  replace H4 : Hid (Pts yw7.drew (some ⟨b4, 0, none⟩) ps0) := hid (H4.out.below (bdrew (Below.refl _ _)))
  replace hB := bdrew hB
  generalize yw7.drew = yw8 at *
  refine wpAnyH_take (i := 0) (v := ?_) rfl (by kernel_rfl) (by kernel_rfl) (by kernel_rfl) (fun _ _ _ h => h) (Or.inl ⟨by rfl, ?_⟩) hHeld ?_
  rotate_left
  · intro w hSw; (try dsimp only at hSw); obtain ⟨_, _, _, _, _, _, _, _, _, _, _, _, _, _⟩ := cell7 (hSw.1); obtain ⟨_, _, _, _, _, _, _, _, _, _, _, _, _, _⟩ := cell7 (hSw.2); go_simp; try (with_reducible rfl)
  try simp only [sq]
  refine wpAnyH_take (i := 1) (v := ?_) rfl (by kernel_rfl) (by kernel_rfl) (by kernel_rfl) (fun _ _ _ h => h) (Or.inl ⟨by rfl, ?_⟩) hHeld ?_
  rotate_left
  · intro w hSw; (try dsimp only at hSw); obtain ⟨_, _, _, _, _, _, _, _, _, _, _, _, _, _⟩ := cell7 (hSw.1); obtain ⟨_, _, _, _, _, _, _, _, _, _, _, _, _, _⟩ := cell7 (hSw.2); go_simp; try (with_reducible rfl)
  try simp only [sq]
  refine wpAnyH_ready (rs := [2]) (by kernel_rfl) (by simp) ?_
  refine AllReadyH.cons rfl (fun K hK => ?_) AllReadyH.nil
  try simp only [sq]
  go_simp
  go_at_call 6
  refine (to_ask ek0 id0 kd0 a0 cap0 ps0 el0 ec0 er0 _ hm' hc HP.out).mono ?_
  rintro e yw9 ⟨b6, rfl, hgb6, hb6, hcl⟩
  replace gS := keepheap hcl gS
  replace gX := keepheap hcl gX
  replace HP := hid (HP.out.below hcl)
  replace H4 := hid (H4.out.below hcl)
  replace hB := btrans hB hcl
  clear hcl
  have H6 := hid hb6.pts
  clear hb6 hgb6
  go_wp2_with fail
  refine hK.out _ _ ?_ (fun hHeld => ?_)
  · exact ⟨gS, gX⟩
  clear hK K
  try simp only [sq]
  refine wpAnyH_ready (rs := [3]) (by kernel_rfl) (by simp) ?_
  refine AllReadyH.cons rfl (fun K hK => ?_) AllReadyH.nil
  try simp only [sq]
  go_simp
  go_at_call 8
  refine (eq_ask ek0 id0 kd0 (some ⟨b4, 0, none⟩) (some ⟨b6, 0, none⟩) ps0.length ps0.length ps0 el0 ec0 er0 _ hm' (Nat.le_refl _) (Nat.le_refl _) H4.out H6.out).mono ?_
  rintro e yw10 ⟨rfl, hcl⟩
  replace gS := keepheap hcl gS
  replace gX := keepheap hcl gX
  replace HP := hid (HP.out.below hcl)
  replace H4 := hid (H4.out.below hcl)
  replace H6 := hid (H6.out.below hcl)
  replace hB := btrans hB hcl
  clear hcl
  go_wp2_with fail
  refine hK.out _ _ ?_ (fun hHeld => ?_)
  · exact ⟨gS, gX⟩
  clear hK K
  try simp only [sq]
  refine wpAnyH_take (i := 4) (v := ?_) rfl (by kernel_rfl) (by kernel_rfl) (by kernel_rfl) (fun _ _ _ h => h) (Or.inl ⟨by rfl, ?_⟩) hHeld ?_
  rotate_left
  · intro w hSw; (try dsimp only at hSw); go_simp; try (with_reducible rfl)
  try simp only [sq]
  refine wpAnyH_done (by kernel_rfl) ?_ _
  clear hHeld
  go_wp2_with fail
  go_ret
  exact ⟨rfl, hB⟩
set_option maxRecDepth 100000 in
theorem lifted (os : Os) (started : os.Started) (H : Type) (enc : TypeId × Value → H) :
    ReturnsInHanded {} Try.checked os 3 .any (Rows.fnExactReadsSpec.pre6 enc Try.prog Try.f3 Rows.fnExactReadsRow.domain false) (Rows.fnExactReadsSpec.post enc Try.prog Try.f3 false true false false) := by
  refine returnsInHanded_of_change (C := Try.checked) own started (by kernel_rfl) Try.func3
    (ChangeSpec.witness6 (enc := enc) (C := Try.checked) false ⟨#[], #[.agg #[.int .i64 0, .int .i64 0, .int .i64 0, .slice none 0 0, .int .i64 0, .int .i64 0, .int .i64 0]], []⟩ 8 (by kernel_rfl) (by kernel_rfl) (by kernel_rfl) (by kernel_rfl)) ?_
  intro W base args ds gs before hval0 hW hcnd _
  have hval : ∀ (j : Nat) t v, Try.f3.params[j]? = some t → args[j]? = some v → Value.okWide Try.prog W .any base t v := hval0
  have hW' := hW
  obtain ⟨p, q, hA0, hV, rfl, hfz, hnd⟩ := hW
  have hA : DataW.TrodAll enc Try.prog W 0 (fun _ => true) true Try.f3.params.toList args.toList ds p := hA0
  rw [Try.params3] at hA hval
  obtain ⟨v0, vs0, d0, ds0, p0, q0, hargs, rfl, rfl, h0, r0⟩ := trodAll_cons hA
  obtain ⟨rfl, rfl, rfl⟩ := trodAll_nil r0
  obtain rfl : args = #[v0] := by cases args; simp_all
  obtain ⟨rfl, rfl⟩ := trodVars_none hV
  have k0 := h0
  have lt0 : ∀ x ∈ p0, x.block < W.heap.size := by obtain ⟨m, hm⟩ := k0; exact DataW.trod_lt m _ _ _ hm
  obtain ⟨cs0, rfl, hsz0⟩ := okWide_struct Try.underlying28 (hval 0 28 v0 rfl rfl)
  obtain ⟨ek0, id0, kd0, a0, cap0, ps0, el0, ec0, er0, ecs0, wk0, w0⟩ := open_ask h0.choose_spec
  obtain rfl : cs0 = #[.int .i64 ek0, .int .i64 id0, .int .i64 kd0, .slice a0 ps0.length cap0, .int .i64 el0, .int .i64 ec0, .int .i64 er0] := by cases cs0; simpa [Value.cells] using ecs0
  clear hA0 hval0
  refine (walk ek0 id0 kd0 a0 cap0 ps0 el0 ec0 er0 W wk0 w0).mono fun e W' ⟨he, bel⟩ => ?_
  subst he
  exact ⟨_, rfl, _, _, _, [], _, [], hW', trodAll_mk1 (shut_bool Try.underlying4 _), (trodAll_cons_mk (Below.trod laidOut (by kernel_rfl) (of_decide_eq_true (by kernel_rfl)) k0 bel lt0) trodAll_mk0), rfl, bel.frame _, fun h => by cases h⟩
theorem band {a b : Bool} (h1 : a = true) (h2 : b = true) : (a && b) = true := by rw [h1, h2]; rfl
set_option maxRecDepth 100000 in
theorem q1 : (Rows.fnExactReadsRow.wf (OpenSpec.ofChange Rows.fnExactReadsSpec)) = true := by kernel_rfl
set_option maxRecDepth 100000 in
theorem q2 : (laidOutB Try.pinned.checked.prog) = true := sh2
set_option maxRecDepth 100000 in
theorem q3 : (mapsRowed Try.pinned.checked.prog) = true := sh3
set_option maxRecDepth 100000 in
theorem q4 : (Try.f3.params.all (Try.pinned.checked.prog.readableRec ·)) = true := by kernel_rfl
set_option maxRecDepth 100000 in
theorem q5 : (namedTie Try.pinned.checked.prog Rows.fnExactReadsRow.named Rows.fnExactReadsSpec.vars) = true := by kernel_rfl
set_option maxRecDepth 100000 in
theorem q6 : ((Rows.fnExactReadsRow.stops == [])) = true := by kernel_rfl
set_option maxRecDepth 100000 in
theorem q7 : ((Try.pinned.checked.prog.stops == [])) = true := sh7
set_option maxRecDepth 100000 in
theorem q8 : ((Rows.fnExactReadsRow.knobs == [])) = true := by kernel_rfl
set_option maxRecDepth 100000 in
theorem q9 : ((Try.pinned.checked.prog.stopKnobs == [])) = true := sh9
set_option maxRecDepth 100000 in
theorem q10 : ((Rows.fnExactReadsRow.inPlace == Try.pinned.checked.prog.inPlace 3)) = true := by kernel_rfl
set_option maxRecDepth 100000 in
theorem q11 : ((Rows.fnExactReadsRow.unfollowed == Try.pinned.checked.prog.unfollowed 3)) = true := by kernel_rfl
set_option maxRecDepth 100000 in
theorem q12 : ((Rows.fnExactReadsRow.recurses == Try.pinned.checked.prog.recurses 3)) = true := by kernel_rfl
set_option maxRecDepth 100000 in
theorem q13 : ((Rows.fnExactReadsRow.named == Try.pinned.checked.prog.varsNamed 3)) = true := by kernel_rfl
set_option maxRecDepth 100000 in
theorem q14 : ((Rows.fnExactReadsRow.maps == (Try.f3.params.toList ++ Rows.fnExactReadsSpec.plain.varTypes Try.pinned.checked.prog).any (Try.pinned.checked.prog.mapsRec ·))) = true := by kernel_rfl
set_option maxRecDepth 100000 in
theorem q15 : ((Rows.fnExactReadsRow.ifaces == (Try.f3.params.toList ++ Rows.fnExactReadsSpec.plain.varTypes Try.pinned.checked.prog).any (Try.pinned.checked.prog.ifacesRec ·))) = true := by kernel_rfl
set_option maxRecDepth 100000 in
theorem q16 : ((Rows.fnExactReadsRow.mapsOut == Try.pinned.checked.prog.mapsAmong Try.f3.resultTypes.toList)) = true := by kernel_rfl
set_option maxRecDepth 100000 in
theorem q17 : ((Rows.fnExactReadsRow.loops == (Try.f3.params.toList ++ Rows.fnExactReadsSpec.plain.varTypes Try.pinned.checked.prog).any (Try.pinned.checked.prog.loopsFrom ·))) = true := by kernel_rfl
set_option maxRecDepth 100000 in
theorem q18 : ((Rows.fnExactReadsRow.wideKeys == (Try.f3.params.toList ++ Rows.fnExactReadsSpec.plain.varTypes Try.pinned.checked.prog ++ Try.f3.resultTypes.toList).any (Try.pinned.checked.prog.wideKeysFrom ·))) = true := by kernel_rfl
set_option maxRecDepth 100000 in
theorem q19 : (Rows.fnExactReadsSpec.vars.all (Try.pinned.checked.prog.varReadable ·)) = true := by kernel_rfl
set_option maxRecDepth 100000 in
theorem q20 : (Try.f3.resultTypes.all (fun t => Try.pinned.checked.prog.readableRec t && decide (t < Try.pinned.checked.prog.types.size))) = true := by kernel_rfl
set_option maxRecDepth 100000 in
theorem q21 : ((Rows.fnExactReadsRow.ifacesOut == Try.f3.resultTypes.toList.any (Try.pinned.checked.prog.ifacesRec ·))) = true := by kernel_rfl
set_option maxRecDepth 100000 in
theorem q22 : ((Rows.fnExactReadsRow.loopsOut == Try.f3.resultTypes.toList.any (Try.pinned.checked.prog.loopsFrom ·))) = true := by kernel_rfl
set_option maxRecDepth 100000 in
theorem q23 : ((Rows.fnExactReadsRow.plainKeys == Try.pinned.checked.prog.plainKeys)) = true := sh23
set_option maxRecDepth 100000 in
theorem q24 : (Rows.fnExactReadsRow.shortTexts.isNone) = true := by kernel_rfl
set_option maxRecDepth 100000 in
theorem q25 : (Try.pinned.checked.prog.stopsHeard) = true := sh25
set_option maxRecDepth 100000 in
theorem q26 : (Try.pinned.checked.prog.mayEnter) = true := sh26
set_option maxRecDepth 100000 in
theorem q27 : ((Rows.fnExactReadsRow.lifted == Try.pinned.checked.prog.liftsFinal)) = true := sh27
set_option maxRecDepth 100000 in
theorem q28 : ((Try.pinned.checked.prog.make == some Rows.fnExactReadsRow.make)) = true := sh28
set_option maxRecDepth 100000 in
theorem q29 : ((Rows.fnExactReadsRow.kinds == (if Rows.fnExactReadsRow.domain.isEmpty then [] else Try.f3.params.toList.map fun t => match Try.pinned.checked.prog.underlying t with | some (.int k) => some k | _ => none))) = true := by kernel_rfl
set_option maxRecDepth 100000 in
theorem q30 : ((Rows.fnExactReadsRow.pinned == Rows.fnExactReadsRow.pinnedBy)) = true := by kernel_rfl
set_option maxRecDepth 100000 in
theorem q31 : ((Rows.fnExactReadsRow.veiled == (Try.f3.params.toList ++ Rows.fnExactReadsSpec.plain.varTypes Try.pinned.checked.prog ++ Try.f3.resultTypes.toList).any (Try.pinned.checked.prog.veiledRec ·))) = true := by kernel_rfl
set_option maxRecDepth 100000 in
theorem q32 : (Rows.fnExactReadsRow.veiledFits Try.pinned.checked.prog Try.f3.params.toList (Try.f3.params.toList ++ Rows.fnExactReadsSpec.plain.varTypes Try.pinned.checked.prog ++ Try.f3.resultTypes.toList)) = true := by kernel_rfl
set_option maxRecDepth 100000 in
theorem closed : joinedFacts Try.pinned.checked.prog 3 Try.f3 Rows.fnExactReadsSpec Rows.fnExactReadsRow = true := by
  unfold joinedFacts
  exact (band (band (band (band (band (band (band (band (band (band (band (band (band (band (band (band (band (band (band (band (band (band (band (band (band (band (band (band (band (band (band q1 q2) q3) q4) q5) q6) q7) q8) q9) q10) q11) q12) q13) q14) q15) q16) q17) q18) q19) q20) q21) q22) q23) q24) q25) q26) q27) q28) q29) q30) q31) q32)
set_option maxRecDepth 100000 in
theorem over : Rows.fnExactReadsRow.holds Try.pinned (OpenSpec.ofChange Rows.fnExactReadsSpec) :=
  OpenClaim.holds_of_wide 3 Try.f3 rfl rfl rfl rfl rfl rfl rfl ⟨rfl, rfl, rfl, rfl, rfl⟩ rfl rfl rfl rfl rfl (by kernel_rfl) Try.func3 closed
    (of_decide_eq_true (by kernel_rfl)) (by unfold Func.isWrapper; first | (rw [if_pos (by decide +kernel)]; kernel_rfl) | (rw [if_neg (by decide +kernel)]; exact ⟨rfl, rfl⟩))
    (fun os started H enc _ => lifted os started H enc)
end Go.Proofs.Ytkifhdkebddnpaa.fnExactReads
namespace Go.Proofs.Ytkifhdkebddnpaa
theorem fnExactReads_holds : Rows.FnExactReadsSaid := fnExactReads.over
#print axioms fnExactReads_holds
end Go.Proofs.Ytkifhdkebddnpaa
