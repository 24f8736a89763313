/- At every statement that a law can be given, AskText answers as the specification does and leaves its argument as it was; the listed tables hold what the program's text lays. -/
import Derived.Test.YtkifhdkebddnpaaGreatDoorRCards
import Derived.Test.YtkifhdkebddnpaaGreatDoorRTie
import Derived.Test.YtkifhdkebddnpaaGreatDoorRQd
import Derived.WalkKit
import Derived.Deep.DeepCutAuto
import Derived.ProofKit
import Derived.OpenShut
import Derived.ShutString
import Derived.ChangeOld
import Derived.Below
import Derived.Carry
import Derived.OpenVars
import Derived.Lib.SmallJoins
import Derived.Deep.SlicePairs
import Derived.Deep.DeepHandedRow
import Derived.Lib.LaidTab
import Derived.Stop.LaidErr
namespace Go.Proofs.YtkifhdkebddnpaaGreatDoorR.fnExactAskText
open Go.ChangeShapes Go.WideShapes Go.ChangeAt Go.RowKit Go.Joins
set_option linter.unusedVariables false
set_option linter.unusedSimpArgs false
theorem own : ownKnob Tryz.prog.godebug = none := by kernel_rfl
theorem laidOut : laidOutB Tryz.prog = true := by kernel_rfl
set_option maxRecDepth 100000 in
set_option maxHeartbeats 4000000 in
theorem walk (ek0 id0 kd0 : Int) (a0 : Option Addr) (cap0 : Nat) (ps0 : List (Int × Int)) (el0 ec0 er0 : Int) (w : World) (wk0 : (Lit.int .i64 ek0).wf = true ∧ (Lit.int .i64 id0).wf = true ∧ (Lit.int .i64 kd0).wf = true ∧ (Lit.int .i64 el0).wf = true ∧ (Lit.int .i64 ec0).wf = true ∧ (Lit.int .i64 er0).wf = true) (w0 : PtsIn w a0 cap0 ps0) (hio : ItoaA w) (hkw : KW w) (hT : Tab w) (haf : AF w) :
    Calls Tryz.prog 3 #[asv ek0 id0 kd0 a0 ps0.length cap0 el0 ec0 er0] w fun e w' => e = .returned (.bool true) ∧ Below w.heap.size w w' := by
  have HIO := hid hio
  have HKW := hid hkw
  have HTB := hid hT
  have HAF := hid haf
  clear hio hkw hT haf
  obtain ⟨wk1, wk2, wk3, wk4, wk5, wk6⟩ := wk0
  have hi0 : -9223372036854775808 ≤ id0 ∧ id0 ≤ 9223372036854775807 := by simpa [Lit.wf, IntKind.min, IntKind.max, IntKind.signed, IntKind.bits] using wk2
  have hl0 : -9223372036854775808 ≤ el0 ∧ el0 ≤ 9223372036854775807 := by simpa [Lit.wf, IntKind.min, IntKind.max, IntKind.signed, IntKind.bits] using wk4
  have hc0 : -9223372036854775808 ≤ ec0 ∧ ec0 ≤ 9223372036854775807 := by simpa [Lit.wf, IntKind.min, IntKind.max, IntKind.signed, IntKind.bits] using wk5
  have hr0 : -9223372036854775808 ≤ er0 ∧ er0 ≤ 9223372036854775807 := by simpa [Lit.wf, IntKind.min, IntKind.max, IntKind.signed, IntKind.bits] using wk6
  clear wk1 wk2 wk3 wk4 wk5 wk6
  obtain ⟨hp, hc, hm⟩ := w0
  by_cases hbig : (1048576 : Int) < (ps0.length : Int)
  · go_enter Tryz.func3, Tryz.ntmps3
    go_wp2_with fail
    refine (asz_big _ _ _ _ _ _ _ _ _ _ _ (by omega) (by omega) (by omega) hbig).mono ?_
    rintro e u1 ⟨rfl, hb1⟩
    go_wp2_with fail
    go_ret
    exact ⟨rfl, by (repeat (first | with_reducible exact Below.refl _ _ | with_reducible assumption | (with_reducible refine btrans ?_ (by with_reducible assumption)) | with_reducible refine bdrew ?_ | with_reducible refine balloc ?_ _))⟩
  have hm' : ps0.length ≤ 1099511627776 := by omega
  have HP := hid hp
  have hB := Below.refl w.heap.size w
  clear hp
  have MS := hid (fun b w' (h : Pts w' (some ⟨b, 0, none⟩) ps0) => spec_AskText ek0 id0 kd0 (some ⟨b, 0, none⟩) ps0.length ps0 el0 ec0 er0 w' hm' (Nat.le_refl _) h hi0.1 hi0.2 ⟨hl0, hc0, hr0⟩)
  have MI := hid (fun b w' (h : Pts w' (some ⟨b, 0, none⟩) ps0) (h1 : ItoaA w') (h2 : KW w') (h3 : Tab w') (h4 : AF w') => impl_AskText ek0 id0 kd0 (some ⟨b, 0, none⟩) ps0.length ps0 el0 ec0 er0 w' hm' (Nat.le_refl _) h hi0.1 hi0.2 ⟨hl0, hc0, hr0⟩ h1 h2 h3 h4)
  clear hi0 hl0 hc0 hr0
  generalize askt ek0 id0 kd0 ps0 el0 ec0 er0 = tv at *
  go_enter Tryz.func3, Tryz.ntmps3
  go_wp2_with fail
  have gS := (new_alloc w (w.heap.size) (.cells #[.int .i64 ek0, .int .i64 id0, .int .i64 kd0, .slice a0 ps0.length cap0, .int .i64 el0, .int .i64 ec0, .int .i64 er0] 28) (by simp))
  have hal : Below w.heap.size w (w.alloc (.cells #[.int .i64 ek0, .int .i64 id0, .int .i64 kd0, .slice a0 ps0.length cap0, .int .i64 el0, .int .i64 ec0, .int .i64 er0] 28)) := (balloc (Below.refl _ _) (.cells #[.int .i64 ek0, .int .i64 id0, .int .i64 kd0, .slice a0 ps0.length cap0, .int .i64 el0, .int .i64 ec0, .int .i64 er0] 28))
  replace HIO := hid (HIO.out.below hal)
  replace HKW := hid (HKW.out.below hal)
  replace HTB := hid (HTB.out.below hal)
  replace HAF := hid (HAF.out.below hal)
  replace HP := hid (HP.out.below hal)
  replace hB := btrans hB hal
  clear hal
  generalize (w.alloc (.cells #[.int .i64 ek0, .int .i64 id0, .int .i64 kd0, .slice a0 ps0.length cap0, .int .i64 el0, .int .i64 ec0, .int .i64 er0] 28)) = yw1 at *
  refine (asz_ok _ _ _ _ _ _ _ _ _ _ _ (by omega) (by omega) (by omega)).mono ?_
  rintro e yw2 ⟨rfl, hcl⟩
  replace gS := keepheap hcl gS
  replace HIO := hid (HIO.out.below hcl)
  replace HKW := hid (HKW.out.below hcl)
  replace HTB := hid (HTB.out.below hcl)
  replace HAF := hid (HAF.out.below hcl)
  replace HP := hid (HP.out.below hcl)
  replace hB := btrans hB hcl
  clear hcl
  have hs1 : ¬ ((1048576 : Int) - (ps0.length : Int) < 0) := by omega
  obtain ⟨k1_0, k1_1, k1_2, k1_3, k1_4, k1_5, k1_6, _, _, _, _, _, _, _⟩ := cell7 gS
  go_wp2_with fail
  clear k1_0 k1_1 k1_2 k1_3 k1_4 k1_5 k1_6
  refine (to_ask ek0 id0 kd0 a0 cap0 ps0 el0 ec0 er0 _ hm' hc HP.out).mono ?_
  rintro e yw3 ⟨b2, rfl, hgb2, hb2, hcl⟩
  replace gS := keepheap hcl gS
  replace HIO := hid (HIO.out.below hcl)
  replace HKW := hid (HKW.out.below hcl)
  replace HTB := hid (HTB.out.below hcl)
  replace HAF := hid (HAF.out.below hcl)
  replace HP := hid (HP.out.below hcl)
  replace hB := btrans hB hcl
  clear hcl
  have H2 := hid hb2.pts
  clear hb2 hgb2
  obtain ⟨k2_0, k2_1, k2_2, k2_3, k2_4, k2_5, k2_6, _, _, _, _, _, _, _⟩ := cell7 gS
  go_wp2_with fail
  clear k2_0 k2_1 k2_2 k2_3 k2_4 k2_5 k2_6
  refine (MS.out b2 _ H2.out).mono ?_
  rintro e yw4 ⟨rfl, hcl⟩
  replace gS := keepheap hcl gS
  replace HIO := hid (HIO.out.below hcl)
  replace HKW := hid (HKW.out.below hcl)
  replace HTB := hid (HTB.out.below hcl)
  replace HAF := hid (HAF.out.below hcl)
  replace HP := hid (HP.out.below hcl)
  replace H2 := hid (H2.out.below hcl)
  replace hB := btrans hB hcl
  clear hcl
  clear H2 MS
  obtain ⟨k3_0, k3_1, k3_2, k3_3, k3_4, k3_5, k3_6, _, _, _, _, _, _, _⟩ := cell7 gS
  go_wp2_with fail
  clear k3_0 k3_1 k3_2 k3_3 k3_4 k3_5 k3_6
  refine (to_ask ek0 id0 kd0 a0 cap0 ps0 el0 ec0 er0 _ hm' hc HP.out).mono ?_
  rintro e yw5 ⟨b4, rfl, hgb4, hb4, hcl⟩
  replace gS := keepheap hcl gS
  replace HIO := hid (HIO.out.below hcl)
  replace HKW := hid (HKW.out.below hcl)
  replace HTB := hid (HTB.out.below hcl)
  replace HAF := hid (HAF.out.below hcl)
  replace HP := hid (HP.out.below hcl)
  replace hB := btrans hB hcl
  clear hcl
  have H4 := hid hb4.pts
  clear hb4 hgb4
  obtain ⟨k4_0, k4_1, k4_2, k4_3, k4_4, k4_5, k4_6, _, _, _, _, _, _, _⟩ := cell7 gS
  have ak4_0 := (keepalloc k4_0 (.cells #[.int .i64 ek0, .int .i64 id0, .int .i64 kd0, .slice (some ⟨b4, 0, none⟩) ps0.length ps0.length, .int .i64 el0, .int .i64 ec0, .int .i64 er0] 36))
  have ak4_1 := (keepalloc k4_1 (.cells #[.int .i64 ek0, .int .i64 id0, .int .i64 kd0, .slice (some ⟨b4, 0, none⟩) ps0.length ps0.length, .int .i64 el0, .int .i64 ec0, .int .i64 er0] 36))
  have ak4_2 := (keepalloc k4_2 (.cells #[.int .i64 ek0, .int .i64 id0, .int .i64 kd0, .slice (some ⟨b4, 0, none⟩) ps0.length ps0.length, .int .i64 el0, .int .i64 ec0, .int .i64 er0] 36))
  have ak4_3 := (keepalloc k4_3 (.cells #[.int .i64 ek0, .int .i64 id0, .int .i64 kd0, .slice (some ⟨b4, 0, none⟩) ps0.length ps0.length, .int .i64 el0, .int .i64 ec0, .int .i64 er0] 36))
  have ak4_4 := (keepalloc k4_4 (.cells #[.int .i64 ek0, .int .i64 id0, .int .i64 kd0, .slice (some ⟨b4, 0, none⟩) ps0.length ps0.length, .int .i64 el0, .int .i64 ec0, .int .i64 er0] 36))
  have ak4_5 := (keepalloc k4_5 (.cells #[.int .i64 ek0, .int .i64 id0, .int .i64 kd0, .slice (some ⟨b4, 0, none⟩) ps0.length ps0.length, .int .i64 el0, .int .i64 ec0, .int .i64 er0] 36))
  have ak4_6 := (keepalloc k4_6 (.cells #[.int .i64 ek0, .int .i64 id0, .int .i64 kd0, .slice (some ⟨b4, 0, none⟩) ps0.length ps0.length, .int .i64 el0, .int .i64 ec0, .int .i64 er0] 36))
  go_wp2_with fail
  clear k4_0 k4_1 k4_2 k4_3 k4_4 k4_5 k4_6 ak4_0 ak4_1 ak4_2 ak4_3 ak4_4 ak4_5 ak4_6
  replace gS := (old_alloc (o' := .cells #[.int .i64 ek0, .int .i64 id0, .int .i64 kd0, .slice (some ⟨b4, 0, none⟩) ps0.length ps0.length, .int .i64 el0, .int .i64 ec0, .int .i64 er0] 36) gS)
  have gX := (new_alloc yw5 (yw5.heap.size) (.cells #[.int .i64 ek0, .int .i64 id0, .int .i64 kd0, .slice (some ⟨b4, 0, none⟩) ps0.length ps0.length, .int .i64 el0, .int .i64 ec0, .int .i64 er0] 36) (by simp))
  have hal : Below yw5.heap.size yw5 (yw5.alloc (.cells #[.int .i64 ek0, .int .i64 id0, .int .i64 kd0, .slice (some ⟨b4, 0, none⟩) ps0.length ps0.length, .int .i64 el0, .int .i64 ec0, .int .i64 er0] 36)) := (balloc (Below.refl _ _) (.cells #[.int .i64 ek0, .int .i64 id0, .int .i64 kd0, .slice (some ⟨b4, 0, none⟩) ps0.length ps0.length, .int .i64 el0, .int .i64 ec0, .int .i64 er0] 36))
  replace HIO := hid (HIO.out.below hal)
  replace HKW := hid (HKW.out.below hal)
  replace HTB := hid (HTB.out.below hal)
  replace HAF := hid (HAF.out.below hal)
  replace HP := hid (HP.out.below hal)
  replace H4 := hid (H4.out.below hal)
  replace hB := btrans hB hal
  clear hal
  generalize (yw5.alloc (.cells #[.int .i64 ek0, .int .i64 id0, .int .i64 kd0, .slice (some ⟨b4, 0, none⟩) ps0.length ps0.length, .int .i64 el0, .int .i64 ec0, .int .i64 er0] 36)) = yw6 at *
  generalize yw5.heap.size = X at *
  refine (MI.out b4 _ H4.out HIO.out HKW.out HTB.out HAF.out).mono ?_
  rintro e yw7 ⟨rfl, hcl⟩
  replace gS := keepheap hcl gS
  replace gX := keepheap hcl gX
  replace HIO := hid (HIO.out.below hcl)
  replace HKW := hid (HKW.out.below hcl)
  replace HTB := hid (HTB.out.below hcl)
  replace HAF := hid (HAF.out.below hcl)
  replace HP := hid (HP.out.below hcl)
  replace H4 := hid (H4.out.below hcl)
  replace hB := btrans hB hcl
  clear hcl
  obtain ⟨k5_0, k5_1, k5_2, k5_3, k5_4, k5_5, k5_6, _, _, _, _, _, _, _⟩ := cell7 gS
  obtain ⟨k6_0, k6_1, k6_2, k6_3, k6_4, k6_5, k6_6, _, _, _, _, _, _, _⟩ := cell7 gX
  go_wp2_with fail
  clear k5_0 k5_1 k5_2 k5_3 k5_4 k5_5 k5_6 k6_0 k6_1 k6_2 k6_3 k6_4 k6_5 k6_6
  refine wp_region_held_drew (S := (fun w' => w'.heap[w.heap.size]? = some (.cells #[.int .i64 ek0, .int .i64 id0, .int .i64 kd0, .slice a0 ps0.length cap0, .int .i64 el0, .int .i64 ec0, .int .i64 er0] 28 (0, 0)) ∧ w'.heap[X]? = some (.cells #[.int .i64 ek0, .int .i64 id0, .int .i64 kd0, .slice (some ⟨b4, 0, none⟩) ps0.length ps0.length, .int .i64 el0, .int .i64 ec0, .int .i64 er0] 36 (0, 0)))) (by kernel_rfl) ?_ (fun hHeld => ?_)
  · exact ⟨gS, gX⟩
  replace gS : yw7.drew.heap[w.heap.size]? = some (.cells #[.int .i64 ek0, .int .i64 id0, .int .i64 kd0, .slice a0 ps0.length cap0, .int .i64 el0, .int .i64 ec0, .int .i64 er0] 28 (0, 0)) := gS
  replace gX : yw7.drew.heap[X]? = some (.cells #[.int .i64 ek0, .int .i64 id0, .int .i64 kd0, .slice (some ⟨b4, 0, none⟩) ps0.length ps0.length, .int .i64 el0, .int .i64 ec0, .int .i64 er0] 36 (0, 0)) := gX
  replace HIO : Hid (ItoaA yw7.drew) := hid (HIO.out.below (bdrew (Below.refl _ _)))
  replace HKW : Hid (KW yw7.drew) := hid (HKW.out.below (bdrew (Below.refl _ _)))
  replace HTB : Hid (Tab yw7.drew) := hid (HTB.out.below (bdrew (Below.refl _ _)))
  replace HAF : Hid (AF yw7.drew) := hid (HAF.out.below (bdrew (Below.refl _ _)))
  replace HP : Hid (Pts yw7.drew a0 ps0) := hid (HP.out.below (bdrew (Below.refl _ _)))
  replace H4 : Hid (Pts yw7.drew (some ⟨b4, 0, none⟩) ps0) := hid (H4.out.below (bdrew (Below.refl _ _)))
  replace hB := bdrew hB
  generalize yw7.drew = yw8 at *
  refine wpAnyH_take (i := 0) (v := ?_) rfl (by kernel_rfl) (by kernel_rfl) (by kernel_rfl) (fun _ _ _ h => h) (Or.inl ⟨by rfl, ?_⟩) hHeld ?_
  rotate_left
  · intro w hSw; (try dsimp only at hSw); obtain ⟨_, _, _, _, _, _, _, _, _, _, _, _, _, _⟩ := cell7 (hSw.1); obtain ⟨_, _, _, _, _, _, _, _, _, _, _, _, _, _⟩ := cell7 (hSw.2); go_simp; try (with_reducible rfl)
  try simp only [sq]
  refine wpAnyH_take (i := 1) (v := ?_) rfl (by kernel_rfl) (by kernel_rfl) (by kernel_rfl) (fun _ _ _ h => h) (Or.inl ⟨by rfl, ?_⟩) hHeld ?_
  rotate_left
  · intro w hSw; (try dsimp only at hSw); obtain ⟨_, _, _, _, _, _, _, _, _, _, _, _, _, _⟩ := cell7 (hSw.1); obtain ⟨_, _, _, _, _, _, _, _, _, _, _, _, _, _⟩ := cell7 (hSw.2); go_simp; try (with_reducible rfl)
  try simp only [sq]
  refine wpAnyH_ready (rs := [2]) (by kernel_rfl) (by simp) ?_
  refine AllReadyH.cons rfl (fun K hK => ?_) AllReadyH.nil
  try simp only [sq]
  go_simp
  go_at_call 6
  refine (to_ask ek0 id0 kd0 a0 cap0 ps0 el0 ec0 er0 _ hm' hc HP.out).mono ?_
  rintro e yw9 ⟨b6, rfl, hgb6, hb6, hcl⟩
  replace gS := keepheap hcl gS
  replace gX := keepheap hcl gX
  replace HIO := hid (HIO.out.below hcl)
  replace HKW := hid (HKW.out.below hcl)
  replace HTB := hid (HTB.out.below hcl)
  replace HAF := hid (HAF.out.below hcl)
  replace HP := hid (HP.out.below hcl)
  replace H4 := hid (H4.out.below hcl)
  replace hB := btrans hB hcl
  clear hcl
  have H6 := hid hb6.pts
  clear hb6 hgb6
  go_wp2_with fail
  refine hK.out _ _ ?_ (fun hHeld => ?_)
  · exact ⟨gS, gX⟩
  clear hK K
  try simp only [sq]
  refine wpAnyH_ready (rs := [3]) (by kernel_rfl) (by simp) ?_
  refine AllReadyH.cons rfl (fun K hK => ?_) AllReadyH.nil
  try simp only [sq]
  go_simp
  go_at_call 8
  refine (eq_ask ek0 id0 kd0 (some ⟨b4, 0, none⟩) (some ⟨b6, 0, none⟩) ps0.length ps0.length ps0 el0 ec0 er0 _ hm' (Nat.le_refl _) (Nat.le_refl _) H4.out H6.out).mono ?_
  rintro e yw10 ⟨rfl, hcl⟩
  replace gS := keepheap hcl gS
  replace gX := keepheap hcl gX
  replace HIO := hid (HIO.out.below hcl)
  replace HKW := hid (HKW.out.below hcl)
  replace HTB := hid (HTB.out.below hcl)
  replace HAF := hid (HAF.out.below hcl)
  replace HP := hid (HP.out.below hcl)
  replace H4 := hid (H4.out.below hcl)
  replace H6 := hid (H6.out.below hcl)
  replace hB := btrans hB hcl
  clear hcl
  go_wp2_with fail
  refine hK.out _ _ ?_ (fun hHeld => ?_)
  · exact ⟨gS, gX⟩
  clear hK K
  try simp only [sq]
  refine wpAnyH_take (i := 4) (v := ?_) rfl (by kernel_rfl) (by kernel_rfl) (by kernel_rfl) (fun _ _ _ h => h) (Or.inl ⟨by rfl, ?_⟩) hHeld ?_
  rotate_left
  · intro w hSw; (try dsimp only at hSw); go_simp; try (with_reducible rfl)
  try simp only [sq]
  refine wpAnyH_done (by kernel_rfl) ?_ _
  clear hHeld
  go_wp2_with fail
  go_ret
  exact ⟨rfl, hB⟩
theorem vars_len {H : Type} {enc : TypeId × Value → H} {P : Program} {w : World} {sp : Nat → Bool} : ∀ {ns : List String} {gs : List (DataW H)} {ps : List MemPlace}, DataW.TrodVars enc P w sp ns gs ps → gs.length = ns.length
  | [], [], _, _ => rfl
  | [], _ :: _, _, h => by simp [DataW.TrodVars] at h
  | _ :: _, [], _, h => by simp [DataW.TrodVars] at h
  | _ :: ns, _ :: ds, _, h => by
    obtain ⟨_, _, _, _, _, _, _, _, _, _, hs, _⟩ := h
    simp [vars_len hs]
set_option maxRecDepth 100000 in
theorem contract (H : Type) (enc : TypeId × Value → H) (W : World) (base : Nat) (args : Array Value) (ds gs : List (DataW H)) (before : List MemPlace)
    (hval0 : ∀ (j : Nat) t v, Tryz.f3.params[j]? = some t → args[j]? = some v → Value.okWide Tryz.prog W .any base t v)
    (hW : DataW.Whole enc Tryz.prog Tryz.f3.params.toList Rows.fnExactAskTextSpec.vars false W args.toList ds gs before) (hL : laidMetH Tryz.prog Rows.fnExactAskTextRow.laid W) :
    Calls Tryz.prog 3 args W fun e W' => ∃ v, e = .returned v ∧ Rows.fnExactAskTextSpec.post enc Tryz.prog Tryz.f3 false true false false W args v W' := by
  have hval : ∀ (j : Nat) t v, Tryz.f3.params[j]? = some t → args[j]? = some v → Value.okWide Tryz.prog W .any base t v := hval0
  have hW' := hW
  obtain ⟨p, q, hA0, hV, rfl, hfz, hnd⟩ := hW
  have hA : DataW.TrodAll enc Tryz.prog W 0 (fun _ => true) true Tryz.f3.params.toList args.toList ds p := hA0
  rw [Tryz.params3] at hA hval
  obtain ⟨v0, vs0, d0, ds0, p0, q0, hargs, rfl, rfl, h0, r0⟩ := trodAll_cons hA
  obtain ⟨rfl, rfl, rfl⟩ := trodAll_nil r0
  obtain rfl : args = #[v0] := by cases args; simp_all
  have hgl : gs.length = 3 := vars_len hV
  obtain ⟨g0, g1, g2, rfl⟩ : ∃ g0 g1 g2, gs = [g0, g1, g2] := by
    match gs, hgl with
    | [g0, g1, g2], _ => exact ⟨g0, g1, g2, rfl⟩
  have k0 := h0
  have lt0 : ∀ x ∈ p0, x.block < W.heap.size := by obtain ⟨m, hm⟩ := k0; exact DataW.trod_lt m _ _ _ hm
  obtain ⟨cs0, rfl, hsz0⟩ := okWide_struct Tryz.underlying28 (hval 0 28 v0 rfl rfl)
  obtain ⟨ek0, id0, kd0, a0, cap0, ps0, el0, ec0, er0, ecs0, wk0, w0⟩ := open_ask h0.choose_spec
  obtain rfl : cs0 = #[.int .i64 ek0, .int .i64 id0, .int .i64 kd0, .slice a0 ps0.length cap0, .int .i64 el0, .int .i64 ec0, .int .i64 er0] := by cases cs0; simpa [Value.cells] using ecs0
  have hl2 : laidMet Tryz.prog Rows.fnExactAskTextRow.laid W := hL
  clear hA0 hval0
  refine (walk ek0 id0 kd0 a0 cap0 ps0 el0 ec0 er0 W wk0 w0 (itoa_ofA (g := 4) (by kernel_rfl) (Lib.tabIs_of_head (zs := Lib.pow10Tab) (rest := _) (g := 4) (t := 108) (by kernel_rfl) (by kernel_rfl) Tryz.underlying108 (by kernel_rfl) (by kernel_rfl) (by kernel_rfl) (laidMet.tail (laidMet.tail hl2))) (fun n b1 b2 w' ht => Any.strconv_Itoa Tryz.laysM171 n b1 b2 w' ht)) (kw_of (rest := _) (by kernel_rfl) (by kernel_rfl) (laidMet.tail (laidMet.tail (laidMet.tail hl2)))) (tab_of_is (Lib.tabIs_of_head (g := 2) (rest := _) (by kernel_rfl) (by kernel_rfl) Tryz.underlying94 Tryz.underlying3 (by kernel_rfl) (by kernel_rfl) (laidMet.tail (laidMet.tail (laidMet.tail (laidMet.tail hl2))))) (by kernel_rfl)) (af_of (rest := []) (by kernel_rfl) (by kernel_rfl) (laidMet.tail (laidMet.tail (laidMet.tail (laidMet.tail (laidMet.tail hl2))))))).mono fun e W' ⟨he, bel⟩ => ?_
  subst he
  exact ⟨_, rfl, _, _, _, [], _, _, hW', trodAll_mk1 (shut_bool Tryz.underlying4 _), (trodAll_cons_mk (Below.trod laidOut (by kernel_rfl) (of_decide_eq_true (by kernel_rfl)) k0 bel lt0) trodAll_mk0), Below.trodVars laidOut bel (by kernel_rfl) hV, bel.frame _, fun h => by cases h⟩
def tabs (h : Array Obj) : Array Obj := h
  |>.modify 5 (fun | .cells _ t frozen => .cells #[.int .u8 0, .int .u8 1, .int .u8 28, .int .u8 2, .int .u8 29, .int .u8 14, .int .u8 24, .int .u8 3, .int .u8 30, .int .u8 22, .int .u8 20, .int .u8 15, .int .u8 25, .int .u8 17, .int .u8 4, .int .u8 8, .int .u8 31, .int .u8 27, .int .u8 13, .int .u8 23, .int .u8 21, .int .u8 19, .int .u8 16, .int .u8 7, .int .u8 26, .int .u8 12, .int .u8 18, .int .u8 6, .int .u8 11, .int .u8 5, .int .u8 10, .int .u8 9] t frozen | o => o)
  |>.modify 6 (fun | .cells _ t frozen => .cells #[.int .u8 0, .int .u8 1, .int .u8 56, .int .u8 2, .int .u8 57, .int .u8 49, .int .u8 28, .int .u8 3, .int .u8 61, .int .u8 58, .int .u8 42, .int .u8 50, .int .u8 38, .int .u8 29, .int .u8 17, .int .u8 4, .int .u8 62, .int .u8 47, .int .u8 59, .int .u8 36, .int .u8 45, .int .u8 43, .int .u8 51, .int .u8 22, .int .u8 53, .int .u8 39, .int .u8 33, .int .u8 30, .int .u8 24, .int .u8 18, .int .u8 12, .int .u8 5, .int .u8 63, .int .u8 55, .int .u8 48, .int .u8 27, .int .u8 60, .int .u8 41, .int .u8 37, .int .u8 16, .int .u8 46, .int .u8 35, .int .u8 44, .int .u8 21, .int .u8 52, .int .u8 32, .int .u8 23, .int .u8 11, .int .u8 54, .int .u8 26, .int .u8 40, .int .u8 15, .int .u8 34, .int .u8 20, .int .u8 31, .int .u8 10, .int .u8 25, .int .u8 14, .int .u8 19, .int .u8 9, .int .u8 13, .int .u8 8, .int .u8 7, .int .u8 6] t frozen | o => o)
  |>.modify 4 (fun | .cells _ t frozen => .cells #[.int .u64 1, .int .u64 10, .int .u64 100, .int .u64 1000, .int .u64 10000, .int .u64 100000, .int .u64 1000000, .int .u64 10000000, .int .u64 100000000, .int .u64 1000000000, .int .u64 10000000000, .int .u64 100000000000, .int .u64 1000000000000, .int .u64 10000000000000, .int .u64 100000000000000, .int .u64 1000000000000000, .int .u64 10000000000000000, .int .u64 100000000000000000, .int .u64 1000000000000000000, .int .u64 10000000000000000000] t frozen | o => o)
  |>.modify 1 (fun | .cells _ t frozen => .cells #[.string ⟨#[80, 79, 73, 78, 84]⟩, .string ⟨#[76, 73, 78, 69]⟩, .string ⟨#[82, 69, 67, 84]⟩, .string ⟨#[80, 79, 76, 89]⟩] t frozen | o => o)
  |>.modify 2 (fun | .cells _ t frozen => .cells #[.int .i64 65536, .int .i64 32768, .int .i64 16384, .int .i64 8192, .int .i64 4096, .int .i64 2048, .int .i64 1024, .int .i64 512, .int .i64 256] t frozen | o => o)
  |>.modify 0 (fun | .cells _ t frozen => .cells #[.string ⟨#[66, 69, 71, 73, 78]⟩, .int .i64 4, .string ⟨#[67, 79, 77, 77, 73, 84]⟩, .int .i64 4, .string ⟨#[82, 79, 76, 76, 66, 65, 67, 75]⟩, .int .i64 4, .string ⟨#[80, 85, 84]⟩, .int .i64 1, .string ⟨#[67, 85, 84]⟩, .int .i64 1, .string ⟨#[71, 69, 84]⟩, .int .i64 1, .string ⟨#[77, 69, 69, 84, 83]⟩, .int .i64 2, .string ⟨#[73, 78]⟩, .int .i64 2, .string ⟨#[67, 79, 85, 78, 84]⟩, .int .i64 3, .string ⟨#[65, 76, 76]⟩, .int .i64 4] t frozen | o => o)
theorem laid_met (os : Os) : laidMet Tryz.prog Rows.fnExactAskTextRow.laid (({ World.holding Tryz.prog os ⟨#[], #[], []⟩ with heap := tabs (World.holding Tryz.prog os ⟨#[], #[], []⟩).heap } : World).forCall (fun _ _ => 0) ⟨#[], #[.agg #[.int .i64 0, .int .i64 0, .int .i64 0, .slice none 0 0, .int .i64 0, .int .i64 0, .int .i64 0]], []⟩).memory :=
  laidMet_of_run' 8 (by kernel_rfl) (by kernel_rfl)
theorem reads (os : Os) {H : Type} (enc : TypeId × Value → H) : ∃ x, DataW.whole enc Tryz.prog (({ World.holding Tryz.prog os ⟨#[], #[], []⟩ with heap := tabs (World.holding Tryz.prog os ⟨#[], #[], []⟩).heap } : World).forCall (fun _ _ => 0) ⟨#[], #[.agg #[.int .i64 0, .int .i64 0, .int .i64 0, .slice none 0 0, .int .i64 0, .int .i64 0, .int .i64 0]], []⟩).memory Tryz.f3.params.toList Rows.fnExactAskTextSpec.vars false (#[.agg #[.int .i64 0, .int .i64 0, .int .i64 0, .slice none 0 0, .int .i64 0, .int .i64 0, .int .i64 0]] : Array Value).toList 8 = some x :=
  Option.isSome_iff_exists.1 (by kernel_rfl)
set_option maxRecDepth 100000 in
theorem lifted (os : Os) (started : os.Started) (H : Type) (enc : TypeId × Value → H) (F : Stop.Interp) :
    ReturnsInHanded {} Tryz.checked os 3 .any ((OpenSpec.ofChange Rows.fnExactAskTextSpec).preRow enc Tryz.prog Tryz.f3 Rows.fnExactAskTextRow.domain false Rows.fnExactAskTextRow.laid) (((OpenSpec.ofChange Rows.fnExactAskTextSpec).at F).post enc Tryz.prog Tryz.f3 false true false false) := by
  obtain ⟨x, hx⟩ := reads os enc
  refine returnsInHanded_of_row (C := Tryz.checked) (s := OpenSpec.ofChange Rows.fnExactAskTextSpec) own started (by kernel_rfl) Tryz.func3
    (witness_row_at (enc := enc) (C := Tryz.checked) false ({ World.holding Tryz.prog os ⟨#[], #[], []⟩ with heap := tabs (World.holding Tryz.prog os ⟨#[], #[], []⟩).heap }) #[.agg #[.int .i64 0, .int .i64 0, .int .i64 0, .slice none 0 0, .int .i64 0, .int .i64 0, .int .i64 0]] rfl (by kernel_rfl) (by kernel_rfl) (by kernel_rfl)
      (OpenSpec.preRow_of_cond 8 hx (by rfl) (fun k hk => by cases hk) (by kernel_rfl) (laid_met os))) ?_
  intro W base args ds gs before hval hW _ _ _ hL _ _
  exact contract H enc W base args ds gs before hval hW hL
theorem said : Rows.FnExactAskTextSaid :=
  OpenClaim.holds_of_cond 3 Tryz.f3 rfl rfl rfl rfl rfl rfl rfl ⟨rfl, rfl, rfl, rfl, rfl⟩ rfl rfl rfl rfl rfl (by kernel_rfl) Tryz.func3 (by kernel_rfl)
    (of_decide_eq_true (by kernel_rfl)) (by unfold Func.isWrapper; first | (rw [if_pos (by decide +kernel)]; kernel_rfl) | (rw [if_neg (by decide +kernel)]; exact ⟨rfl, rfl⟩))
    (fun os started H enc _ F => by rw [OpenClaim.pre_eq_preRow]; exact lifted os started H enc F)
theorem plain (f : FuncId) (fn : Func) (hf : Tryz.pinned.checked.prog.funcNamed Rows.fnExactAskTextRow.func = some f) (hfn : Tryz.pinned.checked.prog.funcs[f]? = some fn) :
    false = Tryz.pinned.checked.prog.looks [] ∧ ∀ (j : Nat) t, fn.params[j]? = some t → Tryz.pinned.checked.prog.wantsStandIn t = false := by
  obtain rfl : f = 3 := Option.some.inj ((show Tryz.prog.funcNamed Rows.fnExactAskTextRow.func = some 3 by kernel_rfl).symm.trans hf) |>.symm
  obtain rfl : fn = Tryz.f3 := (Option.some.inj (Tryz.func3.symm.trans hfn)).symm
  refine ⟨by kernel_rfl, fun j t ht => ?_⟩
  rw [Tryz.params3] at ht
  have hm : t ∈ ([28] : List Nat) := by simpa using Array.mem_of_getElem? ht
  exact (show ∀ t ∈ ([28] : List Nat), Tryz.prog.wantsStandIn t = false from of_decide_eq_true (by kernel_rfl)) t hm
end Go.Proofs.YtkifhdkebddnpaaGreatDoorR.fnExactAskText
namespace Go.Proofs.YtkifhdkebddnpaaGreatDoorR
theorem fnExactAskText_holds : Rows.FnExactAskTextCardSaid :=
  Claim7.holds_tied_plain_at .later [] _ _ _ _ fnExactAskText.said (fun _ h => by cases h) (by kernel_rfl) (fun _ h => by cases h) fnExactAskText_row_tie rfl ⟨rfl, rfl⟩ (by kernel_rfl) rfl fnExactAskText.plain (by kernel_rfl)
#print axioms fnExactAskText_holds
end Go.Proofs.YtkifhdkebddnpaaGreatDoorR
