/- Shapes meet whichever is told first; where they do, their boxes do; a shape has a point just where it meets it: the law answers true at every code. -/
import Derived.Test.YtkncdncpgjpemaaRows
import Derived.Test.YtkncdncpgjpemaaFacts
import Derived.Test.YtkncdncpgjpemaaMeetL
import Derived.Test.YtkncdncpgjpemaaDrawS5
import Derived.Test.YtkncdncpgjpemaaCode
import Derived.Test.YtkncdncpgjpemaaBoxM
import Derived.Test.YtkncdncpgjpemaaRows3
import Derived.WalkKit
import Derived.Deep.DeepCutAuto
import Derived.ProofKit
import Derived.OpenShut
import Derived.ShutString
import Derived.ChangeOld
import Derived.Below
import Derived.Carry
import Derived.Lib.SmallJoins
import Derived.Deep.SlicePairs
namespace Go.Proofs.Ytkncdncpgjpemaa.fnMeet
open Go.ChangeShapes Go.WideShapes Go.ChangeAt Go.RowKit Go.Joins
set_option linter.unusedVariables false
set_option linter.unusedSimpArgs false
theorem own : ownKnob Try.prog.godebug = none := by kernel_rfl
theorem laidOut : laidOutB Try.prog = true := by kernel_rfl
set_option maxRecDepth 100000 in
set_option maxHeartbeats 4000000 in
theorem walk (a0 : Option Addr) (len0 cap0 : Nat) (z0 : List Int) (w : World) (w0 : IsRow .u8 w a0 len0 cap0 z0) :
    Calls Try.prog 7 #[.slice a0 len0 cap0] w fun e w' => e = .returned (.bool true) ∧ Below w.heap.size w w' := by
  have hlen := len_of w0
  by_cases hbig : len0 ≤ 1048576
  rotate_left
  · have hd : 1048576 < (len0 : Int) := by omega
    clear w0
    go_enter Try.func7, Try.ntmps7
    go_wp2_with (go_at_call 12; go_in)
    go_ret
    exact ⟨rfl, Below.refl _ _⟩
  have hc := code_of w0 hbig
  have hd : (len0 : Int) ≤ 1048576 := by omega
  have HC := hid hc
  clear hc w0
  go_enter Try.func7, Try.ntmps7
  go_wp2_with (go_at_call 12; go_in)
  refine (draw_meet _ a0 len0 cap0 HC.out).mono ?_
  rintro e y0 ⟨kd, ps, ao, cp, k2, qs, a2, c2, rfl, hl, hc, hl2, hc2, hpt, hpt2, hB⟩
  have HP := hid hpt
  have HQ := hid hpt2
  have hm : ps.length ≤ 1099511627776 := by omega
  have hm2 : qs.length ≤ 1099511627776 := by omega
  have C1 := hid (fun w' (h1 : Pts w' ao ps) (h2 : Pts w' a2 qs) => impl_ShapesMeet kd k2 ao a2 cp c2 ps qs w' hm hc h1 hm2 hc2 h2)
  have C2 := hid (fun w' (h1 : Pts w' ao ps) (h2 : Pts w' a2 qs) => spec_ShapesMeet kd k2 ao a2 cp c2 ps qs w' hm hc h1 hm2 hc2 h2)
  have h3 := fun w' (h1 : Pts w' ao ps) (h2 : Pts w' a2 qs) => impl_ShapesMeet k2 kd a2 ao c2 cp qs ps w' hm2 hc2 h2 hm hc h1
  rw [smP_comm] at h3
  have C3 := hid h3
  have h4 := fun w' (h1 : Pts w' ao ps) => impl_ShapeBox kd ao cp ps w' hm hc h1
  have h5 := fun w' (h1 : Pts w' a2 qs) => impl_ShapeBox k2 a2 c2 qs w' hm2 hc2 h1
  have h6 := fun w' (h1 : Pts w' ao ps) => spec_ShapeOk kd ao cp ps w' hm hc h1
  have LB := hid (@box_law kd k2 ps qs)
  have LO := hid (@own_law kd ps)
  rw [ok_aok] at h4
  rw [ok_aok] at h5
  have HH := hid (fun px py w' (h1 : Pts w' ao ps) => impl_ShapeHas kd px py ao cp ps w' hm hc h1)
  have C8 := hid (fun w' (h1 : Pts w' ao ps) => impl_ShapesMeet kd kd ao ao cp cp ps ps w' hm hc h1 hm hc h1)
  have C9 := hid (fun x0 x1 x2 x3 w' (h1 : Pts w' ao ps) => impl_ShapeIn kd x0 x1 x2 x3 ao cp ps w' hm hc h1)
  have C4 := hid h4
  have C5 := hid h5
  have C6 := hid h6
  clear hpt hpt2 h3 h4 h5 h6
  go_wp2_with fail
  have gS := (old_alloc (o' := .cells #[.int .i64 k2, .slice a2 qs.length c2] 52) (new_alloc y0 (y0.heap.size) (.cells #[.int .i64 kd, .slice ao ps.length cp] 52) (by simp)))
  have gT := (new_alloc (y0.alloc (.cells #[.int .i64 kd, .slice ao ps.length cp] 52)) (y0.heap.size + 1) (.cells #[.int .i64 k2, .slice a2 qs.length c2] 52) (by simp))
  have hal : Below y0.heap.size y0 ((y0.alloc (.cells #[.int .i64 kd, .slice ao ps.length cp] 52)).alloc (.cells #[.int .i64 k2, .slice a2 qs.length c2] 52)) := (balloc (balloc (Below.refl _ _) (.cells #[.int .i64 kd, .slice ao ps.length cp] 52)) (.cells #[.int .i64 k2, .slice a2 qs.length c2] 52))
  replace HP := hid (HP.out.below hal)
  replace HQ := hid (HQ.out.below hal)
  replace hB := btrans hB hal
  clear hal
  generalize ((y0.alloc (.cells #[.int .i64 kd, .slice ao ps.length cp] 52)).alloc (.cells #[.int .i64 k2, .slice a2 qs.length c2] 52)) = y1 at *
  generalize y0.heap.size + 1 = T at *
  generalize y0.heap.size = S at *
  obtain ⟨m, hm'⟩ : ∃ m, smP kd ps k2 qs = m := ⟨_, rfl⟩
  obtain ⟨ok, hok⟩ : ∃ m, shok kd ps = m := ⟨_, rfl⟩
  obtain ⟨fine, hfine⟩ : ∃ m, shok k2 qs = m := ⟨_, rfl⟩
  obtain ⟨x0, ex0⟩ : ∃ m, sv aX kd ps = m := ⟨_, rfl⟩
  obtain ⟨x1, ex1⟩ : ∃ m, sv aY kd ps = m := ⟨_, rfl⟩
  obtain ⟨x2, ex2⟩ : ∃ m, sv bX kd ps = m := ⟨_, rfl⟩
  obtain ⟨x3, ex3⟩ : ∃ m, sv bY' kd ps = m := ⟨_, rfl⟩
  obtain ⟨t0, et0⟩ : ∃ m, sv aX k2 qs = m := ⟨_, rfl⟩
  obtain ⟨t1, et1⟩ : ∃ m, sv aY k2 qs = m := ⟨_, rfl⟩
  obtain ⟨t2, et2⟩ : ∃ m, sv bX k2 qs = m := ⟨_, rfl⟩
  obtain ⟨t3, et3⟩ : ∃ m, sv bY' k2 qs = m := ⟨_, rfl⟩
  rw [hm'] at C1 C2 C3 LB
  rw [hok] at C4 C6 LB LO C9
  rw [hfine] at C5 LB
  rw [ex0, ex1, ex2, ex3] at C4 LB LO
  rw [ex0, ex1, ex2, ex3] at C9
  rw [et0, et1, et2, et3] at C5 LB
  have HOK := hid hok
  clear hm' hok hfine ex0 ex1 ex2 ex3 et0 et1 et2 et3
  obtain ⟨k1_0, k1_1, _, _⟩ := cell2g gS
  obtain ⟨k2_0, k2_1, _, _⟩ := cell2g gT
  refine (C1.out _ HP.out HQ.out).mono ?_
  rintro e y2 ⟨rfl, hcl⟩
  clear k1_0 k1_1 k2_0 k2_1
  replace gS := keepheap hcl gS
  replace gT := keepheap hcl gT
  replace HP := hid (HP.out.below hcl)
  replace HQ := hid (HQ.out.below hcl)
  replace hB := btrans hB hcl
  clear hcl
  obtain ⟨k3_0, k3_1, _, _⟩ := cell2g gS
  obtain ⟨k4_0, k4_1, _, _⟩ := cell2g gT
  go_wp2_with fail
  refine (C4.out _ HP.out).mono ?_
  rintro e y3 ⟨rfl, hcl⟩
  clear k3_0 k3_1 k4_0 k4_1
  replace gS := keepheap hcl gS
  replace gT := keepheap hcl gT
  replace HP := hid (HP.out.below hcl)
  replace HQ := hid (HQ.out.below hcl)
  replace hB := btrans hB hcl
  clear hcl
  obtain ⟨k5_0, k5_1, _, _⟩ := cell2g gS
  obtain ⟨k6_0, k6_1, _, _⟩ := cell2g gT
  have ak5_0 := (keepalloc k5_0 (.cells #[.int .i64 x0, .int .i64 x1, .int .i64 x2, .int .i64 x3] 32))
  have ak5_1 := (keepalloc k5_1 (.cells #[.int .i64 x0, .int .i64 x1, .int .i64 x2, .int .i64 x3] 32))
  have ak6_0 := (keepalloc k6_0 (.cells #[.int .i64 x0, .int .i64 x1, .int .i64 x2, .int .i64 x3] 32))
  have ak6_1 := (keepalloc k6_1 (.cells #[.int .i64 x0, .int .i64 x1, .int .i64 x2, .int .i64 x3] 32))
  go_wp2_with fail
  clear k5_0 k5_1 k6_0 k6_1 ak5_0 ak5_1 ak6_0 ak6_1
  replace gS := (old_alloc (o' := .cells #[.int .i64 x0, .int .i64 x1, .int .i64 x2, .int .i64 x3] 32) gS)
  replace gT := (old_alloc (o' := .cells #[.int .i64 x0, .int .i64 x1, .int .i64 x2, .int .i64 x3] 32) gT)
  have gX := (new_alloc y3 (y3.heap.size) (.cells #[.int .i64 x0, .int .i64 x1, .int .i64 x2, .int .i64 x3] 32) (by simp))
  have hal : Below y3.heap.size y3 (y3.alloc (.cells #[.int .i64 x0, .int .i64 x1, .int .i64 x2, .int .i64 x3] 32)) := (balloc (Below.refl _ _) (.cells #[.int .i64 x0, .int .i64 x1, .int .i64 x2, .int .i64 x3] 32))
  replace HP := hid (HP.out.below hal)
  replace HQ := hid (HQ.out.below hal)
  replace hB := btrans hB hal
  clear hal
  generalize (y3.alloc (.cells #[.int .i64 x0, .int .i64 x1, .int .i64 x2, .int .i64 x3] 32)) = y4 at *
  generalize y3.heap.size = X at *
  refine (C5.out _ HQ.out).mono ?_
  rintro e y5 ⟨rfl, hcl⟩
  replace gS := keepheap hcl gS
  replace gT := keepheap hcl gT
  replace gX := keepheap hcl gX
  replace HP := hid (HP.out.below hcl)
  replace HQ := hid (HQ.out.below hcl)
  replace hB := btrans hB hcl
  clear hcl
  obtain ⟨k7_0, k7_1, _, _⟩ := cell2g gS
  obtain ⟨k8_0, k8_1, _, _⟩ := cell2g gT
  obtain ⟨k9_0, k9_1, k9_2, k9_3, _, _, _, _⟩ := cell4 gX
  have ak7_0 := (keepalloc k7_0 (.cells #[.int .i64 t0, .int .i64 t1, .int .i64 t2, .int .i64 t3] 32))
  have ak7_1 := (keepalloc k7_1 (.cells #[.int .i64 t0, .int .i64 t1, .int .i64 t2, .int .i64 t3] 32))
  have ak8_0 := (keepalloc k8_0 (.cells #[.int .i64 t0, .int .i64 t1, .int .i64 t2, .int .i64 t3] 32))
  have ak8_1 := (keepalloc k8_1 (.cells #[.int .i64 t0, .int .i64 t1, .int .i64 t2, .int .i64 t3] 32))
  have ak9_0 := (keepalloc k9_0 (.cells #[.int .i64 t0, .int .i64 t1, .int .i64 t2, .int .i64 t3] 32))
  have ak9_1 := (keepalloc k9_1 (.cells #[.int .i64 t0, .int .i64 t1, .int .i64 t2, .int .i64 t3] 32))
  have ak9_2 := (keepalloc k9_2 (.cells #[.int .i64 t0, .int .i64 t1, .int .i64 t2, .int .i64 t3] 32))
  have ak9_3 := (keepalloc k9_3 (.cells #[.int .i64 t0, .int .i64 t1, .int .i64 t2, .int .i64 t3] 32))
  go_wp2_with fail
  clear k7_0 k7_1 k8_0 k8_1 k9_0 k9_1 k9_2 k9_3 ak7_0 ak7_1 ak8_0 ak8_1 ak9_0 ak9_1 ak9_2 ak9_3
  replace gS := (old_alloc (o' := .cells #[.int .i64 t0, .int .i64 t1, .int .i64 t2, .int .i64 t3] 32) gS)
  replace gT := (old_alloc (o' := .cells #[.int .i64 t0, .int .i64 t1, .int .i64 t2, .int .i64 t3] 32) gT)
  replace gX := (old_alloc (o' := .cells #[.int .i64 t0, .int .i64 t1, .int .i64 t2, .int .i64 t3] 32) gX)
  have gY := (new_alloc y5 (y5.heap.size) (.cells #[.int .i64 t0, .int .i64 t1, .int .i64 t2, .int .i64 t3] 32) (by simp))
  have hal : Below y5.heap.size y5 (y5.alloc (.cells #[.int .i64 t0, .int .i64 t1, .int .i64 t2, .int .i64 t3] 32)) := (balloc (Below.refl _ _) (.cells #[.int .i64 t0, .int .i64 t1, .int .i64 t2, .int .i64 t3] 32))
  replace HP := hid (HP.out.below hal)
  replace HQ := hid (HQ.out.below hal)
  replace hB := btrans hB hal
  clear hal
  generalize (y5.alloc (.cells #[.int .i64 t0, .int .i64 t1, .int .i64 t2, .int .i64 t3] 32)) = y6 at *
  generalize y5.heap.size = Y at *
  refine (C2.out _ HP.out HQ.out).mono ?_
  rintro e y7 ⟨rfl, hcl⟩
  replace gS := keepheap hcl gS
  replace gT := keepheap hcl gT
  replace gX := keepheap hcl gX
  replace gY := keepheap hcl gY
  replace HP := hid (HP.out.below hcl)
  replace HQ := hid (HQ.out.below hcl)
  replace hB := btrans hB hcl
  clear hcl
  obtain ⟨k10_0, k10_1, _, _⟩ := cell2g gS
  obtain ⟨k11_0, k11_1, _, _⟩ := cell2g gT
  obtain ⟨k12_0, k12_1, k12_2, k12_3, _, _, _, _⟩ := cell4 gX
  obtain ⟨k13_0, k13_1, k13_2, k13_3, _, _, _, _⟩ := cell4 gY
  go_wp2_with fail
  refine (C3.out _ HP.out HQ.out).mono ?_
  rintro e y8 ⟨rfl, hcl⟩
  clear k10_0 k10_1 k11_0 k11_1 k12_0 k12_1 k12_2 k12_3 k13_0 k13_1 k13_2 k13_3
  replace gS := keepheap hcl gS
  replace gT := keepheap hcl gT
  replace gX := keepheap hcl gX
  replace gY := keepheap hcl gY
  replace HP := hid (HP.out.below hcl)
  replace HQ := hid (HQ.out.below hcl)
  replace hB := btrans hB hcl
  clear hcl
  obtain ⟨k14_0, k14_1, _, _⟩ := cell2g gS
  obtain ⟨k15_0, k15_1, _, _⟩ := cell2g gT
  obtain ⟨k16_0, k16_1, k16_2, k16_3, _, _, _, _⟩ := cell4 gX
  obtain ⟨k17_0, k17_1, k17_2, k17_3, _, _, _, _⟩ := cell4 gY
  cases m
  · skip
    go_wp2_with fail
    refine (C6.out _ HP.out).mono ?_
    rintro e y9 ⟨rfl, hcl⟩
    clear k14_0 k14_1 k15_0 k15_1 k16_0 k16_1 k16_2 k16_3 k17_0 k17_1 k17_2 k17_3
    replace gS := keepheap hcl gS
    replace gT := keepheap hcl gT
    replace gX := keepheap hcl gX
    replace gY := keepheap hcl gY
    replace HP := hid (HP.out.below hcl)
    replace HQ := hid (HQ.out.below hcl)
    replace hB := btrans hB hcl
    clear hcl
    obtain ⟨k18_0, k18_1, _, _⟩ := cell2g gS
    obtain ⟨k19_0, k19_1, _, _⟩ := cell2g gT
    obtain ⟨k20_0, k20_1, k20_2, k20_3, _, _, _, _⟩ := cell4 gX
    obtain ⟨k21_0, k21_1, k21_2, k21_3, _, _, _, _⟩ := cell4 gY
    go_wp2_with fail
    refine (draw_has _ a0 len0 cap0 ((HC.out.below hB).mono hB.size)).mono ?_
    rintro e z1 ⟨kh, hs, ah, ch, px, py, rfl, hlh, hch, hpt, hcl⟩
    clear k18_0 k18_1 k19_0 k19_1 k20_0 k20_1 k20_2 k20_3 k21_0 k21_1 k21_2 k21_3
    replace gS := keepheap hcl gS
    replace gT := keepheap hcl gT
    replace gX := keepheap hcl gX
    replace gY := keepheap hcl gY
    replace HP := hid (HP.out.below hcl)
    replace HQ := hid (HQ.out.below hcl)
    replace hB := btrans hB hcl
    clear hcl
    have PH := hid hpt
    clear hpt
    have h1 := fun w' (h1 : Pts w' ah hs) => impl_ShapeHas kh px py ah ch hs w' (by omega) hch h1
    have h2 := fun w' (h1 : Pts w' ah hs) => spec_ShapeHas kh px py ah ch hs w' (by omega) hch h1
    have h3 := fun (b : Nat) w' (h1 : Pts w' ah hs) (h2 : Pts w' (some ⟨b, 0, none⟩) [(px, py)]) => impl_ShapesMeet kh 0 ah (some ⟨b, 0, none⟩) ch 1 hs [(px, py)] w' (by omega) hch h1 (by simp) (by simp) h2
    rw [has_meet] at h3
    have D1 := hid h1
    have D2 := hid h2
    have D3 := hid h3
    clear h1 h2 h3
    generalize (pok px py && shok kh hs && hasP kh hs px py) = hh at *
    obtain ⟨k22_0, k22_1, _, _⟩ := cell2g gS
    obtain ⟨k23_0, k23_1, _, _⟩ := cell2g gT
    obtain ⟨k24_0, k24_1, k24_2, k24_3, _, _, _, _⟩ := cell4 gX
    obtain ⟨k25_0, k25_1, k25_2, k25_3, _, _, _, _⟩ := cell4 gY
    have ak22_0 := (keepalloc (keepalloc k22_0 (.cells #[.int .i64 kh, .slice ah hs.length ch] 52)) (.cells #[.int .i64 px, .int .i64 py] 25))
    have ak22_1 := (keepalloc (keepalloc k22_1 (.cells #[.int .i64 kh, .slice ah hs.length ch] 52)) (.cells #[.int .i64 px, .int .i64 py] 25))
    have ak23_0 := (keepalloc (keepalloc k23_0 (.cells #[.int .i64 kh, .slice ah hs.length ch] 52)) (.cells #[.int .i64 px, .int .i64 py] 25))
    have ak23_1 := (keepalloc (keepalloc k23_1 (.cells #[.int .i64 kh, .slice ah hs.length ch] 52)) (.cells #[.int .i64 px, .int .i64 py] 25))
    have ak24_0 := (keepalloc (keepalloc k24_0 (.cells #[.int .i64 kh, .slice ah hs.length ch] 52)) (.cells #[.int .i64 px, .int .i64 py] 25))
    have ak24_1 := (keepalloc (keepalloc k24_1 (.cells #[.int .i64 kh, .slice ah hs.length ch] 52)) (.cells #[.int .i64 px, .int .i64 py] 25))
    have ak24_2 := (keepalloc (keepalloc k24_2 (.cells #[.int .i64 kh, .slice ah hs.length ch] 52)) (.cells #[.int .i64 px, .int .i64 py] 25))
    have ak24_3 := (keepalloc (keepalloc k24_3 (.cells #[.int .i64 kh, .slice ah hs.length ch] 52)) (.cells #[.int .i64 px, .int .i64 py] 25))
    have ak25_0 := (keepalloc (keepalloc k25_0 (.cells #[.int .i64 kh, .slice ah hs.length ch] 52)) (.cells #[.int .i64 px, .int .i64 py] 25))
    have ak25_1 := (keepalloc (keepalloc k25_1 (.cells #[.int .i64 kh, .slice ah hs.length ch] 52)) (.cells #[.int .i64 px, .int .i64 py] 25))
    have ak25_2 := (keepalloc (keepalloc k25_2 (.cells #[.int .i64 kh, .slice ah hs.length ch] 52)) (.cells #[.int .i64 px, .int .i64 py] 25))
    have ak25_3 := (keepalloc (keepalloc k25_3 (.cells #[.int .i64 kh, .slice ah hs.length ch] 52)) (.cells #[.int .i64 px, .int .i64 py] 25))
    go_wp2_with fail
    clear k22_0 k22_1 k23_0 k23_1 k24_0 k24_1 k24_2 k24_3 k25_0 k25_1 k25_2 k25_3 ak22_0 ak22_1 ak23_0 ak23_1 ak24_0 ak24_1 ak24_2 ak24_3 ak25_0 ak25_1 ak25_2 ak25_3
    replace gS := (old_alloc (o' := .cells #[.int .i64 px, .int .i64 py] 25) (old_alloc (o' := .cells #[.int .i64 kh, .slice ah hs.length ch] 52) gS))
    replace gT := (old_alloc (o' := .cells #[.int .i64 px, .int .i64 py] 25) (old_alloc (o' := .cells #[.int .i64 kh, .slice ah hs.length ch] 52) gT))
    replace gX := (old_alloc (o' := .cells #[.int .i64 px, .int .i64 py] 25) (old_alloc (o' := .cells #[.int .i64 kh, .slice ah hs.length ch] 52) gX))
    replace gY := (old_alloc (o' := .cells #[.int .i64 px, .int .i64 py] 25) (old_alloc (o' := .cells #[.int .i64 kh, .slice ah hs.length ch] 52) gY))
    have gH := (old_alloc (o' := .cells #[.int .i64 px, .int .i64 py] 25) (new_alloc z1 (z1.heap.size) (.cells #[.int .i64 kh, .slice ah hs.length ch] 52) (by simp)))
    have gP := (new_alloc (z1.alloc (.cells #[.int .i64 kh, .slice ah hs.length ch] 52)) (z1.heap.size + 1) (.cells #[.int .i64 px, .int .i64 py] 25) (by simp))
    have hal : Below z1.heap.size z1 ((z1.alloc (.cells #[.int .i64 kh, .slice ah hs.length ch] 52)).alloc (.cells #[.int .i64 px, .int .i64 py] 25)) := (balloc (balloc (Below.refl _ _) (.cells #[.int .i64 kh, .slice ah hs.length ch] 52)) (.cells #[.int .i64 px, .int .i64 py] 25))
    replace HP := hid (HP.out.below hal)
    replace HQ := hid (HQ.out.below hal)
    replace PH := hid (PH.out.below hal)
    replace hB := btrans hB hal
    clear hal
    generalize ((z1.alloc (.cells #[.int .i64 kh, .slice ah hs.length ch] 52)).alloc (.cells #[.int .i64 px, .int .i64 py] 25)) = y10 at *
    generalize z1.heap.size + 1 = P at *
    generalize z1.heap.size = H at *
    refine (D1.out _ PH.out).mono ?_
    rintro e y11 ⟨rfl, hcl⟩
    replace gS := keepheap hcl gS
    replace gT := keepheap hcl gT
    replace gX := keepheap hcl gX
    replace gY := keepheap hcl gY
    replace gH := keepheap hcl gH
    replace gP := keepheap hcl gP
    replace HP := hid (HP.out.below hcl)
    replace HQ := hid (HQ.out.below hcl)
    replace PH := hid (PH.out.below hcl)
    replace hB := btrans hB hcl
    clear hcl
    obtain ⟨k26_0, k26_1, _, _⟩ := cell2g gS
    obtain ⟨k27_0, k27_1, _, _⟩ := cell2g gT
    obtain ⟨k28_0, k28_1, k28_2, k28_3, _, _, _, _⟩ := cell4 gX
    obtain ⟨k29_0, k29_1, k29_2, k29_3, _, _, _, _⟩ := cell4 gY
    obtain ⟨k30_0, k30_1, _, _⟩ := cell2g gH
    obtain ⟨k31_0, k31_1, _, _⟩ := cell2g gP
    go_wp2_with fail
    refine (D2.out _ PH.out).mono ?_
    rintro e y12 ⟨rfl, hcl⟩
    clear k26_0 k26_1 k27_0 k27_1 k28_0 k28_1 k28_2 k28_3 k29_0 k29_1 k29_2 k29_3 k30_0 k30_1 k31_0 k31_1
    replace gS := keepheap hcl gS
    replace gT := keepheap hcl gT
    replace gX := keepheap hcl gX
    replace gY := keepheap hcl gY
    replace gH := keepheap hcl gH
    replace gP := keepheap hcl gP
    replace HP := hid (HP.out.below hcl)
    replace HQ := hid (HQ.out.below hcl)
    replace PH := hid (PH.out.below hcl)
    replace hB := btrans hB hcl
    clear hcl
    obtain ⟨k32_0, k32_1, _, _⟩ := cell2g gS
    obtain ⟨k33_0, k33_1, _, _⟩ := cell2g gT
    obtain ⟨k34_0, k34_1, k34_2, k34_3, _, _, _, _⟩ := cell4 gX
    obtain ⟨k35_0, k35_1, k35_2, k35_3, _, _, _, _⟩ := cell4 gY
    obtain ⟨k36_0, k36_1, _, _⟩ := cell2g gH
    obtain ⟨k37_0, k37_1, _, _⟩ := cell2g gP
    go_wp2_with fail
    clear k32_0 k32_1 k33_0 k33_1 k34_0 k34_1 k34_2 k34_3 k35_0 k35_1 k35_2 k35_3 k36_0 k36_1 k37_0 k37_1
    have hal := balloc (Below.refl y12.heap.size y12) (.cells #[.int .i64 px, .int .i64 py] 25)
    refine (D3.out _ _ (PH.out.below hal) (pts1 (newcell _ _ _ _ _ _ rfl rfl) (newcell _ _ _ _ _ _ rfl rfl))).mono ?_
    rintro e y13 ⟨rfl, hcl⟩
    replace hcl := btrans hal hcl
    clear hal
    replace gS := keepheap hcl gS
    replace gT := keepheap hcl gT
    replace gX := keepheap hcl gX
    replace gY := keepheap hcl gY
    replace gH := keepheap hcl gH
    replace gP := keepheap hcl gP
    replace HP := hid (HP.out.below hcl)
    replace HQ := hid (HQ.out.below hcl)
    replace PH := hid (PH.out.below hcl)
    replace hB := btrans hB hcl
    clear hcl
    clear PH D1 D2 D3
    obtain ⟨k38_0, k38_1, _, _⟩ := cell2g gS
    obtain ⟨k39_0, k39_1, _, _⟩ := cell2g gT
    obtain ⟨k40_0, k40_1, k40_2, k40_3, _, _, _, _⟩ := cell4 gX
    obtain ⟨k41_0, k41_1, k41_2, k41_3, _, _, _, _⟩ := cell4 gY
    cases ok
    · skip
      go_wp2_with fail
      go_ret
      exact ⟨rfl, hB⟩
    · skip
      obtain ⟨hself, hin⟩ := LO.out (by simp)
      have E8 := C8.out
      rw [hself] at E8
      have E9 := C9.out x0 x1 x2 x3
      rw [hin] at E9
      have HE8 := hid E8
      have HE9 := hid E9
      have HOW := hid (fun i (hi : i < ps.length) w' (h1 : Pts w' ao ps) => has_own kd ao cp ps w' hm hc h1 HOK.out i hi)
      clear E8 E9 hself hin
      go_wp2_with fail
      go_loopw [13] (fun ti wr => ∃ j : Nat, ti = .int .i64 j ∧ j ≤ ps.length ∧ Below y13.heap.size y13 wr) (fun ti _ => ps.length - (intOf ti).toNat)
      case atStart => exact ⟨0, rfl, Nat.zero_le _, Below.refl _ _⟩
      case round =>
        obtain ⟨j, rfl, hj, hcl⟩ := hrel
        have hcr := hcl
        clear k38_0 k38_1 k39_0 k39_1 k40_0 k40_1 k40_2 k40_3 k41_0 k41_1 k41_2 k41_3
        replace gS := keepheap hcl gS
        replace gT := keepheap hcl gT
        replace gX := keepheap hcl gX
        replace gY := keepheap hcl gY
        replace HP := hid (HP.out.below hcl)
        replace HQ := hid (HQ.out.below hcl)
        replace hB := btrans hB hcl
        clear hcl
        obtain ⟨k42_0, k42_1, _, _⟩ := cell2g gS
        obtain ⟨k43_0, k43_1, _, _⟩ := cell2g gT
        obtain ⟨k44_0, k44_1, k44_2, k44_3, _, _, _, _⟩ := cell4 gX
        obtain ⟨k45_0, k45_1, k45_2, k45_3, _, _, _, _⟩ := cell4 gY
        by_cases hlt : j < ps.length
        · skip
          have c1 : (j : Int) < (ps.length : Int) := by omega
          have c0 : (0 : Int) ≤ (j : Int) := by omega
          have hown := HOW.out j hlt
          obtain ⟨pb, off, rfl, hps, hpa⟩ : ∃ pb off, ao = some ⟨pb, off, none⟩ ∧ pb < wr.heap.size ∧ PtsAt wr pb off ps := by
            rcases HP.out with h | h
            · rw [h] at hlt; simp at hlt
            · exact h
          obtain ⟨d0, d1⟩ := hpa j hlt
          generalize (ps.getD j (0, 0)).1 = ux at *
          generalize (ps.getD j (0, 0)).2 = uy at *
          have HWN := hid hown
          clear hpa hown
          clear k42_0 k42_1 k43_0 k43_1 k44_0 k44_1 k44_2 k44_3 k45_0 k45_1 k45_2 k45_3
          obtain ⟨k46_0, k46_1, _, _⟩ := cell2g gS
          obtain ⟨k47_0, k47_1, _, _⟩ := cell2g gT
          obtain ⟨k48_0, k48_1, k48_2, k48_3, _, _, _, _⟩ := cell4 gX
          obtain ⟨k49_0, k49_1, k49_2, k49_3, _, _, _, _⟩ := cell4 gY
          go_wp2_with fail
          clear k46_0 k46_1 k47_0 k47_1 k48_0 k48_1 k48_2 k48_3 k49_0 k49_1 k49_2 k49_3
          refine wp_region_held_drew (S := (fun w' => w'.heap[S]? = some (.cells #[.int .i64 kd, .slice (some ⟨pb, off, none⟩) ps.length cp] 52 (0, 0)) ∧ w'.cell? ⟨pb, off + j * 2, none⟩ = some (.int .i64 ux) ∧ w'.cell? ⟨pb, off + j * 2 + 1, none⟩ = some (.int .i64 uy))) (by kernel_rfl) ?_ (fun hHeld => ?_)
          · exact ⟨gS, d0, d1⟩
          refine wpAnyH_take (i := 0) (v := ?_) rfl (by kernel_rfl) (by kernel_rfl) (by kernel_rfl) (fun _ _ _ h => h) (Or.inl ⟨by rfl, ?_⟩) hHeld ?_
          rotate_left
          · intro w hSw; (try dsimp only at hSw); obtain ⟨gs, u0, u1⟩ := hSw; obtain ⟨_, _, _, _⟩ := cell2g gs; go_simp; try (with_reducible rfl)
          try simp only [sq]
          refine wpAnyH_take (i := 1) (v := ?_) rfl (by kernel_rfl) (by kernel_rfl) (by kernel_rfl) (fun _ _ _ h => h) (Or.inl ⟨by rfl, ?_⟩) hHeld ?_
          rotate_left
          · intro w hSw; (try dsimp only at hSw); go_simp; try (with_reducible rfl)
          try simp only [sq]
          refine wpAnyH_take (i := 2) (v := ?_) rfl (by kernel_rfl) (by kernel_rfl) (by kernel_rfl) (fun _ _ _ h => h) (Or.inl ⟨by rfl, ?_⟩) hHeld ?_
          rotate_left
          · intro w hSw; (try dsimp only at hSw); obtain ⟨gs, u0, u1⟩ := hSw; obtain ⟨_, _, _, _⟩ := cell2g gs; go_simp; try (with_reducible rfl)
          try simp only [sq]
          refine wpAnyH_take (i := 3) (v := ?_) rfl (by kernel_rfl) (by kernel_rfl) (by kernel_rfl) (fun _ _ _ h => h) (Or.inl ⟨by rfl, ?_⟩) hHeld ?_
          rotate_left
          · intro w hSw; (try dsimp only at hSw); go_simp; try (with_reducible rfl)
          try simp only [sq]
          refine wpAnyH_take (i := 4) (v := ?_) rfl (by kernel_rfl) (by kernel_rfl) (by kernel_rfl) (fun _ _ _ h => h) (Or.inl ⟨by rfl, ?_⟩) hHeld ?_
          rotate_left
          · intro w hSw; (try dsimp only at hSw); go_simp; try (with_reducible rfl)
          try simp only [sq]
          refine wpAnyH_take (i := 5) (v := ?_) rfl (by kernel_rfl) (by kernel_rfl) (by kernel_rfl) (fun _ _ _ h => h) (Or.inl ⟨by rfl, ?_⟩) hHeld ?_
          rotate_left
          · intro w hSw; (try dsimp only at hSw); obtain ⟨gs, u0, u1⟩ := hSw; obtain ⟨_, _, _, _⟩ := cell2g gs; go_simp; try (with_reducible rfl)
          try simp only [sq]
          refine wpAnyH_ready (rs := [6]) (by kernel_rfl) (by simp) ?_
          refine AllReadyH.cons rfl (fun K hK => ?_) AllReadyH.nil
          try simp only [sq]
          go_simp
          go_at_call 51
          refine (HWN.out _ (HP.out.below (bdrew (Below.refl _ _)))).mono ?_
          rintro e u1 ⟨rfl, hcu⟩
          go_wp2_with fail
          refine hK.out _ _ ?_ (fun hHeld => ?_)
          · exact ⟨keepheap hcu hHeld.1, keepcell hcu hHeld.2.1, keepcell hcu hHeld.2.2⟩
          clear hK K
          try simp only [sq]
          refine wpAnyH_take (i := 7) (v := ?_) rfl (by kernel_rfl) (by kernel_rfl) (by kernel_rfl) (fun _ _ _ h => h) (Or.inl ⟨by rfl, ?_⟩) hHeld ?_
          rotate_left
          · intro w hSw; (try dsimp only at hSw); go_simp; try (with_reducible rfl)
          try simp only [sq]
          refine wpAnyH_done (by kernel_rfl) ?_ _
          clear hHeld
          go_wp2_with fail
          go_roundw
          case rel => exact ⟨j + 1, by go_num, by omega, btrans (bdrew hcr) hcu⟩
          case measure => simp [intOf]; omega
        · skip
          have c1 : ¬ (j : Int) < (ps.length : Int) := by omega
          go_wp2_with fail
          refine (HE8.out _ HP.out).mono ?_
          rintro e y14 ⟨rfl, hcl⟩
          clear k42_0 k42_1 k43_0 k43_1 k44_0 k44_1 k44_2 k44_3 k45_0 k45_1 k45_2 k45_3
          replace gS := keepheap hcl gS
          replace gT := keepheap hcl gT
          replace gX := keepheap hcl gX
          replace gY := keepheap hcl gY
          replace HP := hid (HP.out.below hcl)
          replace HQ := hid (HQ.out.below hcl)
          replace hB := btrans hB hcl
          clear hcl
          obtain ⟨k46_0, k46_1, _, _⟩ := cell2g gS
          obtain ⟨k47_0, k47_1, _, _⟩ := cell2g gT
          obtain ⟨k48_0, k48_1, k48_2, k48_3, _, _, _, _⟩ := cell4 gX
          obtain ⟨k49_0, k49_1, k49_2, k49_3, _, _, _, _⟩ := cell4 gY
          go_wp2_with fail
          refine (HE9.out _ HP.out).mono ?_
          rintro e y15 ⟨rfl, hcl⟩
          clear k46_0 k46_1 k47_0 k47_1 k48_0 k48_1 k48_2 k48_3 k49_0 k49_1 k49_2 k49_3
          replace gS := keepheap hcl gS
          replace gT := keepheap hcl gT
          replace gX := keepheap hcl gX
          replace gY := keepheap hcl gY
          replace HP := hid (HP.out.below hcl)
          replace HQ := hid (HQ.out.below hcl)
          replace hB := btrans hB hcl
          clear hcl
          obtain ⟨k50_0, k50_1, _, _⟩ := cell2g gS
          obtain ⟨k51_0, k51_1, _, _⟩ := cell2g gT
          obtain ⟨k52_0, k52_1, k52_2, k52_3, _, _, _, _⟩ := cell4 gX
          obtain ⟨k53_0, k53_1, k53_2, k53_3, _, _, _, _⟩ := cell4 gY
          go_wp2_with fail
          go_ret
          exact ⟨rfl, hB⟩
  · skip
    obtain ⟨e1, e2, e3⟩ := LB.out rfl
    subst e1 e2
    have h7 := fun w' => impl_BM x0 x1 x2 x3 t0 t1 t2 t3 w'
    rw [e3] at h7
    have C7 := hid h7
    clear h7 e3
    go_wp2_with fail
    refine (C7.out _).mono ?_
    rintro e y9 ⟨rfl, hcl⟩
    clear k14_0 k14_1 k15_0 k15_1 k16_0 k16_1 k16_2 k16_3 k17_0 k17_1 k17_2 k17_3
    replace gS := keepheap hcl gS
    replace gT := keepheap hcl gT
    replace gX := keepheap hcl gX
    replace gY := keepheap hcl gY
    replace HP := hid (HP.out.below hcl)
    replace HQ := hid (HQ.out.below hcl)
    replace hB := btrans hB hcl
    clear hcl
    obtain ⟨k18_0, k18_1, _, _⟩ := cell2g gS
    obtain ⟨k19_0, k19_1, _, _⟩ := cell2g gT
    obtain ⟨k20_0, k20_1, k20_2, k20_3, _, _, _, _⟩ := cell4 gX
    obtain ⟨k21_0, k21_1, k21_2, k21_3, _, _, _, _⟩ := cell4 gY
    go_wp2_with fail
    refine (C6.out _ HP.out).mono ?_
    rintro e y10 ⟨rfl, hcl⟩
    clear k18_0 k18_1 k19_0 k19_1 k20_0 k20_1 k20_2 k20_3 k21_0 k21_1 k21_2 k21_3
    replace gS := keepheap hcl gS
    replace gT := keepheap hcl gT
    replace gX := keepheap hcl gX
    replace gY := keepheap hcl gY
    replace HP := hid (HP.out.below hcl)
    replace HQ := hid (HQ.out.below hcl)
    replace hB := btrans hB hcl
    clear hcl
    obtain ⟨k22_0, k22_1, _, _⟩ := cell2g gS
    obtain ⟨k23_0, k23_1, _, _⟩ := cell2g gT
    obtain ⟨k24_0, k24_1, k24_2, k24_3, _, _, _, _⟩ := cell4 gX
    obtain ⟨k25_0, k25_1, k25_2, k25_3, _, _, _, _⟩ := cell4 gY
    go_wp2_with fail
    refine (draw_has _ a0 len0 cap0 ((HC.out.below hB).mono hB.size)).mono ?_
    rintro e z1 ⟨kh, hs, ah, ch, px, py, rfl, hlh, hch, hpt, hcl⟩
    clear k22_0 k22_1 k23_0 k23_1 k24_0 k24_1 k24_2 k24_3 k25_0 k25_1 k25_2 k25_3
    replace gS := keepheap hcl gS
    replace gT := keepheap hcl gT
    replace gX := keepheap hcl gX
    replace gY := keepheap hcl gY
    replace HP := hid (HP.out.below hcl)
    replace HQ := hid (HQ.out.below hcl)
    replace hB := btrans hB hcl
    clear hcl
    have PH := hid hpt
    clear hpt
    have h1 := fun w' (h1 : Pts w' ah hs) => impl_ShapeHas kh px py ah ch hs w' (by omega) hch h1
    have h2 := fun w' (h1 : Pts w' ah hs) => spec_ShapeHas kh px py ah ch hs w' (by omega) hch h1
    have h3 := fun (b : Nat) w' (h1 : Pts w' ah hs) (h2 : Pts w' (some ⟨b, 0, none⟩) [(px, py)]) => impl_ShapesMeet kh 0 ah (some ⟨b, 0, none⟩) ch 1 hs [(px, py)] w' (by omega) hch h1 (by simp) (by simp) h2
    rw [has_meet] at h3
    have D1 := hid h1
    have D2 := hid h2
    have D3 := hid h3
    clear h1 h2 h3
    generalize (pok px py && shok kh hs && hasP kh hs px py) = hh at *
    obtain ⟨k26_0, k26_1, _, _⟩ := cell2g gS
    obtain ⟨k27_0, k27_1, _, _⟩ := cell2g gT
    obtain ⟨k28_0, k28_1, k28_2, k28_3, _, _, _, _⟩ := cell4 gX
    obtain ⟨k29_0, k29_1, k29_2, k29_3, _, _, _, _⟩ := cell4 gY
    have ak26_0 := (keepalloc (keepalloc k26_0 (.cells #[.int .i64 kh, .slice ah hs.length ch] 52)) (.cells #[.int .i64 px, .int .i64 py] 25))
    have ak26_1 := (keepalloc (keepalloc k26_1 (.cells #[.int .i64 kh, .slice ah hs.length ch] 52)) (.cells #[.int .i64 px, .int .i64 py] 25))
    have ak27_0 := (keepalloc (keepalloc k27_0 (.cells #[.int .i64 kh, .slice ah hs.length ch] 52)) (.cells #[.int .i64 px, .int .i64 py] 25))
    have ak27_1 := (keepalloc (keepalloc k27_1 (.cells #[.int .i64 kh, .slice ah hs.length ch] 52)) (.cells #[.int .i64 px, .int .i64 py] 25))
    have ak28_0 := (keepalloc (keepalloc k28_0 (.cells #[.int .i64 kh, .slice ah hs.length ch] 52)) (.cells #[.int .i64 px, .int .i64 py] 25))
    have ak28_1 := (keepalloc (keepalloc k28_1 (.cells #[.int .i64 kh, .slice ah hs.length ch] 52)) (.cells #[.int .i64 px, .int .i64 py] 25))
    have ak28_2 := (keepalloc (keepalloc k28_2 (.cells #[.int .i64 kh, .slice ah hs.length ch] 52)) (.cells #[.int .i64 px, .int .i64 py] 25))
    have ak28_3 := (keepalloc (keepalloc k28_3 (.cells #[.int .i64 kh, .slice ah hs.length ch] 52)) (.cells #[.int .i64 px, .int .i64 py] 25))
    have ak29_0 := (keepalloc (keepalloc k29_0 (.cells #[.int .i64 kh, .slice ah hs.length ch] 52)) (.cells #[.int .i64 px, .int .i64 py] 25))
    have ak29_1 := (keepalloc (keepalloc k29_1 (.cells #[.int .i64 kh, .slice ah hs.length ch] 52)) (.cells #[.int .i64 px, .int .i64 py] 25))
    have ak29_2 := (keepalloc (keepalloc k29_2 (.cells #[.int .i64 kh, .slice ah hs.length ch] 52)) (.cells #[.int .i64 px, .int .i64 py] 25))
    have ak29_3 := (keepalloc (keepalloc k29_3 (.cells #[.int .i64 kh, .slice ah hs.length ch] 52)) (.cells #[.int .i64 px, .int .i64 py] 25))
    go_wp2_with fail
    clear k26_0 k26_1 k27_0 k27_1 k28_0 k28_1 k28_2 k28_3 k29_0 k29_1 k29_2 k29_3 ak26_0 ak26_1 ak27_0 ak27_1 ak28_0 ak28_1 ak28_2 ak28_3 ak29_0 ak29_1 ak29_2 ak29_3
    replace gS := (old_alloc (o' := .cells #[.int .i64 px, .int .i64 py] 25) (old_alloc (o' := .cells #[.int .i64 kh, .slice ah hs.length ch] 52) gS))
    replace gT := (old_alloc (o' := .cells #[.int .i64 px, .int .i64 py] 25) (old_alloc (o' := .cells #[.int .i64 kh, .slice ah hs.length ch] 52) gT))
    replace gX := (old_alloc (o' := .cells #[.int .i64 px, .int .i64 py] 25) (old_alloc (o' := .cells #[.int .i64 kh, .slice ah hs.length ch] 52) gX))
    replace gY := (old_alloc (o' := .cells #[.int .i64 px, .int .i64 py] 25) (old_alloc (o' := .cells #[.int .i64 kh, .slice ah hs.length ch] 52) gY))
    have gH := (old_alloc (o' := .cells #[.int .i64 px, .int .i64 py] 25) (new_alloc z1 (z1.heap.size) (.cells #[.int .i64 kh, .slice ah hs.length ch] 52) (by simp)))
    have gP := (new_alloc (z1.alloc (.cells #[.int .i64 kh, .slice ah hs.length ch] 52)) (z1.heap.size + 1) (.cells #[.int .i64 px, .int .i64 py] 25) (by simp))
    have hal : Below z1.heap.size z1 ((z1.alloc (.cells #[.int .i64 kh, .slice ah hs.length ch] 52)).alloc (.cells #[.int .i64 px, .int .i64 py] 25)) := (balloc (balloc (Below.refl _ _) (.cells #[.int .i64 kh, .slice ah hs.length ch] 52)) (.cells #[.int .i64 px, .int .i64 py] 25))
    replace HP := hid (HP.out.below hal)
    replace HQ := hid (HQ.out.below hal)
    replace PH := hid (PH.out.below hal)
    replace hB := btrans hB hal
    clear hal
    generalize ((z1.alloc (.cells #[.int .i64 kh, .slice ah hs.length ch] 52)).alloc (.cells #[.int .i64 px, .int .i64 py] 25)) = y11 at *
    generalize z1.heap.size + 1 = P at *
    generalize z1.heap.size = H at *
    refine (D1.out _ PH.out).mono ?_
    rintro e y12 ⟨rfl, hcl⟩
    replace gS := keepheap hcl gS
    replace gT := keepheap hcl gT
    replace gX := keepheap hcl gX
    replace gY := keepheap hcl gY
    replace gH := keepheap hcl gH
    replace gP := keepheap hcl gP
    replace HP := hid (HP.out.below hcl)
    replace HQ := hid (HQ.out.below hcl)
    replace PH := hid (PH.out.below hcl)
    replace hB := btrans hB hcl
    clear hcl
    obtain ⟨k30_0, k30_1, _, _⟩ := cell2g gS
    obtain ⟨k31_0, k31_1, _, _⟩ := cell2g gT
    obtain ⟨k32_0, k32_1, k32_2, k32_3, _, _, _, _⟩ := cell4 gX
    obtain ⟨k33_0, k33_1, k33_2, k33_3, _, _, _, _⟩ := cell4 gY
    obtain ⟨k34_0, k34_1, _, _⟩ := cell2g gH
    obtain ⟨k35_0, k35_1, _, _⟩ := cell2g gP
    go_wp2_with fail
    refine (D2.out _ PH.out).mono ?_
    rintro e y13 ⟨rfl, hcl⟩
    clear k30_0 k30_1 k31_0 k31_1 k32_0 k32_1 k32_2 k32_3 k33_0 k33_1 k33_2 k33_3 k34_0 k34_1 k35_0 k35_1
    replace gS := keepheap hcl gS
    replace gT := keepheap hcl gT
    replace gX := keepheap hcl gX
    replace gY := keepheap hcl gY
    replace gH := keepheap hcl gH
    replace gP := keepheap hcl gP
    replace HP := hid (HP.out.below hcl)
    replace HQ := hid (HQ.out.below hcl)
    replace PH := hid (PH.out.below hcl)
    replace hB := btrans hB hcl
    clear hcl
    obtain ⟨k36_0, k36_1, _, _⟩ := cell2g gS
    obtain ⟨k37_0, k37_1, _, _⟩ := cell2g gT
    obtain ⟨k38_0, k38_1, k38_2, k38_3, _, _, _, _⟩ := cell4 gX
    obtain ⟨k39_0, k39_1, k39_2, k39_3, _, _, _, _⟩ := cell4 gY
    obtain ⟨k40_0, k40_1, _, _⟩ := cell2g gH
    obtain ⟨k41_0, k41_1, _, _⟩ := cell2g gP
    go_wp2_with fail
    clear k36_0 k36_1 k37_0 k37_1 k38_0 k38_1 k38_2 k38_3 k39_0 k39_1 k39_2 k39_3 k40_0 k40_1 k41_0 k41_1
    have hal := balloc (Below.refl y13.heap.size y13) (.cells #[.int .i64 px, .int .i64 py] 25)
    refine (D3.out _ _ (PH.out.below hal) (pts1 (newcell _ _ _ _ _ _ rfl rfl) (newcell _ _ _ _ _ _ rfl rfl))).mono ?_
    rintro e y14 ⟨rfl, hcl⟩
    replace hcl := btrans hal hcl
    clear hal
    replace gS := keepheap hcl gS
    replace gT := keepheap hcl gT
    replace gX := keepheap hcl gX
    replace gY := keepheap hcl gY
    replace gH := keepheap hcl gH
    replace gP := keepheap hcl gP
    replace HP := hid (HP.out.below hcl)
    replace HQ := hid (HQ.out.below hcl)
    replace PH := hid (PH.out.below hcl)
    replace hB := btrans hB hcl
    clear hcl
    clear PH D1 D2 D3
    obtain ⟨k42_0, k42_1, _, _⟩ := cell2g gS
    obtain ⟨k43_0, k43_1, _, _⟩ := cell2g gT
    obtain ⟨k44_0, k44_1, k44_2, k44_3, _, _, _, _⟩ := cell4 gX
    obtain ⟨k45_0, k45_1, k45_2, k45_3, _, _, _, _⟩ := cell4 gY
    · skip
      obtain ⟨hself, hin⟩ := LO.out (by simp)
      have E8 := C8.out
      rw [hself] at E8
      have E9 := C9.out x0 x1 x2 x3
      rw [hin] at E9
      have HE8 := hid E8
      have HE9 := hid E9
      have HOW := hid (fun i (hi : i < ps.length) w' (h1 : Pts w' ao ps) => has_own kd ao cp ps w' hm hc h1 HOK.out i hi)
      clear E8 E9 hself hin
      go_wp2_with fail
      go_loopw [13] (fun ti wr => ∃ j : Nat, ti = .int .i64 j ∧ j ≤ ps.length ∧ Below y14.heap.size y14 wr) (fun ti _ => ps.length - (intOf ti).toNat)
      case atStart => exact ⟨0, rfl, Nat.zero_le _, Below.refl _ _⟩
      case round =>
        obtain ⟨j, rfl, hj, hcl⟩ := hrel
        have hcr := hcl
        clear k42_0 k42_1 k43_0 k43_1 k44_0 k44_1 k44_2 k44_3 k45_0 k45_1 k45_2 k45_3
        replace gS := keepheap hcl gS
        replace gT := keepheap hcl gT
        replace gX := keepheap hcl gX
        replace gY := keepheap hcl gY
        replace HP := hid (HP.out.below hcl)
        replace HQ := hid (HQ.out.below hcl)
        replace hB := btrans hB hcl
        clear hcl
        obtain ⟨k46_0, k46_1, _, _⟩ := cell2g gS
        obtain ⟨k47_0, k47_1, _, _⟩ := cell2g gT
        obtain ⟨k48_0, k48_1, k48_2, k48_3, _, _, _, _⟩ := cell4 gX
        obtain ⟨k49_0, k49_1, k49_2, k49_3, _, _, _, _⟩ := cell4 gY
        by_cases hlt : j < ps.length
        · skip
          have c1 : (j : Int) < (ps.length : Int) := by omega
          have c0 : (0 : Int) ≤ (j : Int) := by omega
          have hown := HOW.out j hlt
          obtain ⟨pb, off, rfl, hps, hpa⟩ : ∃ pb off, ao = some ⟨pb, off, none⟩ ∧ pb < wr.heap.size ∧ PtsAt wr pb off ps := by
            rcases HP.out with h | h
            · rw [h] at hlt; simp at hlt
            · exact h
          obtain ⟨d0, d1⟩ := hpa j hlt
          generalize (ps.getD j (0, 0)).1 = ux at *
          generalize (ps.getD j (0, 0)).2 = uy at *
          have HWN := hid hown
          clear hpa hown
          clear k46_0 k46_1 k47_0 k47_1 k48_0 k48_1 k48_2 k48_3 k49_0 k49_1 k49_2 k49_3
          obtain ⟨k50_0, k50_1, _, _⟩ := cell2g gS
          obtain ⟨k51_0, k51_1, _, _⟩ := cell2g gT
          obtain ⟨k52_0, k52_1, k52_2, k52_3, _, _, _, _⟩ := cell4 gX
          obtain ⟨k53_0, k53_1, k53_2, k53_3, _, _, _, _⟩ := cell4 gY
          go_wp2_with fail
          clear k50_0 k50_1 k51_0 k51_1 k52_0 k52_1 k52_2 k52_3 k53_0 k53_1 k53_2 k53_3
          refine wp_region_held_drew (S := (fun w' => w'.heap[S]? = some (.cells #[.int .i64 kd, .slice (some ⟨pb, off, none⟩) ps.length cp] 52 (0, 0)) ∧ w'.cell? ⟨pb, off + j * 2, none⟩ = some (.int .i64 ux) ∧ w'.cell? ⟨pb, off + j * 2 + 1, none⟩ = some (.int .i64 uy))) (by kernel_rfl) ?_ (fun hHeld => ?_)
          · exact ⟨gS, d0, d1⟩
          refine wpAnyH_take (i := 0) (v := ?_) rfl (by kernel_rfl) (by kernel_rfl) (by kernel_rfl) (fun _ _ _ h => h) (Or.inl ⟨by rfl, ?_⟩) hHeld ?_
          rotate_left
          · intro w hSw; (try dsimp only at hSw); obtain ⟨gs, u0, u1⟩ := hSw; obtain ⟨_, _, _, _⟩ := cell2g gs; go_simp; try (with_reducible rfl)
          try simp only [sq]
          refine wpAnyH_take (i := 1) (v := ?_) rfl (by kernel_rfl) (by kernel_rfl) (by kernel_rfl) (fun _ _ _ h => h) (Or.inl ⟨by rfl, ?_⟩) hHeld ?_
          rotate_left
          · intro w hSw; (try dsimp only at hSw); go_simp; try (with_reducible rfl)
          try simp only [sq]
          refine wpAnyH_take (i := 2) (v := ?_) rfl (by kernel_rfl) (by kernel_rfl) (by kernel_rfl) (fun _ _ _ h => h) (Or.inl ⟨by rfl, ?_⟩) hHeld ?_
          rotate_left
          · intro w hSw; (try dsimp only at hSw); obtain ⟨gs, u0, u1⟩ := hSw; obtain ⟨_, _, _, _⟩ := cell2g gs; go_simp; try (with_reducible rfl)
          try simp only [sq]
          refine wpAnyH_take (i := 3) (v := ?_) rfl (by kernel_rfl) (by kernel_rfl) (by kernel_rfl) (fun _ _ _ h => h) (Or.inl ⟨by rfl, ?_⟩) hHeld ?_
          rotate_left
          · intro w hSw; (try dsimp only at hSw); go_simp; try (with_reducible rfl)
          try simp only [sq]
          refine wpAnyH_take (i := 4) (v := ?_) rfl (by kernel_rfl) (by kernel_rfl) (by kernel_rfl) (fun _ _ _ h => h) (Or.inl ⟨by rfl, ?_⟩) hHeld ?_
          rotate_left
          · intro w hSw; (try dsimp only at hSw); go_simp; try (with_reducible rfl)
          try simp only [sq]
          refine wpAnyH_take (i := 5) (v := ?_) rfl (by kernel_rfl) (by kernel_rfl) (by kernel_rfl) (fun _ _ _ h => h) (Or.inl ⟨by rfl, ?_⟩) hHeld ?_
          rotate_left
          · intro w hSw; (try dsimp only at hSw); obtain ⟨gs, u0, u1⟩ := hSw; obtain ⟨_, _, _, _⟩ := cell2g gs; go_simp; try (with_reducible rfl)
          try simp only [sq]
          refine wpAnyH_ready (rs := [6]) (by kernel_rfl) (by simp) ?_
          refine AllReadyH.cons rfl (fun K hK => ?_) AllReadyH.nil
          try simp only [sq]
          go_simp
          go_at_call 51
          refine (HWN.out _ (HP.out.below (bdrew (Below.refl _ _)))).mono ?_
          rintro e u1 ⟨rfl, hcu⟩
          go_wp2_with fail
          refine hK.out _ _ ?_ (fun hHeld => ?_)
          · exact ⟨keepheap hcu hHeld.1, keepcell hcu hHeld.2.1, keepcell hcu hHeld.2.2⟩
          clear hK K
          try simp only [sq]
          refine wpAnyH_take (i := 7) (v := ?_) rfl (by kernel_rfl) (by kernel_rfl) (by kernel_rfl) (fun _ _ _ h => h) (Or.inl ⟨by rfl, ?_⟩) hHeld ?_
          rotate_left
          · intro w hSw; (try dsimp only at hSw); go_simp; try (with_reducible rfl)
          try simp only [sq]
          refine wpAnyH_done (by kernel_rfl) ?_ _
          clear hHeld
          go_wp2_with fail
          go_roundw
          case rel => exact ⟨j + 1, by go_num, by omega, btrans (bdrew hcr) hcu⟩
          case measure => simp [intOf]; omega
        · skip
          have c1 : ¬ (j : Int) < (ps.length : Int) := by omega
          go_wp2_with fail
          refine (HE8.out _ HP.out).mono ?_
          rintro e y15 ⟨rfl, hcl⟩
          clear k46_0 k46_1 k47_0 k47_1 k48_0 k48_1 k48_2 k48_3 k49_0 k49_1 k49_2 k49_3
          replace gS := keepheap hcl gS
          replace gT := keepheap hcl gT
          replace gX := keepheap hcl gX
          replace gY := keepheap hcl gY
          replace HP := hid (HP.out.below hcl)
          replace HQ := hid (HQ.out.below hcl)
          replace hB := btrans hB hcl
          clear hcl
          obtain ⟨k50_0, k50_1, _, _⟩ := cell2g gS
          obtain ⟨k51_0, k51_1, _, _⟩ := cell2g gT
          obtain ⟨k52_0, k52_1, k52_2, k52_3, _, _, _, _⟩ := cell4 gX
          obtain ⟨k53_0, k53_1, k53_2, k53_3, _, _, _, _⟩ := cell4 gY
          go_wp2_with fail
          refine (HE9.out _ HP.out).mono ?_
          rintro e y16 ⟨rfl, hcl⟩
          clear k50_0 k50_1 k51_0 k51_1 k52_0 k52_1 k52_2 k52_3 k53_0 k53_1 k53_2 k53_3
          replace gS := keepheap hcl gS
          replace gT := keepheap hcl gT
          replace gX := keepheap hcl gX
          replace gY := keepheap hcl gY
          replace HP := hid (HP.out.below hcl)
          replace HQ := hid (HQ.out.below hcl)
          replace hB := btrans hB hcl
          clear hcl
          obtain ⟨k54_0, k54_1, _, _⟩ := cell2g gS
          obtain ⟨k55_0, k55_1, _, _⟩ := cell2g gT
          obtain ⟨k56_0, k56_1, k56_2, k56_3, _, _, _, _⟩ := cell4 gX
          obtain ⟨k57_0, k57_1, k57_2, k57_3, _, _, _, _⟩ := cell4 gY
          go_wp2_with fail
          go_ret
          exact ⟨rfl, hB⟩
set_option maxRecDepth 100000 in
theorem lifted (os : Os) (started : os.Started) (H : Type) (enc : TypeId × Value → H) :
    ReturnsInHanded {} Try.checked os 7 .any (Rows.fnMeetSpec.pre6 enc Try.prog Try.f7 Rows.fnMeetRow.domain false) (Rows.fnMeetSpec.post enc Try.prog Try.f7 false true false false) := by
  refine returnsInHanded_of_change (C := Try.checked) own started (by kernel_rfl) Try.func7
    (ChangeSpec.witness6 (enc := enc) (C := Try.checked) false ⟨#[], #[.slice none 0 0], []⟩ 8 (by kernel_rfl) (by kernel_rfl) (by kernel_rfl) (by kernel_rfl)) ?_
  intro W base args ds gs before hval0 hW hcnd _
  have hval : ∀ (j : Nat) t v, Try.f7.params[j]? = some t → args[j]? = some v → Value.okWide Try.prog W .any base t v := hval0
  have hW' := hW
  obtain ⟨p, q, hA0, hV, rfl, hfz, hnd⟩ := hW
  have hA : DataW.TrodAll enc Try.prog W 0 (fun _ => true) true Try.f7.params.toList args.toList ds p := hA0
  rw [Try.params7] at hA hval
  obtain ⟨v0, vs0, d0, ds0, p0, q0, hargs, rfl, rfl, h0, r0⟩ := trodAll_cons hA
  obtain ⟨rfl, rfl, rfl⟩ := trodAll_nil r0
  obtain rfl : args = #[v0] := by cases args; simp_all
  obtain ⟨rfl, rfl⟩ := trodVars_none hV
  have k0 := h0
  have lt0 : ∀ x ∈ p0, x.block < W.heap.size := by obtain ⟨m, hm⟩ := k0; exact DataW.trod_lt m _ _ _ hm
  obtain ⟨a0, len0, cap0, rfl⟩ := okWide_slice Try.underlying22 (hval 0 22 v0 rfl rfl)
  obtain ⟨z0, w0⟩ : ∃ zs, IsRow .u8 W a0 len0 cap0 zs := by
    obtain ⟨fuel, hf⟩ := h0
    rcases open_ints Try.underlying22 Try.underlying5 (by kernel_rfl) hf with ⟨hcs, _⟩ | ⟨x, l, c, zs, hcs, _, hl, hm, hz, _, hcell, hwz⟩
    · simp [Value.cells] at hcs
      obtain ⟨rfl, rfl, rfl⟩ := hcs
      exact ⟨[], .inl ⟨rfl, rfl, rfl, rfl⟩⟩
    · simp [Value.cells] at hcs
      obtain ⟨rfl, rfl, rfl⟩ := hcs
      exact ⟨zs, .inr ⟨_, rfl, hl, hm, by simpa using hz, hcell, hwz⟩⟩
  clear hA0 hval0
  refine (walk a0 len0 cap0 z0 W w0).mono fun e W' ⟨he, bel⟩ => ?_
  subst he
  exact ⟨_, rfl, _, _, _, [], _, [], hW', trodAll_mk1 (shut_bool Try.underlying4 _), (trodAll_cons_mk (Below.trod laidOut (by kernel_rfl) (of_decide_eq_true (by kernel_rfl)) k0 bel lt0) trodAll_mk0), rfl, bel.frame _, fun h => by cases h⟩
theorem band {a b : Bool} (h1 : a = true) (h2 : b = true) : (a && b) = true := by rw [h1, h2]; rfl
set_option maxRecDepth 100000 in
theorem q1 : (Rows.fnMeetRow.wf (OpenSpec.ofChange Rows.fnMeetSpec)) = true := by kernel_rfl
set_option maxRecDepth 100000 in
theorem q2 : (laidOutB Try.pinned.checked.prog) = true := sh2
set_option maxRecDepth 100000 in
theorem q3 : (mapsRowed Try.pinned.checked.prog) = true := sh3
set_option maxRecDepth 100000 in
theorem q4 : (Try.f7.params.all (Try.pinned.checked.prog.readableRec ·)) = true := by kernel_rfl
set_option maxRecDepth 100000 in
theorem q5 : (namedTie Try.pinned.checked.prog Rows.fnMeetRow.named Rows.fnMeetSpec.vars) = true := by kernel_rfl
set_option maxRecDepth 100000 in
theorem q6 : ((Rows.fnMeetRow.stops == [])) = true := by kernel_rfl
set_option maxRecDepth 100000 in
theorem q7 : ((Try.pinned.checked.prog.stops == [])) = true := sh7
set_option maxRecDepth 100000 in
theorem q8 : ((Rows.fnMeetRow.knobs == [])) = true := by kernel_rfl
set_option maxRecDepth 100000 in
theorem q9 : ((Try.pinned.checked.prog.stopKnobs == [])) = true := sh9
set_option maxRecDepth 100000 in
theorem q10 : ((Rows.fnMeetRow.inPlace == Try.pinned.checked.prog.inPlace 7)) = true := by kernel_rfl
set_option maxRecDepth 100000 in
theorem q11 : ((Rows.fnMeetRow.unfollowed == Try.pinned.checked.prog.unfollowed 7)) = true := by kernel_rfl
set_option maxRecDepth 100000 in
theorem q12 : ((Rows.fnMeetRow.recurses == Try.pinned.checked.prog.recurses 7)) = true := by kernel_rfl
set_option maxRecDepth 100000 in
theorem q13 : ((Rows.fnMeetRow.named == Try.pinned.checked.prog.varsNamed 7)) = true := by kernel_rfl
set_option maxRecDepth 100000 in
theorem q14 : ((Rows.fnMeetRow.maps == (Try.f7.params.toList ++ Rows.fnMeetSpec.plain.varTypes Try.pinned.checked.prog).any (Try.pinned.checked.prog.mapsRec ·))) = true := by kernel_rfl
set_option maxRecDepth 100000 in
theorem q15 : ((Rows.fnMeetRow.ifaces == (Try.f7.params.toList ++ Rows.fnMeetSpec.plain.varTypes Try.pinned.checked.prog).any (Try.pinned.checked.prog.ifacesRec ·))) = true := by kernel_rfl
set_option maxRecDepth 100000 in
theorem q16 : ((Rows.fnMeetRow.mapsOut == Try.pinned.checked.prog.mapsAmong Try.f7.resultTypes.toList)) = true := by kernel_rfl
set_option maxRecDepth 100000 in
theorem q17 : ((Rows.fnMeetRow.loops == (Try.f7.params.toList ++ Rows.fnMeetSpec.plain.varTypes Try.pinned.checked.prog).any (Try.pinned.checked.prog.loopsFrom ·))) = true := by kernel_rfl
set_option maxRecDepth 100000 in
theorem q18 : ((Rows.fnMeetRow.wideKeys == (Try.f7.params.toList ++ Rows.fnMeetSpec.plain.varTypes Try.pinned.checked.prog ++ Try.f7.resultTypes.toList).any (Try.pinned.checked.prog.wideKeysFrom ·))) = true := by kernel_rfl
set_option maxRecDepth 100000 in
theorem q19 : (Rows.fnMeetSpec.vars.all (Try.pinned.checked.prog.varReadable ·)) = true := by kernel_rfl
set_option maxRecDepth 100000 in
theorem q20 : (Try.f7.resultTypes.all (fun t => Try.pinned.checked.prog.readableRec t && decide (t < Try.pinned.checked.prog.types.size))) = true := by kernel_rfl
set_option maxRecDepth 100000 in
theorem q21 : ((Rows.fnMeetRow.ifacesOut == Try.f7.resultTypes.toList.any (Try.pinned.checked.prog.ifacesRec ·))) = true := by kernel_rfl
set_option maxRecDepth 100000 in
theorem q22 : ((Rows.fnMeetRow.loopsOut == Try.f7.resultTypes.toList.any (Try.pinned.checked.prog.loopsFrom ·))) = true := by kernel_rfl
set_option maxRecDepth 100000 in
theorem q23 : ((Rows.fnMeetRow.plainKeys == Try.pinned.checked.prog.plainKeys)) = true := sh23
set_option maxRecDepth 100000 in
theorem q24 : (Rows.fnMeetRow.shortTexts.isNone) = true := by kernel_rfl
set_option maxRecDepth 100000 in
theorem q25 : (Try.pinned.checked.prog.stopsHeard) = true := sh25
set_option maxRecDepth 100000 in
theorem q26 : (Try.pinned.checked.prog.mayEnter) = true := sh26
set_option maxRecDepth 100000 in
theorem q27 : ((Rows.fnMeetRow.lifted == Try.pinned.checked.prog.liftsFinal)) = true := sh27
set_option maxRecDepth 100000 in
theorem q28 : ((Try.pinned.checked.prog.make == some Rows.fnMeetRow.make)) = true := sh28
set_option maxRecDepth 100000 in
theorem q29 : ((Rows.fnMeetRow.kinds == (if Rows.fnMeetRow.domain.isEmpty then [] else Try.f7.params.toList.map fun t => match Try.pinned.checked.prog.underlying t with | some (.int k) => some k | _ => none))) = true := by kernel_rfl
set_option maxRecDepth 100000 in
theorem q30 : ((Rows.fnMeetRow.pinned == Rows.fnMeetRow.pinnedBy)) = true := by kernel_rfl
set_option maxRecDepth 100000 in
theorem q31 : ((Rows.fnMeetRow.veiled == (Try.f7.params.toList ++ Rows.fnMeetSpec.plain.varTypes Try.pinned.checked.prog ++ Try.f7.resultTypes.toList).any (Try.pinned.checked.prog.veiledRec ·))) = true := by kernel_rfl
set_option maxRecDepth 100000 in
theorem q32 : (Rows.fnMeetRow.veiledFits Try.pinned.checked.prog Try.f7.params.toList (Try.f7.params.toList ++ Rows.fnMeetSpec.plain.varTypes Try.pinned.checked.prog ++ Try.f7.resultTypes.toList)) = true := by kernel_rfl
set_option maxRecDepth 100000 in
theorem closed : joinedFacts Try.pinned.checked.prog 7 Try.f7 Rows.fnMeetSpec Rows.fnMeetRow = true := by
  unfold joinedFacts
  exact (band (band (band (band (band (band (band (band (band (band (band (band (band (band (band (band (band (band (band (band (band (band (band (band (band (band (band (band (band (band (band q1 q2) q3) q4) q5) q6) q7) q8) q9) q10) q11) q12) q13) q14) q15) q16) q17) q18) q19) q20) q21) q22) q23) q24) q25) q26) q27) q28) q29) q30) q31) q32)
set_option maxRecDepth 100000 in
theorem over : Rows.fnMeetRow.holds Try.pinned (OpenSpec.ofChange Rows.fnMeetSpec) :=
  OpenClaim.holds_of_wide 7 Try.f7 rfl rfl rfl rfl rfl rfl rfl ⟨rfl, rfl, rfl, rfl, rfl⟩ rfl rfl rfl rfl rfl (by kernel_rfl) Try.func7 closed
    (of_decide_eq_true (by kernel_rfl)) (by unfold Func.isWrapper; first | (rw [if_pos (by decide +kernel)]; kernel_rfl) | (rw [if_neg (by decide +kernel)]; exact ⟨rfl, rfl⟩))
    (fun os started H enc _ => lifted os started H enc)
end Go.Proofs.Ytkncdncpgjpemaa.fnMeet
namespace Go.Proofs.Ytkncdncpgjpemaa
theorem fnMeet_holds : Rows.FnMeetSaid := fnMeet.over
#print axioms fnMeet_holds
end Go.Proofs.Ytkncdncpgjpemaa
