/- For every code, of the tile and the point that it draws: the landed TileUp, TileOf, TileKey, TileOk and TileDown answer as the specification's; each tile is one of the four that its parent is made of, once, and its square is within the parent's; the tile of a point has it, and what is above it is the one of the level ahead; the table of the tiles' sides holds what the program's text lays. -/
import Derived.Test.YtncnppkpkemajaaDoorCards
import Derived.Test.YtncnppkpkemajaaDoorTie
import Derived.Test.YtncnppkpkemajaaDoorTileF
import Derived.WalkKit
import Derived.Deep.DeepCutAuto
import Derived.ProofKit
import Derived.OpenShut
import Derived.ShutString
import Derived.ChangeOld
import Derived.Below
import Derived.Carry
import Derived.OpenVars
import Derived.Lib.SmallJoins
import Derived.Deep.SlicePairs
import Derived.Deep.DeepHandedRow
import Derived.Lib.LaidTab
import Derived.Stop.LaidErr
namespace Go.Proofs.YtncnppkpkemajaaDoor.fnTiles
open Go.ChangeShapes Go.WideShapes Go.ChangeAt Go.RowKit Go.Joins
set_option linter.unusedVariables false
set_option linter.unusedSimpArgs false
theorem own : ownKnob Tryd.prog.godebug = none := by kernel_rfl
theorem laidOut : laidOutB Tryd.prog = true := by kernel_rfl
set_option maxRecDepth 100000 in
set_option maxHeartbeats 4000000 in
theorem walk (a0 : Option Addr) (len0 cap0 : Nat) (z0 : List Int) (w : World) (w0 : IsRow .u8 w a0 len0 cap0 z0) (hT : Tab w) :
    Calls Tryd.prog 3 #[.slice a0 len0 cap0] w fun e w' => e = .returned (.bool true) ∧ Below w.heap.size w w' := by
  have HT := hid hT
  clear hT
  have hlen := len_of w0
  by_cases hbig : len0 ≤ 1048576
  rotate_left
  · have hd : 1048576 < (len0 : Int) := by omega
    clear w0
    go_enter Tryd.func3, Tryd.ntmps3
    go_wp2_with (go_at_call 10; go_in)
    go_ret
    exact ⟨rfl, Below.refl _ _⟩
  have hc := code_of w0 hbig
  have hd : (len0 : Int) ≤ 1048576 := by omega
  have HC := hid hc
  clear hc w0
  go_enter Tryd.func3, Tryd.ntmps3
  go_wp2_with (go_at_call 10; go_in)
  refine (draw_tileup _ a0 len0 cap0 HC.out).mono ?_
  rintro e y0 ⟨l, c, r, rfl, hB⟩
  replace HT := hid (HT.out.below hB)
  have CU := hid (fun w' (h : Tab w') => impl_tileup l c r w' h)
  have CUs := hid (fun w' => spec_tileup l c r w')
  have CK := hid (fun w' (h : Tab w') => impl_tilekey l c r w' h)
  have CKs := hid (fun w' => spec_tilekey l c r w')
  have CO := hid (fun w' (h : Tab w') => tileokI l c r w' h)
  have COs := hid (fun w' => tileokB l c r w')
  have CD := hid (fun w' (h : Tab w') => impl_tiledown l c r w' h)
  have CDs := hid (fun w' => spec_tiledown l c r w')
  have CB := hid (fun w' (h : Tab w') => impl_tilebox l c r w' h)
  have CBu := hid (fun w' (h : Tab w') => impl_tilebox (upl l c r) (upc l c r) (upr l c r) w' h)
  have CDu := hid (fun w' (h : Tab w') => impl_tiledown (upl l c r) (upc l c r) (upr l c r) w' h)
  have FN := hid (fun (h : upok l c r = false) => up_none h)
  have FD := hid (fun (h : upok l c r = true) => up_dn h)
  have FB := hid (fun (h : upok l c r = true) => up_box h)
  have FK := hid (fun j (hj : j < dnn l c r) => dn_up l c r j hj)
  have hzl := dn_len l c r
  have hn4 : dnn l c r ≤ 4 := by unfold dnn; split <;> omega
  have hzu := dn_len (upl l c r) (upc l c r) (upr l c r)
  have hnu : dnn (upl l c r) (upc l c r) (upr l c r) ≤ 4 := by unfold dnn; split <;> omega
  generalize dn (upl l c r) (upc l c r) (upr l c r) = zu at *
  generalize dnn (upl l c r) (upc l c r) (upr l c r) = nu at *
  generalize tbx (upl l c r) (upc l c r) (upr l c r) = e0 at *
  generalize tby (upl l c r) (upc l c r) (upr l c r) = e1 at *
  generalize tbu (upl l c r) (upc l c r) (upr l c r) = e2 at *
  generalize tbv (upl l c r) (upc l c r) (upr l c r) = e3 at *
  generalize upl l c r = u0 at *
  generalize upc l c r = u1' at *
  generalize upr l c r = u2' at *
  generalize upok l c r = uo at *
  generalize dn l c r = zs at *
  generalize dnn l c r = n at *
  generalize tkey l c r = key at *
  generalize tok l c r = tk' at *
  generalize tbx l c r = b0 at *
  generalize tby l c r = b1 at *
  generalize tbu l c r = b2 at *
  generalize tbv l c r = b3 at *
  go_wp2_with fail
  have gT := (new_alloc y0 (y0.heap.size) (.cells #[.int .i64 l, .int .i64 c, .int .i64 r] 25) (by simp))
  have hal : Below y0.heap.size y0 (y0.alloc (.cells #[.int .i64 l, .int .i64 c, .int .i64 r] 25)) := (balloc (Below.refl _ _) (.cells #[.int .i64 l, .int .i64 c, .int .i64 r] 25))
  replace HT := hid (HT.out.below hal)
  replace hB := btrans hB hal
  clear hal
  generalize (y0.alloc (.cells #[.int .i64 l, .int .i64 c, .int .i64 r] 25)) = y1 at *
  generalize y0.heap.size = T at *
  refine (CU.out _ HT.out).mono ?_
  rintro e y2 ⟨rfl, hcl⟩
  replace gT := keepheap' hcl gT
  replace HT := hid (HT.out.below hcl)
  replace hB := btrans hB hcl
  clear hcl
  obtain ⟨k1_0, k1_1, k1_2, _, _, _⟩ := cellT gT
  have ak1_0 := (keepalloc k1_0 (.cells #[.int .i64 u0, .int .i64 u1', .int .i64 u2'] 25))
  have ak1_1 := (keepalloc k1_1 (.cells #[.int .i64 u0, .int .i64 u1', .int .i64 u2'] 25))
  have ak1_2 := (keepalloc k1_2 (.cells #[.int .i64 u0, .int .i64 u1', .int .i64 u2'] 25))
  go_wp2_with fail
  clear k1_0 k1_1 k1_2 ak1_0 ak1_1 ak1_2
  replace gT := (old_alloc (o' := .cells #[.int .i64 u0, .int .i64 u1', .int .i64 u2'] 25) gT)
  have gU := (new_alloc y2 (y2.heap.size) (.cells #[.int .i64 u0, .int .i64 u1', .int .i64 u2'] 25) (by simp))
  have hal : Below y2.heap.size y2 (y2.alloc (.cells #[.int .i64 u0, .int .i64 u1', .int .i64 u2'] 25)) := (balloc (Below.refl _ _) (.cells #[.int .i64 u0, .int .i64 u1', .int .i64 u2'] 25))
  replace HT := hid (HT.out.below hal)
  replace hB := btrans hB hal
  clear hal
  generalize (y2.alloc (.cells #[.int .i64 u0, .int .i64 u1', .int .i64 u2'] 25)) = y3 at *
  generalize y2.heap.size = U at *
  refine (CUs.out _).mono ?_
  rintro e y4 ⟨rfl, hcl⟩
  replace gT := keepheap' hcl gT
  replace gU := keepheap' hcl gU
  replace HT := hid (HT.out.below hcl)
  replace hB := btrans hB hcl
  clear hcl
  obtain ⟨k2_0, k2_1, k2_2, _, _, _⟩ := cellT gT
  obtain ⟨k3_0, k3_1, k3_2, _, _, _⟩ := cellT gU
  have ak2_0 := (keepalloc k2_0 (.cells #[.int .i64 u0, .int .i64 u1', .int .i64 u2'] 25))
  have ak2_1 := (keepalloc k2_1 (.cells #[.int .i64 u0, .int .i64 u1', .int .i64 u2'] 25))
  have ak2_2 := (keepalloc k2_2 (.cells #[.int .i64 u0, .int .i64 u1', .int .i64 u2'] 25))
  have ak3_0 := (keepalloc k3_0 (.cells #[.int .i64 u0, .int .i64 u1', .int .i64 u2'] 25))
  have ak3_1 := (keepalloc k3_1 (.cells #[.int .i64 u0, .int .i64 u1', .int .i64 u2'] 25))
  have ak3_2 := (keepalloc k3_2 (.cells #[.int .i64 u0, .int .i64 u1', .int .i64 u2'] 25))
  go_wp2_with fail
  clear k2_0 k2_1 k2_2 k3_0 k3_1 k3_2 ak2_0 ak2_1 ak2_2 ak3_0 ak3_1 ak3_2
  replace gT := (old_alloc (o' := .cells #[.int .i64 u0, .int .i64 u1', .int .i64 u2'] 25) gT)
  replace gU := (old_alloc (o' := .cells #[.int .i64 u0, .int .i64 u1', .int .i64 u2'] 25) gU)
  have gV := (new_alloc y4 (y4.heap.size) (.cells #[.int .i64 u0, .int .i64 u1', .int .i64 u2'] 25) (by simp))
  have hal : Below y4.heap.size y4 (y4.alloc (.cells #[.int .i64 u0, .int .i64 u1', .int .i64 u2'] 25)) := (balloc (Below.refl _ _) (.cells #[.int .i64 u0, .int .i64 u1', .int .i64 u2'] 25))
  replace HT := hid (HT.out.below hal)
  replace hB := btrans hB hal
  clear hal
  generalize (y4.alloc (.cells #[.int .i64 u0, .int .i64 u1', .int .i64 u2'] 25)) = y5 at *
  generalize y4.heap.size = V at *
  refine (draw_tileof _ a0 len0 cap0 ((HC.out.below hB).mono hB.size)).mono ?_
  rintro e z1 ⟨x, y, m, rfl, hcl⟩
  replace gT := keepheap' hcl gT
  replace gU := keepheap' hcl gU
  replace gV := keepheap' hcl gV
  replace HT := hid (HT.out.below hcl)
  replace hB := btrans hB hcl
  clear hcl
  have OO := hid (fun w' (h : Tab w') => impl_tileof x y m w' h)
  have OOs := hid (fun w' => spec_tileof x y m w')
  have OB := hid (fun w' (h : Tab w') => impl_tilebox (ofl x y m) (ofc x y m) (ofr x y m) w' h)
  have OU := hid (fun w' (h : Tab w') => impl_tileup (ofl x y m) (ofc x y m) (ofr x y m) w' h)
  have OA := hid (fun w' (h : Tab w') => impl_tileof x y (m - 1) w' h)
  have OF : Hid (ofok x y m = true → 0 ≤ m ∧ m ≤ 8 ∧ tbx (ofl x y m) (ofc x y m) (ofr x y m) ≤ x ∧ x ≤ tbu (ofl x y m) (ofc x y m) (ofr x y m) ∧ tby (ofl x y m) (ofc x y m) (ofr x y m) ≤ y ∧ y ≤ tbv (ofl x y m) (ofc x y m) (ofr x y m) ∧ (upok (ofl x y m) (ofc x y m) (ofr x y m) = true → upl (ofl x y m) (ofc x y m) (ofr x y m) = ofl x y (m - 1) ∧ upc (ofl x y m) (ofc x y m) (ofr x y m) = ofc x y (m - 1) ∧ upr (ofl x y m) (ofc x y m) (ofr x y m) = ofr x y (m - 1))) := hid (fun h => by
    obtain ⟨o1, o2, o3, o4, o5, o6, o7⟩ := of_parts h
    have hl : 0 ≤ m ∧ m ≤ 8 := by simp [ofok, lok] at h; omega
    rw [o1]
    exact ⟨hl.1, hl.2, o3, o4, o5, o6, o7⟩)
  generalize tbx (ofl x y m) (ofc x y m) (ofr x y m) = f0 at *
  generalize tby (ofl x y m) (ofc x y m) (ofr x y m) = f1 at *
  generalize tbu (ofl x y m) (ofc x y m) (ofr x y m) = f2 at *
  generalize tbv (ofl x y m) (ofc x y m) (ofr x y m) = f3 at *
  generalize upl (ofl x y m) (ofc x y m) (ofr x y m) = v0 at *
  generalize upc (ofl x y m) (ofc x y m) (ofr x y m) = v1 at *
  generalize upr (ofl x y m) (ofc x y m) (ofr x y m) = v2 at *
  generalize upok (ofl x y m) (ofc x y m) (ofr x y m) = vo at *
  generalize ofl x y m = q0 at *
  generalize ofc x y m = q1 at *
  generalize ofr x y m = q2 at *
  generalize ofok x y m = fine at *
  generalize ofl x y (m - 1) = t0 at *
  generalize ofc x y (m - 1) = t1 at *
  generalize ofr x y (m - 1) = t2 at *
  generalize ofok x y (m - 1) = tao at *
  obtain ⟨k4_0, k4_1, k4_2, _, _, _⟩ := cellT gT
  obtain ⟨k5_0, k5_1, k5_2, _, _, _⟩ := cellT gU
  obtain ⟨k6_0, k6_1, k6_2, _, _, _⟩ := cellT gV
  have ak4_0 := (keepalloc k4_0 (.cells #[.int .i64 x, .int .i64 y] 30))
  have ak4_1 := (keepalloc k4_1 (.cells #[.int .i64 x, .int .i64 y] 30))
  have ak4_2 := (keepalloc k4_2 (.cells #[.int .i64 x, .int .i64 y] 30))
  have ak5_0 := (keepalloc k5_0 (.cells #[.int .i64 x, .int .i64 y] 30))
  have ak5_1 := (keepalloc k5_1 (.cells #[.int .i64 x, .int .i64 y] 30))
  have ak5_2 := (keepalloc k5_2 (.cells #[.int .i64 x, .int .i64 y] 30))
  have ak6_0 := (keepalloc k6_0 (.cells #[.int .i64 x, .int .i64 y] 30))
  have ak6_1 := (keepalloc k6_1 (.cells #[.int .i64 x, .int .i64 y] 30))
  have ak6_2 := (keepalloc k6_2 (.cells #[.int .i64 x, .int .i64 y] 30))
  go_wp2_with fail
  clear k4_0 k4_1 k4_2 k5_0 k5_1 k5_2 k6_0 k6_1 k6_2 ak4_0 ak4_1 ak4_2 ak5_0 ak5_1 ak5_2 ak6_0 ak6_1 ak6_2
  replace gT := (old_alloc (o' := .cells #[.int .i64 x, .int .i64 y] 30) gT)
  replace gU := (old_alloc (o' := .cells #[.int .i64 x, .int .i64 y] 30) gU)
  replace gV := (old_alloc (o' := .cells #[.int .i64 x, .int .i64 y] 30) gV)
  have gP := (new_alloc z1 (z1.heap.size) (.cells #[.int .i64 x, .int .i64 y] 30) (by simp))
  have hal : Below z1.heap.size z1 (z1.alloc (.cells #[.int .i64 x, .int .i64 y] 30)) := (balloc (Below.refl _ _) (.cells #[.int .i64 x, .int .i64 y] 30))
  replace HT := hid (HT.out.below hal)
  replace hB := btrans hB hal
  clear hal
  generalize (z1.alloc (.cells #[.int .i64 x, .int .i64 y] 30)) = y6 at *
  generalize z1.heap.size = P at *
  refine (OO.out _ HT.out).mono ?_
  rintro e y7 ⟨rfl, hcl⟩
  replace gT := keepheap' hcl gT
  replace gU := keepheap' hcl gU
  replace gV := keepheap' hcl gV
  replace gP := keepheap' hcl gP
  replace HT := hid (HT.out.below hcl)
  replace hB := btrans hB hcl
  clear hcl
  obtain ⟨k7_0, k7_1, k7_2, _, _, _⟩ := cellT gT
  obtain ⟨k8_0, k8_1, k8_2, _, _, _⟩ := cellT gU
  obtain ⟨k9_0, k9_1, k9_2, _, _, _⟩ := cellT gV
  obtain ⟨k10_0, k10_1, _, _⟩ := cell2g gP
  have ak7_0 := (keepalloc k7_0 (.cells #[.int .i64 q0, .int .i64 q1, .int .i64 q2] 25))
  have ak7_1 := (keepalloc k7_1 (.cells #[.int .i64 q0, .int .i64 q1, .int .i64 q2] 25))
  have ak7_2 := (keepalloc k7_2 (.cells #[.int .i64 q0, .int .i64 q1, .int .i64 q2] 25))
  have ak8_0 := (keepalloc k8_0 (.cells #[.int .i64 q0, .int .i64 q1, .int .i64 q2] 25))
  have ak8_1 := (keepalloc k8_1 (.cells #[.int .i64 q0, .int .i64 q1, .int .i64 q2] 25))
  have ak8_2 := (keepalloc k8_2 (.cells #[.int .i64 q0, .int .i64 q1, .int .i64 q2] 25))
  have ak9_0 := (keepalloc k9_0 (.cells #[.int .i64 q0, .int .i64 q1, .int .i64 q2] 25))
  have ak9_1 := (keepalloc k9_1 (.cells #[.int .i64 q0, .int .i64 q1, .int .i64 q2] 25))
  have ak9_2 := (keepalloc k9_2 (.cells #[.int .i64 q0, .int .i64 q1, .int .i64 q2] 25))
  have ak10_0 := (keepalloc k10_0 (.cells #[.int .i64 q0, .int .i64 q1, .int .i64 q2] 25))
  have ak10_1 := (keepalloc k10_1 (.cells #[.int .i64 q0, .int .i64 q1, .int .i64 q2] 25))
  go_wp2_with fail
  clear k7_0 k7_1 k7_2 k8_0 k8_1 k8_2 k9_0 k9_1 k9_2 k10_0 k10_1 ak7_0 ak7_1 ak7_2 ak8_0 ak8_1 ak8_2 ak9_0 ak9_1 ak9_2 ak10_0 ak10_1
  replace gT := (old_alloc (o' := .cells #[.int .i64 q0, .int .i64 q1, .int .i64 q2] 25) gT)
  replace gU := (old_alloc (o' := .cells #[.int .i64 q0, .int .i64 q1, .int .i64 q2] 25) gU)
  replace gV := (old_alloc (o' := .cells #[.int .i64 q0, .int .i64 q1, .int .i64 q2] 25) gV)
  replace gP := (old_alloc (o' := .cells #[.int .i64 q0, .int .i64 q1, .int .i64 q2] 25) gP)
  have gQ := (new_alloc y7 (y7.heap.size) (.cells #[.int .i64 q0, .int .i64 q1, .int .i64 q2] 25) (by simp))
  have hal : Below y7.heap.size y7 (y7.alloc (.cells #[.int .i64 q0, .int .i64 q1, .int .i64 q2] 25)) := (balloc (Below.refl _ _) (.cells #[.int .i64 q0, .int .i64 q1, .int .i64 q2] 25))
  replace HT := hid (HT.out.below hal)
  replace hB := btrans hB hal
  clear hal
  generalize (y7.alloc (.cells #[.int .i64 q0, .int .i64 q1, .int .i64 q2] 25)) = y8 at *
  generalize y7.heap.size = Q at *
  refine (OOs.out _).mono ?_
  rintro e y9 ⟨rfl, hcl⟩
  replace gT := keepheap' hcl gT
  replace gU := keepheap' hcl gU
  replace gV := keepheap' hcl gV
  replace gP := keepheap' hcl gP
  replace gQ := keepheap' hcl gQ
  replace HT := hid (HT.out.below hcl)
  replace hB := btrans hB hcl
  clear hcl
  obtain ⟨k11_0, k11_1, k11_2, _, _, _⟩ := cellT gT
  obtain ⟨k12_0, k12_1, k12_2, _, _, _⟩ := cellT gU
  obtain ⟨k13_0, k13_1, k13_2, _, _, _⟩ := cellT gV
  obtain ⟨k14_0, k14_1, _, _⟩ := cell2g gP
  obtain ⟨k15_0, k15_1, k15_2, _, _, _⟩ := cellT gQ
  have ak11_0 := (keepalloc k11_0 (.cells #[.int .i64 q0, .int .i64 q1, .int .i64 q2] 25))
  have ak11_1 := (keepalloc k11_1 (.cells #[.int .i64 q0, .int .i64 q1, .int .i64 q2] 25))
  have ak11_2 := (keepalloc k11_2 (.cells #[.int .i64 q0, .int .i64 q1, .int .i64 q2] 25))
  have ak12_0 := (keepalloc k12_0 (.cells #[.int .i64 q0, .int .i64 q1, .int .i64 q2] 25))
  have ak12_1 := (keepalloc k12_1 (.cells #[.int .i64 q0, .int .i64 q1, .int .i64 q2] 25))
  have ak12_2 := (keepalloc k12_2 (.cells #[.int .i64 q0, .int .i64 q1, .int .i64 q2] 25))
  have ak13_0 := (keepalloc k13_0 (.cells #[.int .i64 q0, .int .i64 q1, .int .i64 q2] 25))
  have ak13_1 := (keepalloc k13_1 (.cells #[.int .i64 q0, .int .i64 q1, .int .i64 q2] 25))
  have ak13_2 := (keepalloc k13_2 (.cells #[.int .i64 q0, .int .i64 q1, .int .i64 q2] 25))
  have ak14_0 := (keepalloc k14_0 (.cells #[.int .i64 q0, .int .i64 q1, .int .i64 q2] 25))
  have ak14_1 := (keepalloc k14_1 (.cells #[.int .i64 q0, .int .i64 q1, .int .i64 q2] 25))
  have ak15_0 := (keepalloc k15_0 (.cells #[.int .i64 q0, .int .i64 q1, .int .i64 q2] 25))
  have ak15_1 := (keepalloc k15_1 (.cells #[.int .i64 q0, .int .i64 q1, .int .i64 q2] 25))
  have ak15_2 := (keepalloc k15_2 (.cells #[.int .i64 q0, .int .i64 q1, .int .i64 q2] 25))
  go_wp2_with fail
  clear k11_0 k11_1 k11_2 k12_0 k12_1 k12_2 k13_0 k13_1 k13_2 k14_0 k14_1 k15_0 k15_1 k15_2 ak11_0 ak11_1 ak11_2 ak12_0 ak12_1 ak12_2 ak13_0 ak13_1 ak13_2 ak14_0 ak14_1 ak15_0 ak15_1 ak15_2
  replace gT := (old_alloc (o' := .cells #[.int .i64 q0, .int .i64 q1, .int .i64 q2] 25) gT)
  replace gU := (old_alloc (o' := .cells #[.int .i64 q0, .int .i64 q1, .int .i64 q2] 25) gU)
  replace gV := (old_alloc (o' := .cells #[.int .i64 q0, .int .i64 q1, .int .i64 q2] 25) gV)
  replace gP := (old_alloc (o' := .cells #[.int .i64 q0, .int .i64 q1, .int .i64 q2] 25) gP)
  replace gQ := (old_alloc (o' := .cells #[.int .i64 q0, .int .i64 q1, .int .i64 q2] 25) gQ)
  have gR := (new_alloc y9 (y9.heap.size) (.cells #[.int .i64 q0, .int .i64 q1, .int .i64 q2] 25) (by simp))
  have hal : Below y9.heap.size y9 (y9.alloc (.cells #[.int .i64 q0, .int .i64 q1, .int .i64 q2] 25)) := (balloc (Below.refl _ _) (.cells #[.int .i64 q0, .int .i64 q1, .int .i64 q2] 25))
  replace HT := hid (HT.out.below hal)
  replace hB := btrans hB hal
  clear hal
  generalize (y9.alloc (.cells #[.int .i64 q0, .int .i64 q1, .int .i64 q2] 25)) = y10 at *
  generalize y9.heap.size = R at *
  refine wp_region_held_drew (S := (fun w' => w'.heap[T]? = some (.cells #[.int .i64 l, .int .i64 c, .int .i64 r] 25 (0, 0)) ∧ w'.heap[U]? = some (.cells #[.int .i64 u0, .int .i64 u1', .int .i64 u2'] 25 (0, 0)) ∧ w'.heap[V]? = some (.cells #[.int .i64 u0, .int .i64 u1', .int .i64 u2'] 25 (0, 0)) ∧ w'.heap[P]? = some (.cells #[.int .i64 x, .int .i64 y] 30 (0, 0)) ∧ w'.heap[Q]? = some (.cells #[.int .i64 q0, .int .i64 q1, .int .i64 q2] 25 (0, 0)) ∧ w'.heap[R]? = some (.cells #[.int .i64 q0, .int .i64 q1, .int .i64 q2] 25 (0, 0)))) (by kernel_rfl) ?_ (fun hHeld => ?_)
  · exact ⟨gT, gU, gV, gP, gQ, gR⟩
  replace gT : y10.drew.heap[T]? = some (.cells #[.int .i64 l, .int .i64 c, .int .i64 r] 25 (0, 0)) := gT
  replace gU : y10.drew.heap[U]? = some (.cells #[.int .i64 u0, .int .i64 u1', .int .i64 u2'] 25 (0, 0)) := gU
  replace gV : y10.drew.heap[V]? = some (.cells #[.int .i64 u0, .int .i64 u1', .int .i64 u2'] 25 (0, 0)) := gV
  replace gP : y10.drew.heap[P]? = some (.cells #[.int .i64 x, .int .i64 y] 30 (0, 0)) := gP
  replace gQ : y10.drew.heap[Q]? = some (.cells #[.int .i64 q0, .int .i64 q1, .int .i64 q2] 25 (0, 0)) := gQ
  replace gR : y10.drew.heap[R]? = some (.cells #[.int .i64 q0, .int .i64 q1, .int .i64 q2] 25 (0, 0)) := gR
  replace HT : Hid (Tab y10.drew) := hid (HT.out.below (bdrew (Below.refl _ _)))
  replace hB := bdrew hB
  generalize y10.drew = y11 at *
  refine wpAnyH_take (i := 0) (v := ?_) rfl (by kernel_rfl) (by kernel_rfl) (by kernel_rfl) (fun _ _ _ h => h) (Or.inl ⟨by rfl, ?_⟩) hHeld ?_
  rotate_left
  · intro w hSw; (try dsimp only at hSw); obtain ⟨_, _, _, _, _, _⟩ := cellT (hSw.1); obtain ⟨_, _, _, _, _, _⟩ := cellT (hSw.2.1); obtain ⟨_, _, _, _, _, _⟩ := cellT (hSw.2.2.1); obtain ⟨_, _, _, _⟩ := cell2g (hSw.2.2.2.1); obtain ⟨_, _, _, _, _, _⟩ := cellT (hSw.2.2.2.2.1); obtain ⟨_, _, _, _, _, _⟩ := cellT (hSw.2.2.2.2.2); go_simp; try (with_reducible rfl)
  try simp only [sq]
  refine wpAnyH_take (i := 1) (v := ?_) rfl (by kernel_rfl) (by kernel_rfl) (by kernel_rfl) (fun _ _ _ h => h) (Or.inl ⟨by rfl, ?_⟩) hHeld ?_
  rotate_left
  · intro w hSw; (try dsimp only at hSw); obtain ⟨_, _, _, _, _, _⟩ := cellT (hSw.1); obtain ⟨_, _, _, _, _, _⟩ := cellT (hSw.2.1); obtain ⟨_, _, _, _, _, _⟩ := cellT (hSw.2.2.1); obtain ⟨_, _, _, _⟩ := cell2g (hSw.2.2.2.1); obtain ⟨_, _, _, _, _, _⟩ := cellT (hSw.2.2.2.2.1); obtain ⟨_, _, _, _, _, _⟩ := cellT (hSw.2.2.2.2.2); go_simp; try (with_reducible rfl)
  try simp only [sq]
  refine wpAnyH_take (i := 2) (v := ?_) rfl (by kernel_rfl) (by kernel_rfl) (by kernel_rfl) (fun _ _ _ h => h) (Or.inl ⟨by rfl, ?_⟩) hHeld ?_
  rotate_left
  · intro w hSw; (try dsimp only at hSw); go_simp; try (with_reducible rfl)
  try simp only [sq]
  refine wpAnyH_take (i := 3) (v := ?_) rfl (by kernel_rfl) (by kernel_rfl) (by kernel_rfl) (fun _ _ _ h => h) (Or.inl ⟨by rfl, ?_⟩) hHeld ?_
  rotate_left
  · intro w hSw; (try dsimp only at hSw); go_simp; try (with_reducible rfl)
  try simp only [sq]
  refine wpAnyH_take (i := 4) (v := ?_) rfl (by kernel_rfl) (by kernel_rfl) (by kernel_rfl) (fun _ _ _ h => h) (Or.inl ⟨by rfl, ?_⟩) hHeld ?_
  rotate_left
  · intro w hSw; (try dsimp only at hSw); go_simp; try (with_reducible rfl)
  try simp only [sq]
  refine wpAnyH_take (i := 5) (v := ?_) rfl (by kernel_rfl) (by kernel_rfl) (by kernel_rfl) (fun _ _ _ h => h) (Or.inl ⟨by rfl, ?_⟩) hHeld ?_
  rotate_left
  · intro w hSw; (try dsimp only at hSw); go_simp; try (with_reducible rfl)
  try simp only [sq]
  refine wpAnyH_take (i := 6) (v := ?_) rfl (by kernel_rfl) (by kernel_rfl) (by kernel_rfl) (fun _ _ _ h => h) (Or.inl ⟨by rfl, ?_⟩) hHeld ?_
  rotate_left
  · intro w hSw; (try dsimp only at hSw); go_simp; try (with_reducible rfl)
  try simp only [sq]
  refine wpAnyH_take (i := 7) (v := ?_) rfl (by kernel_rfl) (by kernel_rfl) (by kernel_rfl) (fun _ _ _ h => h) (Or.inl ⟨by rfl, ?_⟩) hHeld ?_
  rotate_left
  · intro w hSw; (try dsimp only at hSw); go_simp; try (with_reducible rfl)
  try simp only [sq]
  refine wpAnyH_take (i := 8) (v := ?_) rfl (by kernel_rfl) (by kernel_rfl) (by kernel_rfl) (fun _ _ _ h => h) (Or.inl ⟨by rfl, ?_⟩) hHeld ?_
  rotate_left
  · intro w hSw; (try dsimp only at hSw); go_simp; try (with_reducible rfl)
  try simp only [sq]
  refine wpAnyH_take (i := 9) (v := ?_) rfl (by kernel_rfl) (by kernel_rfl) (by kernel_rfl) (fun _ _ _ h => h) (Or.inl ⟨by rfl, ?_⟩) hHeld ?_
  rotate_left
  · intro w hSw; (try dsimp only at hSw); obtain ⟨_, _, _, _, _, _⟩ := cellT (hSw.1); obtain ⟨_, _, _, _, _, _⟩ := cellT (hSw.2.1); obtain ⟨_, _, _, _, _, _⟩ := cellT (hSw.2.2.1); obtain ⟨_, _, _, _⟩ := cell2g (hSw.2.2.2.1); obtain ⟨_, _, _, _, _, _⟩ := cellT (hSw.2.2.2.2.1); obtain ⟨_, _, _, _, _, _⟩ := cellT (hSw.2.2.2.2.2); go_simp; try (with_reducible rfl)
  try simp only [sq]
  refine wpAnyH_take (i := 10) (v := ?_) rfl (by kernel_rfl) (by kernel_rfl) (by kernel_rfl) (fun _ _ _ h => h) (Or.inl ⟨by rfl, ?_⟩) hHeld ?_
  rotate_left
  · intro w hSw; (try dsimp only at hSw); obtain ⟨_, _, _, _, _, _⟩ := cellT (hSw.1); obtain ⟨_, _, _, _, _, _⟩ := cellT (hSw.2.1); obtain ⟨_, _, _, _, _, _⟩ := cellT (hSw.2.2.1); obtain ⟨_, _, _, _⟩ := cell2g (hSw.2.2.2.1); obtain ⟨_, _, _, _, _, _⟩ := cellT (hSw.2.2.2.2.1); obtain ⟨_, _, _, _, _, _⟩ := cellT (hSw.2.2.2.2.2); go_simp; try (with_reducible rfl)
  try simp only [sq]
  refine wpAnyH_take (i := 11) (v := ?_) rfl (by kernel_rfl) (by kernel_rfl) (by kernel_rfl) (fun _ _ _ h => h) (Or.inl ⟨by rfl, ?_⟩) hHeld ?_
  rotate_left
  · intro w hSw; (try dsimp only at hSw); go_simp; try (with_reducible rfl)
  try simp only [sq]
  refine wpAnyH_take (i := 12) (v := ?_) rfl (by kernel_rfl) (by kernel_rfl) (by kernel_rfl) (fun _ _ _ h => h) (Or.inl ⟨by rfl, ?_⟩) hHeld ?_
  rotate_left
  · intro w hSw; (try dsimp only at hSw); go_simp; try (with_reducible rfl)
  try simp only [sq]
  refine wpAnyH_take (i := 13) (v := ?_) rfl (by kernel_rfl) (by kernel_rfl) (by kernel_rfl) (fun _ _ _ h => h) (Or.inl ⟨by rfl, ?_⟩) hHeld ?_
  rotate_left
  · intro w hSw; (try dsimp only at hSw); go_simp; try (with_reducible rfl)
  try simp only [sq]
  refine wpAnyH_take (i := 14) (v := ?_) rfl (by kernel_rfl) (by kernel_rfl) (by kernel_rfl) (fun _ _ _ h => h) (Or.inl ⟨by rfl, ?_⟩) hHeld ?_
  rotate_left
  · intro w hSw; (try dsimp only at hSw); go_simp; try (with_reducible rfl)
  try simp only [sq]
  refine wpAnyH_take (i := 15) (v := ?_) rfl (by kernel_rfl) (by kernel_rfl) (by kernel_rfl) (fun _ _ _ h => h) (Or.inl ⟨by rfl, ?_⟩) hHeld ?_
  rotate_left
  · intro w hSw; (try dsimp only at hSw); go_simp; try (with_reducible rfl)
  try simp only [sq]
  refine wpAnyH_take (i := 16) (v := ?_) rfl (by kernel_rfl) (by kernel_rfl) (by kernel_rfl) (fun _ _ _ h => h) (Or.inl ⟨by rfl, ?_⟩) hHeld ?_
  rotate_left
  · intro w hSw; (try dsimp only at hSw); go_simp; try (with_reducible rfl)
  try simp only [sq]
  refine wpAnyH_take (i := 17) (v := ?_) rfl (by kernel_rfl) (by kernel_rfl) (by kernel_rfl) (fun _ _ _ h => h) (Or.inl ⟨by rfl, ?_⟩) hHeld ?_
  rotate_left
  · intro w hSw; (try dsimp only at hSw); go_simp; try (with_reducible rfl)
  try simp only [sq]
  refine wpAnyH_take (i := 18) (v := ?_) rfl (by kernel_rfl) (by kernel_rfl) (by kernel_rfl) (fun _ _ _ h => h) (Or.inl ⟨by rfl, ?_⟩) hHeld ?_
  rotate_left
  · intro w hSw; (try dsimp only at hSw); go_simp; try (with_reducible rfl)
  try simp only [sq]
  refine wpAnyH_take (i := 19) (v := ?_) rfl (by kernel_rfl) (by kernel_rfl) (by kernel_rfl) (fun _ _ _ h => h) (Or.inl ⟨by rfl, ?_⟩) hHeld ?_
  rotate_left
  · intro w hSw; (try dsimp only at hSw); obtain ⟨_, _, _, _, _, _⟩ := cellT (hSw.1); obtain ⟨_, _, _, _, _, _⟩ := cellT (hSw.2.1); obtain ⟨_, _, _, _, _, _⟩ := cellT (hSw.2.2.1); obtain ⟨_, _, _, _⟩ := cell2g (hSw.2.2.2.1); obtain ⟨_, _, _, _, _, _⟩ := cellT (hSw.2.2.2.2.1); obtain ⟨_, _, _, _, _, _⟩ := cellT (hSw.2.2.2.2.2); go_simp; try (with_reducible rfl)
  try simp only [sq]
  refine wpAnyH_take (i := 21) (v := ?_) rfl (by kernel_rfl) (by kernel_rfl) (by kernel_rfl) (fun _ _ _ h => h) (Or.inl ⟨by rfl, ?_⟩) hHeld ?_
  rotate_left
  · intro w hSw; (try dsimp only at hSw); obtain ⟨_, _, _, _, _, _⟩ := cellT (hSw.1); obtain ⟨_, _, _, _, _, _⟩ := cellT (hSw.2.1); obtain ⟨_, _, _, _, _, _⟩ := cellT (hSw.2.2.1); obtain ⟨_, _, _, _⟩ := cell2g (hSw.2.2.2.1); obtain ⟨_, _, _, _, _, _⟩ := cellT (hSw.2.2.2.2.1); obtain ⟨_, _, _, _, _, _⟩ := cellT (hSw.2.2.2.2.2); go_simp; try (with_reducible rfl)
  try simp only [sq]
  refine wpAnyH_ready (rs := [20]) (by kernel_rfl) (by simp) ?_
  refine AllReadyH.cons rfl (fun K hK => ?_) AllReadyH.nil
  try simp only [sq]
  go_simp
  go_at_call 17
  refine (CK.out _ HT.out).mono ?_
  rintro e y12 ⟨rfl, hcl⟩
  replace gT := keepheap' hcl gT
  replace gU := keepheap' hcl gU
  replace gV := keepheap' hcl gV
  replace gP := keepheap' hcl gP
  replace gQ := keepheap' hcl gQ
  replace gR := keepheap' hcl gR
  replace HT := hid (HT.out.below hcl)
  replace hB := btrans hB hcl
  clear hcl
  go_wp2_with fail
  refine hK.out _ _ ?_ (fun hHeld => ?_)
  · exact ⟨gT, gU, gV, gP, gQ, gR⟩
  clear hK K
  try simp only [sq]
  refine wpAnyH_ready (rs := [22]) (by kernel_rfl) (by simp) ?_
  refine AllReadyH.cons rfl (fun K hK => ?_) AllReadyH.nil
  try simp only [sq]
  go_simp
  go_at_call 18
  refine (CKs.out _).mono ?_
  rintro e y13 ⟨rfl, hcl⟩
  replace gT := keepheap' hcl gT
  replace gU := keepheap' hcl gU
  replace gV := keepheap' hcl gV
  replace gP := keepheap' hcl gP
  replace gQ := keepheap' hcl gQ
  replace gR := keepheap' hcl gR
  replace HT := hid (HT.out.below hcl)
  replace hB := btrans hB hcl
  clear hcl
  go_wp2_with fail
  refine hK.out _ _ ?_ (fun hHeld => ?_)
  · exact ⟨gT, gU, gV, gP, gQ, gR⟩
  clear hK K
  try simp only [sq]
  refine wpAnyH_take (i := 23) (v := ?_) rfl (by kernel_rfl) (by kernel_rfl) (by kernel_rfl) (fun _ _ _ h => h) (Or.inl ⟨by rfl, ?_⟩) hHeld ?_
  rotate_left
  · intro w hSw; (try dsimp only at hSw); go_simp; try (with_reducible rfl)
  try simp only [sq]
  refine wpAnyH_take (i := 24) (v := ?_) rfl (by kernel_rfl) (by kernel_rfl) (by kernel_rfl) (fun _ _ _ h => h) (Or.inl ⟨by rfl, ?_⟩) hHeld ?_
  rotate_left
  · intro w hSw; (try dsimp only at hSw); go_simp; try (with_reducible rfl)
  try simp only [sq]
  refine wpAnyH_take (i := 25) (v := ?_) rfl (by kernel_rfl) (by kernel_rfl) (by kernel_rfl) (fun _ _ _ h => h) (Or.inl ⟨by rfl, ?_⟩) hHeld ?_
  rotate_left
  · intro w hSw; (try dsimp only at hSw); go_simp; try (with_reducible rfl)
  try simp only [sq]
  refine wpAnyH_take (i := 26) (v := ?_) rfl (by kernel_rfl) (by kernel_rfl) (by kernel_rfl) (fun _ _ _ h => h) (Or.inl ⟨by rfl, ?_⟩) hHeld ?_
  rotate_left
  · intro w hSw; (try dsimp only at hSw); obtain ⟨_, _, _, _, _, _⟩ := cellT (hSw.1); obtain ⟨_, _, _, _, _, _⟩ := cellT (hSw.2.1); obtain ⟨_, _, _, _, _, _⟩ := cellT (hSw.2.2.1); obtain ⟨_, _, _, _⟩ := cell2g (hSw.2.2.2.1); obtain ⟨_, _, _, _, _, _⟩ := cellT (hSw.2.2.2.2.1); obtain ⟨_, _, _, _, _, _⟩ := cellT (hSw.2.2.2.2.2); go_simp; try (with_reducible rfl)
  try simp only [sq]
  refine wpAnyH_take (i := 28) (v := ?_) rfl (by kernel_rfl) (by kernel_rfl) (by kernel_rfl) (fun _ _ _ h => h) (Or.inl ⟨by rfl, ?_⟩) hHeld ?_
  rotate_left
  · intro w hSw; (try dsimp only at hSw); obtain ⟨_, _, _, _, _, _⟩ := cellT (hSw.1); obtain ⟨_, _, _, _, _, _⟩ := cellT (hSw.2.1); obtain ⟨_, _, _, _, _, _⟩ := cellT (hSw.2.2.1); obtain ⟨_, _, _, _⟩ := cell2g (hSw.2.2.2.1); obtain ⟨_, _, _, _, _, _⟩ := cellT (hSw.2.2.2.2.1); obtain ⟨_, _, _, _, _, _⟩ := cellT (hSw.2.2.2.2.2); go_simp; try (with_reducible rfl)
  try simp only [sq]
  refine wpAnyH_ready (rs := [27]) (by kernel_rfl) (by simp) ?_
  refine AllReadyH.cons rfl (fun K hK => ?_) AllReadyH.nil
  try simp only [sq]
  go_simp
  go_at_call 19
  refine (CO.out _ HT.out).mono ?_
  rintro e y14 ⟨rfl, hcl⟩
  replace gT := keepheap' hcl gT
  replace gU := keepheap' hcl gU
  replace gV := keepheap' hcl gV
  replace gP := keepheap' hcl gP
  replace gQ := keepheap' hcl gQ
  replace gR := keepheap' hcl gR
  replace HT := hid (HT.out.below hcl)
  replace hB := btrans hB hcl
  clear hcl
  go_wp2_with fail
  refine hK.out _ _ ?_ (fun hHeld => ?_)
  · exact ⟨gT, gU, gV, gP, gQ, gR⟩
  clear hK K
  try simp only [sq]
  refine wpAnyH_ready (rs := [29]) (by kernel_rfl) (by simp) ?_
  refine AllReadyH.cons rfl (fun K hK => ?_) AllReadyH.nil
  try simp only [sq]
  go_simp
  go_at_call 20
  refine (COs.out _).mono ?_
  rintro e y15 ⟨rfl, hcl⟩
  replace gT := keepheap' hcl gT
  replace gU := keepheap' hcl gU
  replace gV := keepheap' hcl gV
  replace gP := keepheap' hcl gP
  replace gQ := keepheap' hcl gQ
  replace gR := keepheap' hcl gR
  replace HT := hid (HT.out.below hcl)
  replace hB := btrans hB hcl
  clear hcl
  go_wp2_with fail
  refine hK.out _ _ ?_ (fun hHeld => ?_)
  · exact ⟨gT, gU, gV, gP, gQ, gR⟩
  clear hK K
  try simp only [sq]
  refine wpAnyH_take (i := 30) (v := ?_) rfl (by kernel_rfl) (by kernel_rfl) (by kernel_rfl) (fun _ _ _ h => h) (Or.inl ⟨by rfl, ?_⟩) hHeld ?_
  rotate_left
  · intro w hSw; (try dsimp only at hSw); go_simp; try (with_reducible rfl)
  try simp only [sq]
  refine wpAnyH_take (i := 31) (v := ?_) rfl (by kernel_rfl) (by kernel_rfl) (by kernel_rfl) (fun _ _ _ h => h) (Or.inl ⟨by rfl, ?_⟩) hHeld ?_
  rotate_left
  · intro w hSw; (try dsimp only at hSw); go_simp; try (with_reducible rfl)
  try simp only [sq]
  refine wpAnyH_done (by kernel_rfl) ?_ _
  clear hHeld
  clear CK CKs CO COs OO OOs CU CUs
  clear gV gR
  cases fine
  · skip
    clear OF OB OU OA
    obtain ⟨k16_0, k16_1, k16_2, _, _, _⟩ := cellT gT
    obtain ⟨k17_0, k17_1, k17_2, _, _, _⟩ := cellT gU
    obtain ⟨k18_0, k18_1, _, _⟩ := cell2g gP
    obtain ⟨k19_0, k19_1, k19_2, _, _, _⟩ := cellT gQ
    go_wp2_with fail
    refine (CD.out _ HT.out).mono ?_
    rintro e y16 ⟨vd, rfl, da, dc, rfl, hdc, hdo, hcl, _⟩
    clear k16_0 k16_1 k16_2 k17_0 k17_1 k17_2 k18_0 k18_1 k19_0 k19_1 k19_2
    replace gT := keepheap' hcl gT
    replace gU := keepheap' hcl gU
    replace gP := keepheap' hcl gP
    replace gQ := keepheap' hcl gQ
    replace HT := hid (HT.out.below hcl)
    replace hB := btrans hB hcl
    clear hcl
    have DL := hid hdo.fl
    clear hdo
    obtain ⟨k20_0, k20_1, k20_2, _, _, _⟩ := cellT gT
    obtain ⟨k21_0, k21_1, k21_2, _, _, _⟩ := cellT gU
    obtain ⟨k22_0, k22_1, _, _⟩ := cell2g gP
    obtain ⟨k23_0, k23_1, k23_2, _, _, _⟩ := cellT gQ
    go_wp2_with fail
    refine (CDs.out _).mono ?_
    rintro e y17 ⟨vs, rfl, ma, mc, rfl, hmc, hmo, hcl, _⟩
    clear k20_0 k20_1 k20_2 k21_0 k21_1 k21_2 k22_0 k22_1 k23_0 k23_1 k23_2
    replace gT := keepheap' hcl gT
    replace gU := keepheap' hcl gU
    replace gP := keepheap' hcl gP
    replace gQ := keepheap' hcl gQ
    replace HT := hid (HT.out.below hcl)
    replace DL := hid (DL.out.below hcl)
    replace hB := btrans hB hcl
    clear hcl
    have ML := hid hmo.fl
    clear hmo
    obtain ⟨k24_0, k24_1, k24_2, _, _, _⟩ := cellT gT
    obtain ⟨k25_0, k25_1, k25_2, _, _, _⟩ := cellT gU
    obtain ⟨k26_0, k26_1, _, _⟩ := cell2g gP
    obtain ⟨k27_0, k27_1, k27_2, _, _, _⟩ := cellT gQ
    go_wp2_with fail
    clear k24_0 k24_1 k24_2 k25_0 k25_1 k25_2 k26_0 k26_1 k27_0 k27_1 k27_2
    go_loopw [24] (fun ti wr => ∃ k : Nat, ti = .int .i64 k ∧ k ≤ n ∧ Hid (BF y17 wr)) (fun ti _ => n - (intOf ti).toNat)
    case atStart => exact ⟨0, rfl, Nat.zero_le _, hid (BF.refl _)⟩
    case round =>
      obtain ⟨k, rfl, hk, HL⟩ := hrel
      have hcl := HL.out
      unfold BF at hcl
      replace gT := keepheap' hcl gT
      replace gU := keepheap' hcl gU
      replace gP := keepheap' hcl gP
      replace gQ := keepheap' hcl gQ
      replace HT := hid (HT.out.below hcl)
      replace DL := hid (DL.out.below hcl)
      replace ML := hid (ML.out.below hcl)
      replace hB := btrans hB hcl
      clear hcl
      by_cases hlt : k < n
      · skip
        have c1 : (k : Int) < (n : Int) := by omega
        have c2 : (0 : Int) ≤ (k : Int) := by omega
        obtain ⟨k1, k2, k3, k4⟩ := FK.out k hlt
        obtain ⟨p1, o1, rfl, hps, hp⟩ : ∃ b off, da = some ⟨b, off, none⟩ ∧ b < wr.heap.size ∧ FlAt wr b off zs := by
          rcases DL.out with h | h
          · rw [h] at hzl; simp at hzl; omega
          · exact h
        obtain ⟨p2, o2, rfl, hqs, hq⟩ : ∃ b off, ma = some ⟨b, off, none⟩ ∧ b < wr.heap.size ∧ FlAt wr b off zs := by
          rcases ML.out with h | h
          · rw [h] at hzl; simp at hzl; omega
          · exact h
        have x0 := hp (k * 3) (by omega)
        have x1 := hp (k * 3 + 1) (by omega)
        have x2 := hp (k * 3 + 2) (by omega)
        have x3 := hq (k * 3) (by omega)
        have x4 := hq (k * 3 + 1) (by omega)
        have x5 := hq (k * 3 + 2) (by omega)
        rw [← Nat.add_assoc] at x1 x2 x4 x5
        have CX := hid (fun w' (h : Tab w') => impl_tileup (zs.getD (k * 3) 0) (zs.getD (k * 3 + 1) 0) (zs.getD (k * 3 + 2) 0) w' h)
        rw [k1, k2, k3, k4] at CX
        generalize zs.getD (k * 3) 0 = g0 at *
        generalize zs.getD (k * 3 + 1) 0 = g1 at *
        generalize zs.getD (k * 3 + 2) 0 = g2 at *
        clear k1 k2 k3 k4 hp hq
        obtain ⟨k28_0, k28_1, k28_2, _, _, _⟩ := cellT gT
        obtain ⟨k29_0, k29_1, k29_2, _, _, _⟩ := cellT gU
        obtain ⟨k30_0, k30_1, _, _⟩ := cell2g gP
        obtain ⟨k31_0, k31_1, k31_2, _, _, _⟩ := cellT gQ
        go_wp2_with fail
        refine (CX.out _ HT.out).mono ?_
        rintro e y18 ⟨rfl, hcl⟩
        replace x0 := keepcell hcl x0
        replace x1 := keepcell hcl x1
        replace x2 := keepcell hcl x2
        replace x3 := keepcell hcl x3
        replace x4 := keepcell hcl x4
        replace x5 := keepcell hcl x5
        clear k28_0 k28_1 k28_2 k29_0 k29_1 k29_2 k30_0 k30_1 k31_0 k31_1 k31_2
        replace gT := keepheap' hcl gT
        replace gU := keepheap' hcl gU
        replace gP := keepheap' hcl gP
        replace gQ := keepheap' hcl gQ
        replace HT := hid (HT.out.below hcl)
        replace DL := hid (DL.out.below hcl)
        replace ML := hid (ML.out.below hcl)
        replace HL := hid (HL.out.below hcl)
        replace hB := btrans hB hcl
        clear hcl
        have hl1 : p1 < y18.heap.size := World.block_lt_of_cell? _ _ x0
        have hl2 : p2 < y18.heap.size := World.block_lt_of_cell? _ _ x3
        have ax0 := keepalloc x0 (.cells #[.int .i64 l, .int .i64 c, .int .i64 r] 25)
        have ax1 := keepalloc x1 (.cells #[.int .i64 l, .int .i64 c, .int .i64 r] 25)
        have ax2 := keepalloc x2 (.cells #[.int .i64 l, .int .i64 c, .int .i64 r] 25)
        have ax3 := keepalloc x3 (.cells #[.int .i64 l, .int .i64 c, .int .i64 r] 25)
        have ax4 := keepalloc x4 (.cells #[.int .i64 l, .int .i64 c, .int .i64 r] 25)
        have ax5 := keepalloc x5 (.cells #[.int .i64 l, .int .i64 c, .int .i64 r] 25)
        obtain ⟨k32_0, k32_1, k32_2, _, _, _⟩ := cellT gT
        obtain ⟨k33_0, k33_1, k33_2, _, _, _⟩ := cellT gU
        obtain ⟨k34_0, k34_1, _, _⟩ := cell2g gP
        obtain ⟨k35_0, k35_1, k35_2, _, _, _⟩ := cellT gQ
        have ak32_0 := (keepalloc k32_0 (.cells #[.int .i64 l, .int .i64 c, .int .i64 r] 25))
        have ak32_1 := (keepalloc k32_1 (.cells #[.int .i64 l, .int .i64 c, .int .i64 r] 25))
        have ak32_2 := (keepalloc k32_2 (.cells #[.int .i64 l, .int .i64 c, .int .i64 r] 25))
        have ak33_0 := (keepalloc k33_0 (.cells #[.int .i64 l, .int .i64 c, .int .i64 r] 25))
        have ak33_1 := (keepalloc k33_1 (.cells #[.int .i64 l, .int .i64 c, .int .i64 r] 25))
        have ak33_2 := (keepalloc k33_2 (.cells #[.int .i64 l, .int .i64 c, .int .i64 r] 25))
        have ak34_0 := (keepalloc k34_0 (.cells #[.int .i64 l, .int .i64 c, .int .i64 r] 25))
        have ak34_1 := (keepalloc k34_1 (.cells #[.int .i64 l, .int .i64 c, .int .i64 r] 25))
        have ak35_0 := (keepalloc k35_0 (.cells #[.int .i64 l, .int .i64 c, .int .i64 r] 25))
        have ak35_1 := (keepalloc k35_1 (.cells #[.int .i64 l, .int .i64 c, .int .i64 r] 25))
        have ak35_2 := (keepalloc k35_2 (.cells #[.int .i64 l, .int .i64 c, .int .i64 r] 25))
        go_wp2_with fail
        go_quiet (fail)
        go_wp2_with fail
        go_roundw
        case rel =>
          refine ⟨k + 1, by go_num, by omega, hid ?_⟩
          exact (HL.out.below (balloc (Below.refl _ _) _)).below ⟨rfl, rfl, rfl, Nat.le_refl _, fun _ _ => rfl⟩
        case measure => simp [intOf]; omega
      · skip
        have c1 : (n : Int) ≤ (k : Int) := by omega
        obtain rfl : k = n := by omega
        clear DL ML FK CD CDs HL
        cases uo
        · skip
          obtain ⟨k28_0, k28_1, k28_2, _, _, _⟩ := cellT gT
          obtain ⟨k29_0, k29_1, k29_2, _, _, _⟩ := cellT gU
          obtain ⟨k30_0, k30_1, _, _⟩ := cell2g gP
          obtain ⟨k31_0, k31_1, k31_2, _, _, _⟩ := cellT gQ
          have hu0 := FN.out rfl
          clear FN FD FB
          subst hu0
          go_wp2_with fail
          go_ret
          exact ⟨rfl, hB⟩
        · skip
          obtain ⟨hnu4, i, hi, HK⟩ := FD.out rfl
          obtain ⟨w1, w2, w3, w4, w5, w6, w7⟩ := FB.out rfl
          subst hnu4
          clear FN FD FB
          have HKK := hid HK
          clear HK
          obtain ⟨k28_0, k28_1, k28_2, _, _, _⟩ := cellT gT
          obtain ⟨k29_0, k29_1, k29_2, _, _, _⟩ := cellT gU
          obtain ⟨k30_0, k30_1, _, _⟩ := cell2g gP
          obtain ⟨k31_0, k31_1, k31_2, _, _, _⟩ := cellT gQ
          go_wp2_with fail
          refine (CB.out _ HT.out).mono ?_
          rintro e y18 ⟨rfl, hcl⟩
          clear k28_0 k28_1 k28_2 k29_0 k29_1 k29_2 k30_0 k30_1 k31_0 k31_1 k31_2
          replace gT := keepheap' hcl gT
          replace gU := keepheap' hcl gU
          replace gP := keepheap' hcl gP
          replace gQ := keepheap' hcl gQ
          replace HT := hid (HT.out.below hcl)
          replace hB := btrans hB hcl
          clear hcl
          obtain ⟨k32_0, k32_1, k32_2, _, _, _⟩ := cellT gT
          obtain ⟨k33_0, k33_1, k33_2, _, _, _⟩ := cellT gU
          obtain ⟨k34_0, k34_1, _, _⟩ := cell2g gP
          obtain ⟨k35_0, k35_1, k35_2, _, _, _⟩ := cellT gQ
          go_wp2_with fail
          refine (CBu.out _ HT.out).mono ?_
          rintro e y19 ⟨rfl, hcl⟩
          clear k32_0 k32_1 k32_2 k33_0 k33_1 k33_2 k34_0 k34_1 k35_0 k35_1 k35_2
          replace gT := keepheap' hcl gT
          replace gU := keepheap' hcl gU
          replace gP := keepheap' hcl gP
          replace gQ := keepheap' hcl gQ
          replace HT := hid (HT.out.below hcl)
          replace hB := btrans hB hcl
          clear hcl
          obtain ⟨k36_0, k36_1, k36_2, _, _, _⟩ := cellT gT
          obtain ⟨k37_0, k37_1, k37_2, _, _, _⟩ := cellT gU
          obtain ⟨k38_0, k38_1, _, _⟩ := cell2g gP
          obtain ⟨k39_0, k39_1, k39_2, _, _, _⟩ := cellT gQ
          go_wp2_with fail
          refine (CDu.out _ HT.out).mono ?_
          rintro e y20 ⟨vk, rfl, ka, kc, rfl, hkc, hko, hcl, _⟩
          clear k36_0 k36_1 k36_2 k37_0 k37_1 k37_2 k38_0 k38_1 k39_0 k39_1 k39_2
          replace gT := keepheap' hcl gT
          replace gU := keepheap' hcl gU
          replace gP := keepheap' hcl gP
          replace gQ := keepheap' hcl gQ
          replace HT := hid (HT.out.below hcl)
          replace hB := btrans hB hcl
          clear hcl
          have KL := hid hko.fl
          clear hko
          obtain ⟨k40_0, k40_1, k40_2, _, _, _⟩ := cellT gT
          obtain ⟨k41_0, k41_1, k41_2, _, _, _⟩ := cellT gU
          obtain ⟨k42_0, k42_1, _, _⟩ := cell2g gP
          obtain ⟨k43_0, k43_1, k43_2, _, _, _⟩ := cellT gQ
          go_wp2_with fail
          clear k40_0 k40_1 k40_2 k41_0 k41_1 k41_2 k42_0 k42_1 k43_0 k43_1 k43_2
          go_loopw [35, 37] (fun tm ti wr => ∃ j : Nat, ti = .int .i64 j ∧ tm = .int .i64 (if i < j then 1 else 0) ∧ j ≤ 4 ∧ Hid (BF y20 wr)) (fun _ ti _ => 4 - (intOf ti).toNat)
          case atStart => exact ⟨0, rfl, by simp, by omega, hid (BF.refl _)⟩
          case round =>
            obtain ⟨j, rfl, rfl, hj, HL⟩ := hrel
            have hcl := HL.out
            unfold BF at hcl
            replace gT := keepheap' hcl gT
            replace gU := keepheap' hcl gU
            replace gP := keepheap' hcl gP
            replace gQ := keepheap' hcl gQ
            replace HT := hid (HT.out.below hcl)
            replace KL := hid (KL.out.below hcl)
            replace hB := btrans hB hcl
            clear hcl
            by_cases hlt : j < 4
            · skip
              have c1 : (j : Int) < 4 := by omega
              have c2 : (0 : Int) ≤ (j : Int) := by omega
              obtain ⟨p1, o1, rfl, hps, hp⟩ : ∃ b off, ka = some ⟨b, off, none⟩ ∧ b < wr.heap.size ∧ FlAt wr b off zu := by
                rcases KL.out with h | h
                · rw [h] at hzu; simp at hzu
                · exact h
              have x0 := hp (j * 3) (by omega)
              have x1 := hp (j * 3 + 1) (by omega)
              have x2 := hp (j * 3 + 2) (by omega)
              rw [← Nat.add_assoc] at x1 x2
              obtain ⟨h1, h2, h3⟩ := HKK.out j hlt
              rw [h1] at x0
              by_cases hji : j = i
              · skip
                obtain ⟨h4, h5⟩ := h2 hji
                rw [h4] at x1
                rw [h5] at x2
                have i1 : (if i < j then (1 : Int) else 0) = 0 := by rw [if_neg (by omega)]
                rw [i1]
                have HJ := hid hji
                clear hp h1 h2 h3 h4 h5 hji i1
                obtain ⟨k44_0, k44_1, k44_2, _, _, _⟩ := cellT gT
                obtain ⟨k45_0, k45_1, k45_2, _, _, _⟩ := cellT gU
                obtain ⟨k46_0, k46_1, _, _⟩ := cell2g gP
                obtain ⟨k47_0, k47_1, k47_2, _, _, _⟩ := cellT gQ
                go_wp2_with fail
                go_quiet (fail)
                go_wp2_with fail
                go_roundw
                case rel => exact ⟨j + 1, by go_num, by rw [if_pos (by have := HJ.out; omega)], by omega, hid (HL.out.below ⟨rfl, rfl, rfl, Nat.le_refl _, fun _ _ => rfl⟩)⟩
                case measure => simp [intOf]; omega
              · skip
                have h4 := h3 hji
                have i1 : (if i < j + 1 then (1 : Int) else 0) = (if i < j then (1 : Int) else 0) := by
                  by_cases q : i < j
                  · rw [if_pos q, if_pos (by omega)]
                  · rw [if_neg q, if_neg (by omega)]
                generalize (if i < j then (1 : Int) else 0) = cnt at *
                generalize zu.getD (j * 3 + 1) 0 = g1 at *
                generalize zu.getD (j * 3 + 2) 0 = g2 at *
                clear hp h1 h2 h3
                have I1 := hid i1
                clear i1
                by_cases hgc : g1 = c
                · skip
                  subst hgc
                  have hb : (g2 == r) = false := by rw [beq_eq_false_iff_ne]; omega
                  clear h4
                  obtain ⟨k44_0, k44_1, k44_2, _, _, _⟩ := cellT gT
                  obtain ⟨k45_0, k45_1, k45_2, _, _, _⟩ := cellT gU
                  obtain ⟨k46_0, k46_1, _, _⟩ := cell2g gP
                  obtain ⟨k47_0, k47_1, k47_2, _, _, _⟩ := cellT gQ
                  go_wp2_with fail
                  go_quiet (fail)
                  go_wp2_with fail
                  go_roundw
                  case rel => exact ⟨j + 1, by go_num, by rw [I1.out], by omega, hid (HL.out.below ⟨rfl, rfl, rfl, Nat.le_refl _, fun _ _ => rfl⟩)⟩
                  case measure => simp [intOf]; omega
                · skip
                  have hb : (g1 == c) = false := by rw [beq_eq_false_iff_ne]; exact hgc
                  clear h4
                  obtain ⟨k44_0, k44_1, k44_2, _, _, _⟩ := cellT gT
                  obtain ⟨k45_0, k45_1, k45_2, _, _, _⟩ := cellT gU
                  obtain ⟨k46_0, k46_1, _, _⟩ := cell2g gP
                  obtain ⟨k47_0, k47_1, k47_2, _, _, _⟩ := cellT gQ
                  go_wp2_with fail
                  go_quiet (fail)
                  go_wp2_with fail
                  go_roundw
                  case rel => exact ⟨j + 1, by go_num, by rw [I1.out], by omega, hid (HL.out.below ⟨rfl, rfl, rfl, Nat.le_refl _, fun _ _ => rfl⟩)⟩
                  case measure => simp [intOf]; omega
            · skip
              obtain rfl : j = 4 := by omega
              have i1 : (if i < 4 then (1 : Int) else 0) = 1 := by rw [if_pos hi]
              rw [i1]
              have w8 : ¬ (e2 - e0 ≠ 2 * (b2 - b0) + 1) := by omega
              obtain ⟨k44_0, k44_1, k44_2, _, _, _⟩ := cellT gT
              obtain ⟨k45_0, k45_1, k45_2, _, _, _⟩ := cellT gU
              obtain ⟨k46_0, k46_1, _, _⟩ := cell2g gP
              obtain ⟨k47_0, k47_1, k47_2, _, _, _⟩ := cellT gQ
              go_wp2_with fail
              go_ret
              exact ⟨rfl, hB⟩
  · skip
    obtain ⟨m0, m1, o3, o4, o5, o6, o7⟩ := OF.out rfl
    clear OF
    have hwm : IntKind.i64.wrap (m - 1) = m - 1 := by rw [IntKind.wrap_i64]; omega
    have j1 : ¬ x < f0 := by omega
    have j2 : ¬ f2 < x := by omega
    have j3 : ¬ y < f1 := by omega
    have j4 : ¬ f3 < y := by omega
    have O7 := hid o7
    clear o7
    obtain ⟨k16_0, k16_1, k16_2, _, _, _⟩ := cellT gT
    obtain ⟨k17_0, k17_1, k17_2, _, _, _⟩ := cellT gU
    obtain ⟨k18_0, k18_1, _, _⟩ := cell2g gP
    obtain ⟨k19_0, k19_1, k19_2, _, _, _⟩ := cellT gQ
    go_wp2_with fail
    refine (OB.out _ HT.out).mono ?_
    rintro e y16 ⟨rfl, hcl⟩
    clear k16_0 k16_1 k16_2 k17_0 k17_1 k17_2 k18_0 k18_1 k19_0 k19_1 k19_2
    replace gT := keepheap' hcl gT
    replace gU := keepheap' hcl gU
    replace gP := keepheap' hcl gP
    replace gQ := keepheap' hcl gQ
    replace HT := hid (HT.out.below hcl)
    replace hB := btrans hB hcl
    clear hcl
    obtain ⟨k20_0, k20_1, k20_2, _, _, _⟩ := cellT gT
    obtain ⟨k21_0, k21_1, k21_2, _, _, _⟩ := cellT gU
    obtain ⟨k22_0, k22_1, _, _⟩ := cell2g gP
    obtain ⟨k23_0, k23_1, k23_2, _, _, _⟩ := cellT gQ
    go_wp2_with fail
    refine (OU.out _ HT.out).mono ?_
    rintro e y17 ⟨rfl, hcl⟩
    clear k20_0 k20_1 k20_2 k21_0 k21_1 k21_2 k22_0 k22_1 k23_0 k23_1 k23_2
    replace gT := keepheap' hcl gT
    replace gU := keepheap' hcl gU
    replace gP := keepheap' hcl gP
    replace gQ := keepheap' hcl gQ
    replace HT := hid (HT.out.below hcl)
    replace hB := btrans hB hcl
    clear hcl
    obtain ⟨k24_0, k24_1, k24_2, _, _, _⟩ := cellT gT
    obtain ⟨k25_0, k25_1, k25_2, _, _, _⟩ := cellT gU
    obtain ⟨k26_0, k26_1, _, _⟩ := cell2g gP
    obtain ⟨k27_0, k27_1, k27_2, _, _, _⟩ := cellT gQ
    have ak24_0 := (keepalloc k24_0 (.cells #[.int .i64 v0, .int .i64 v1, .int .i64 v2] 25))
    have ak24_1 := (keepalloc k24_1 (.cells #[.int .i64 v0, .int .i64 v1, .int .i64 v2] 25))
    have ak24_2 := (keepalloc k24_2 (.cells #[.int .i64 v0, .int .i64 v1, .int .i64 v2] 25))
    have ak25_0 := (keepalloc k25_0 (.cells #[.int .i64 v0, .int .i64 v1, .int .i64 v2] 25))
    have ak25_1 := (keepalloc k25_1 (.cells #[.int .i64 v0, .int .i64 v1, .int .i64 v2] 25))
    have ak25_2 := (keepalloc k25_2 (.cells #[.int .i64 v0, .int .i64 v1, .int .i64 v2] 25))
    have ak26_0 := (keepalloc k26_0 (.cells #[.int .i64 v0, .int .i64 v1, .int .i64 v2] 25))
    have ak26_1 := (keepalloc k26_1 (.cells #[.int .i64 v0, .int .i64 v1, .int .i64 v2] 25))
    have ak27_0 := (keepalloc k27_0 (.cells #[.int .i64 v0, .int .i64 v1, .int .i64 v2] 25))
    have ak27_1 := (keepalloc k27_1 (.cells #[.int .i64 v0, .int .i64 v1, .int .i64 v2] 25))
    have ak27_2 := (keepalloc k27_2 (.cells #[.int .i64 v0, .int .i64 v1, .int .i64 v2] 25))
    go_wp2_with fail
    clear k24_0 k24_1 k24_2 k25_0 k25_1 k25_2 k26_0 k26_1 k27_0 k27_1 k27_2 ak24_0 ak24_1 ak24_2 ak25_0 ak25_1 ak25_2 ak26_0 ak26_1 ak27_0 ak27_1 ak27_2
    replace gT := (old_alloc (o' := .cells #[.int .i64 v0, .int .i64 v1, .int .i64 v2] 25) gT)
    replace gU := (old_alloc (o' := .cells #[.int .i64 v0, .int .i64 v1, .int .i64 v2] 25) gU)
    replace gP := (old_alloc (o' := .cells #[.int .i64 v0, .int .i64 v1, .int .i64 v2] 25) gP)
    replace gQ := (old_alloc (o' := .cells #[.int .i64 v0, .int .i64 v1, .int .i64 v2] 25) gQ)
    have gM := (new_alloc y17 (y17.heap.size) (.cells #[.int .i64 v0, .int .i64 v1, .int .i64 v2] 25) (by simp))
    have hal : Below y17.heap.size y17 (y17.alloc (.cells #[.int .i64 v0, .int .i64 v1, .int .i64 v2] 25)) := (balloc (Below.refl _ _) (.cells #[.int .i64 v0, .int .i64 v1, .int .i64 v2] 25))
    replace HT := hid (HT.out.below hal)
    replace hB := btrans hB hal
    clear hal
    generalize (y17.alloc (.cells #[.int .i64 v0, .int .i64 v1, .int .i64 v2] 25)) = y18 at *
    generalize y17.heap.size = M at *
    refine (OA.out _ HT.out).mono ?_
    rintro e y19 ⟨rfl, hcl⟩
    replace gT := keepheap' hcl gT
    replace gU := keepheap' hcl gU
    replace gP := keepheap' hcl gP
    replace gQ := keepheap' hcl gQ
    replace gM := keepheap' hcl gM
    replace HT := hid (HT.out.below hcl)
    replace hB := btrans hB hcl
    clear hcl
    obtain ⟨k28_0, k28_1, k28_2, _, _, _⟩ := cellT gT
    obtain ⟨k29_0, k29_1, k29_2, _, _, _⟩ := cellT gU
    obtain ⟨k30_0, k30_1, _, _⟩ := cell2g gP
    obtain ⟨k31_0, k31_1, k31_2, _, _, _⟩ := cellT gQ
    obtain ⟨k32_0, k32_1, k32_2, _, _, _⟩ := cellT gM
    have ak28_0 := (keepalloc k28_0 (.cells #[.int .i64 t0, .int .i64 t1, .int .i64 t2] 25))
    have ak28_1 := (keepalloc k28_1 (.cells #[.int .i64 t0, .int .i64 t1, .int .i64 t2] 25))
    have ak28_2 := (keepalloc k28_2 (.cells #[.int .i64 t0, .int .i64 t1, .int .i64 t2] 25))
    have ak29_0 := (keepalloc k29_0 (.cells #[.int .i64 t0, .int .i64 t1, .int .i64 t2] 25))
    have ak29_1 := (keepalloc k29_1 (.cells #[.int .i64 t0, .int .i64 t1, .int .i64 t2] 25))
    have ak29_2 := (keepalloc k29_2 (.cells #[.int .i64 t0, .int .i64 t1, .int .i64 t2] 25))
    have ak30_0 := (keepalloc k30_0 (.cells #[.int .i64 t0, .int .i64 t1, .int .i64 t2] 25))
    have ak30_1 := (keepalloc k30_1 (.cells #[.int .i64 t0, .int .i64 t1, .int .i64 t2] 25))
    have ak31_0 := (keepalloc k31_0 (.cells #[.int .i64 t0, .int .i64 t1, .int .i64 t2] 25))
    have ak31_1 := (keepalloc k31_1 (.cells #[.int .i64 t0, .int .i64 t1, .int .i64 t2] 25))
    have ak31_2 := (keepalloc k31_2 (.cells #[.int .i64 t0, .int .i64 t1, .int .i64 t2] 25))
    have ak32_0 := (keepalloc k32_0 (.cells #[.int .i64 t0, .int .i64 t1, .int .i64 t2] 25))
    have ak32_1 := (keepalloc k32_1 (.cells #[.int .i64 t0, .int .i64 t1, .int .i64 t2] 25))
    have ak32_2 := (keepalloc k32_2 (.cells #[.int .i64 t0, .int .i64 t1, .int .i64 t2] 25))
    clear OB OU OA
    cases vo
    · skip
      clear O7
      go_wp2_with fail
      clear k28_0 k28_1 k28_2 k29_0 k29_1 k29_2 k30_0 k30_1 k31_0 k31_1 k31_2 k32_0 k32_1 k32_2 ak28_0 ak28_1 ak28_2 ak29_0 ak29_1 ak29_2 ak30_0 ak30_1 ak31_0 ak31_1 ak31_2 ak32_0 ak32_1 ak32_2
      replace gT := (old_alloc (o' := .cells #[.int .i64 t0, .int .i64 t1, .int .i64 t2] 25) gT)
      replace gU := (old_alloc (o' := .cells #[.int .i64 t0, .int .i64 t1, .int .i64 t2] 25) gU)
      replace gP := (old_alloc (o' := .cells #[.int .i64 t0, .int .i64 t1, .int .i64 t2] 25) gP)
      replace gQ := (old_alloc (o' := .cells #[.int .i64 t0, .int .i64 t1, .int .i64 t2] 25) gQ)
      replace gM := (old_alloc (o' := .cells #[.int .i64 t0, .int .i64 t1, .int .i64 t2] 25) gM)
      have gA := (new_alloc y19 (y19.heap.size) (.cells #[.int .i64 t0, .int .i64 t1, .int .i64 t2] 25) (by simp))
      have hal : Below y19.heap.size y19 (y19.alloc (.cells #[.int .i64 t0, .int .i64 t1, .int .i64 t2] 25)) := (balloc (Below.refl _ _) (.cells #[.int .i64 t0, .int .i64 t1, .int .i64 t2] 25))
      replace HT := hid (HT.out.below hal)
      replace hB := btrans hB hal
      clear hal
      generalize (y19.alloc (.cells #[.int .i64 t0, .int .i64 t1, .int .i64 t2] 25)) = y20 at *
      generalize y19.heap.size = A at *
      obtain ⟨k33_0, k33_1, k33_2, _, _, _⟩ := cellT gT
      obtain ⟨k34_0, k34_1, k34_2, _, _, _⟩ := cellT gU
      obtain ⟨k35_0, k35_1, _, _⟩ := cell2g gP
      obtain ⟨k36_0, k36_1, k36_2, _, _, _⟩ := cellT gQ
      obtain ⟨k37_0, k37_1, k37_2, _, _, _⟩ := cellT gM
      obtain ⟨k38_0, k38_1, k38_2, _, _, _⟩ := cellT gA
      go_wp2_with fail
      refine (CD.out _ HT.out).mono ?_
      rintro e y21 ⟨vd, rfl, da, dc, rfl, hdc, hdo, hcl, _⟩
      clear k33_0 k33_1 k33_2 k34_0 k34_1 k34_2 k35_0 k35_1 k36_0 k36_1 k36_2 k37_0 k37_1 k37_2 k38_0 k38_1 k38_2
      replace gT := keepheap' hcl gT
      replace gU := keepheap' hcl gU
      replace gP := keepheap' hcl gP
      replace gQ := keepheap' hcl gQ
      replace gM := keepheap' hcl gM
      replace gA := keepheap' hcl gA
      replace HT := hid (HT.out.below hcl)
      replace hB := btrans hB hcl
      clear hcl
      have DL := hid hdo.fl
      clear hdo
      obtain ⟨k39_0, k39_1, k39_2, _, _, _⟩ := cellT gT
      obtain ⟨k40_0, k40_1, k40_2, _, _, _⟩ := cellT gU
      obtain ⟨k41_0, k41_1, _, _⟩ := cell2g gP
      obtain ⟨k42_0, k42_1, k42_2, _, _, _⟩ := cellT gQ
      obtain ⟨k43_0, k43_1, k43_2, _, _, _⟩ := cellT gM
      obtain ⟨k44_0, k44_1, k44_2, _, _, _⟩ := cellT gA
      go_wp2_with fail
      refine (CDs.out _).mono ?_
      rintro e y22 ⟨vs, rfl, ma, mc, rfl, hmc, hmo, hcl, _⟩
      clear k39_0 k39_1 k39_2 k40_0 k40_1 k40_2 k41_0 k41_1 k42_0 k42_1 k42_2 k43_0 k43_1 k43_2 k44_0 k44_1 k44_2
      replace gT := keepheap' hcl gT
      replace gU := keepheap' hcl gU
      replace gP := keepheap' hcl gP
      replace gQ := keepheap' hcl gQ
      replace gM := keepheap' hcl gM
      replace gA := keepheap' hcl gA
      replace HT := hid (HT.out.below hcl)
      replace DL := hid (DL.out.below hcl)
      replace hB := btrans hB hcl
      clear hcl
      have ML := hid hmo.fl
      clear hmo
      obtain ⟨k45_0, k45_1, k45_2, _, _, _⟩ := cellT gT
      obtain ⟨k46_0, k46_1, k46_2, _, _, _⟩ := cellT gU
      obtain ⟨k47_0, k47_1, _, _⟩ := cell2g gP
      obtain ⟨k48_0, k48_1, k48_2, _, _, _⟩ := cellT gQ
      obtain ⟨k49_0, k49_1, k49_2, _, _, _⟩ := cellT gM
      obtain ⟨k50_0, k50_1, k50_2, _, _, _⟩ := cellT gA
      go_wp2_with fail
      clear k45_0 k45_1 k45_2 k46_0 k46_1 k46_2 k47_0 k47_1 k48_0 k48_1 k48_2 k49_0 k49_1 k49_2 k50_0 k50_1 k50_2
      go_loopw [24] (fun ti wr => ∃ k : Nat, ti = .int .i64 k ∧ k ≤ n ∧ Hid (BF y22 wr)) (fun ti _ => n - (intOf ti).toNat)
      case atStart => exact ⟨0, rfl, Nat.zero_le _, hid (BF.refl _)⟩
      case round =>
        obtain ⟨k, rfl, hk, HL⟩ := hrel
        have hcl := HL.out
        unfold BF at hcl
        replace gT := keepheap' hcl gT
        replace gU := keepheap' hcl gU
        replace gP := keepheap' hcl gP
        replace gQ := keepheap' hcl gQ
        replace gM := keepheap' hcl gM
        replace gA := keepheap' hcl gA
        replace HT := hid (HT.out.below hcl)
        replace DL := hid (DL.out.below hcl)
        replace ML := hid (ML.out.below hcl)
        replace hB := btrans hB hcl
        clear hcl
        by_cases hlt : k < n
        · skip
          have c1 : (k : Int) < (n : Int) := by omega
          have c2 : (0 : Int) ≤ (k : Int) := by omega
          obtain ⟨k1, k2, k3, k4⟩ := FK.out k hlt
          obtain ⟨p1, o1, rfl, hps, hp⟩ : ∃ b off, da = some ⟨b, off, none⟩ ∧ b < wr.heap.size ∧ FlAt wr b off zs := by
            rcases DL.out with h | h
            · rw [h] at hzl; simp at hzl; omega
            · exact h
          obtain ⟨p2, o2, rfl, hqs, hq⟩ : ∃ b off, ma = some ⟨b, off, none⟩ ∧ b < wr.heap.size ∧ FlAt wr b off zs := by
            rcases ML.out with h | h
            · rw [h] at hzl; simp at hzl; omega
            · exact h
          have x0 := hp (k * 3) (by omega)
          have x1 := hp (k * 3 + 1) (by omega)
          have x2 := hp (k * 3 + 2) (by omega)
          have x3 := hq (k * 3) (by omega)
          have x4 := hq (k * 3 + 1) (by omega)
          have x5 := hq (k * 3 + 2) (by omega)
          rw [← Nat.add_assoc] at x1 x2 x4 x5
          have CX := hid (fun w' (h : Tab w') => impl_tileup (zs.getD (k * 3) 0) (zs.getD (k * 3 + 1) 0) (zs.getD (k * 3 + 2) 0) w' h)
          rw [k1, k2, k3, k4] at CX
          generalize zs.getD (k * 3) 0 = g0 at *
          generalize zs.getD (k * 3 + 1) 0 = g1 at *
          generalize zs.getD (k * 3 + 2) 0 = g2 at *
          clear k1 k2 k3 k4 hp hq
          obtain ⟨k51_0, k51_1, k51_2, _, _, _⟩ := cellT gT
          obtain ⟨k52_0, k52_1, k52_2, _, _, _⟩ := cellT gU
          obtain ⟨k53_0, k53_1, _, _⟩ := cell2g gP
          obtain ⟨k54_0, k54_1, k54_2, _, _, _⟩ := cellT gQ
          obtain ⟨k55_0, k55_1, k55_2, _, _, _⟩ := cellT gM
          obtain ⟨k56_0, k56_1, k56_2, _, _, _⟩ := cellT gA
          go_wp2_with fail
          refine (CX.out _ HT.out).mono ?_
          rintro e y23 ⟨rfl, hcl⟩
          replace x0 := keepcell hcl x0
          replace x1 := keepcell hcl x1
          replace x2 := keepcell hcl x2
          replace x3 := keepcell hcl x3
          replace x4 := keepcell hcl x4
          replace x5 := keepcell hcl x5
          clear k51_0 k51_1 k51_2 k52_0 k52_1 k52_2 k53_0 k53_1 k54_0 k54_1 k54_2 k55_0 k55_1 k55_2 k56_0 k56_1 k56_2
          replace gT := keepheap' hcl gT
          replace gU := keepheap' hcl gU
          replace gP := keepheap' hcl gP
          replace gQ := keepheap' hcl gQ
          replace gM := keepheap' hcl gM
          replace gA := keepheap' hcl gA
          replace HT := hid (HT.out.below hcl)
          replace DL := hid (DL.out.below hcl)
          replace ML := hid (ML.out.below hcl)
          replace HL := hid (HL.out.below hcl)
          replace hB := btrans hB hcl
          clear hcl
          have hl1 : p1 < y23.heap.size := World.block_lt_of_cell? _ _ x0
          have hl2 : p2 < y23.heap.size := World.block_lt_of_cell? _ _ x3
          have ax0 := keepalloc x0 (.cells #[.int .i64 l, .int .i64 c, .int .i64 r] 25)
          have ax1 := keepalloc x1 (.cells #[.int .i64 l, .int .i64 c, .int .i64 r] 25)
          have ax2 := keepalloc x2 (.cells #[.int .i64 l, .int .i64 c, .int .i64 r] 25)
          have ax3 := keepalloc x3 (.cells #[.int .i64 l, .int .i64 c, .int .i64 r] 25)
          have ax4 := keepalloc x4 (.cells #[.int .i64 l, .int .i64 c, .int .i64 r] 25)
          have ax5 := keepalloc x5 (.cells #[.int .i64 l, .int .i64 c, .int .i64 r] 25)
          obtain ⟨k57_0, k57_1, k57_2, _, _, _⟩ := cellT gT
          obtain ⟨k58_0, k58_1, k58_2, _, _, _⟩ := cellT gU
          obtain ⟨k59_0, k59_1, _, _⟩ := cell2g gP
          obtain ⟨k60_0, k60_1, k60_2, _, _, _⟩ := cellT gQ
          obtain ⟨k61_0, k61_1, k61_2, _, _, _⟩ := cellT gM
          obtain ⟨k62_0, k62_1, k62_2, _, _, _⟩ := cellT gA
          have ak57_0 := (keepalloc k57_0 (.cells #[.int .i64 l, .int .i64 c, .int .i64 r] 25))
          have ak57_1 := (keepalloc k57_1 (.cells #[.int .i64 l, .int .i64 c, .int .i64 r] 25))
          have ak57_2 := (keepalloc k57_2 (.cells #[.int .i64 l, .int .i64 c, .int .i64 r] 25))
          have ak58_0 := (keepalloc k58_0 (.cells #[.int .i64 l, .int .i64 c, .int .i64 r] 25))
          have ak58_1 := (keepalloc k58_1 (.cells #[.int .i64 l, .int .i64 c, .int .i64 r] 25))
          have ak58_2 := (keepalloc k58_2 (.cells #[.int .i64 l, .int .i64 c, .int .i64 r] 25))
          have ak59_0 := (keepalloc k59_0 (.cells #[.int .i64 l, .int .i64 c, .int .i64 r] 25))
          have ak59_1 := (keepalloc k59_1 (.cells #[.int .i64 l, .int .i64 c, .int .i64 r] 25))
          have ak60_0 := (keepalloc k60_0 (.cells #[.int .i64 l, .int .i64 c, .int .i64 r] 25))
          have ak60_1 := (keepalloc k60_1 (.cells #[.int .i64 l, .int .i64 c, .int .i64 r] 25))
          have ak60_2 := (keepalloc k60_2 (.cells #[.int .i64 l, .int .i64 c, .int .i64 r] 25))
          have ak61_0 := (keepalloc k61_0 (.cells #[.int .i64 l, .int .i64 c, .int .i64 r] 25))
          have ak61_1 := (keepalloc k61_1 (.cells #[.int .i64 l, .int .i64 c, .int .i64 r] 25))
          have ak61_2 := (keepalloc k61_2 (.cells #[.int .i64 l, .int .i64 c, .int .i64 r] 25))
          have ak62_0 := (keepalloc k62_0 (.cells #[.int .i64 l, .int .i64 c, .int .i64 r] 25))
          have ak62_1 := (keepalloc k62_1 (.cells #[.int .i64 l, .int .i64 c, .int .i64 r] 25))
          have ak62_2 := (keepalloc k62_2 (.cells #[.int .i64 l, .int .i64 c, .int .i64 r] 25))
          go_wp2_with fail
          go_quiet (fail)
          go_wp2_with fail
          go_roundw
          case rel =>
            refine ⟨k + 1, by go_num, by omega, hid ?_⟩
            exact (HL.out.below (balloc (Below.refl _ _) _)).below ⟨rfl, rfl, rfl, Nat.le_refl _, fun _ _ => rfl⟩
          case measure => simp [intOf]; omega
        · skip
          have c1 : (n : Int) ≤ (k : Int) := by omega
          obtain rfl : k = n := by omega
          clear DL ML FK CD CDs HL
          cases uo
          · skip
            obtain ⟨k51_0, k51_1, k51_2, _, _, _⟩ := cellT gT
            obtain ⟨k52_0, k52_1, k52_2, _, _, _⟩ := cellT gU
            obtain ⟨k53_0, k53_1, _, _⟩ := cell2g gP
            obtain ⟨k54_0, k54_1, k54_2, _, _, _⟩ := cellT gQ
            obtain ⟨k55_0, k55_1, k55_2, _, _, _⟩ := cellT gM
            obtain ⟨k56_0, k56_1, k56_2, _, _, _⟩ := cellT gA
            have hu0 := FN.out rfl
            clear FN FD FB
            subst hu0
            go_wp2_with fail
            go_ret
            exact ⟨rfl, hB⟩
          · skip
            obtain ⟨hnu4, i, hi, HK⟩ := FD.out rfl
            obtain ⟨w1, w2, w3, w4, w5, w6, w7⟩ := FB.out rfl
            subst hnu4
            clear FN FD FB
            have HKK := hid HK
            clear HK
            obtain ⟨k51_0, k51_1, k51_2, _, _, _⟩ := cellT gT
            obtain ⟨k52_0, k52_1, k52_2, _, _, _⟩ := cellT gU
            obtain ⟨k53_0, k53_1, _, _⟩ := cell2g gP
            obtain ⟨k54_0, k54_1, k54_2, _, _, _⟩ := cellT gQ
            obtain ⟨k55_0, k55_1, k55_2, _, _, _⟩ := cellT gM
            obtain ⟨k56_0, k56_1, k56_2, _, _, _⟩ := cellT gA
            go_wp2_with fail
            refine (CB.out _ HT.out).mono ?_
            rintro e y23 ⟨rfl, hcl⟩
            clear k51_0 k51_1 k51_2 k52_0 k52_1 k52_2 k53_0 k53_1 k54_0 k54_1 k54_2 k55_0 k55_1 k55_2 k56_0 k56_1 k56_2
            replace gT := keepheap' hcl gT
            replace gU := keepheap' hcl gU
            replace gP := keepheap' hcl gP
            replace gQ := keepheap' hcl gQ
            replace gM := keepheap' hcl gM
            replace gA := keepheap' hcl gA
            replace HT := hid (HT.out.below hcl)
            replace hB := btrans hB hcl
            clear hcl
            obtain ⟨k57_0, k57_1, k57_2, _, _, _⟩ := cellT gT
            obtain ⟨k58_0, k58_1, k58_2, _, _, _⟩ := cellT gU
            obtain ⟨k59_0, k59_1, _, _⟩ := cell2g gP
            obtain ⟨k60_0, k60_1, k60_2, _, _, _⟩ := cellT gQ
            obtain ⟨k61_0, k61_1, k61_2, _, _, _⟩ := cellT gM
            obtain ⟨k62_0, k62_1, k62_2, _, _, _⟩ := cellT gA
            go_wp2_with fail
            refine (CBu.out _ HT.out).mono ?_
            rintro e y24 ⟨rfl, hcl⟩
            clear k57_0 k57_1 k57_2 k58_0 k58_1 k58_2 k59_0 k59_1 k60_0 k60_1 k60_2 k61_0 k61_1 k61_2 k62_0 k62_1 k62_2
            replace gT := keepheap' hcl gT
            replace gU := keepheap' hcl gU
            replace gP := keepheap' hcl gP
            replace gQ := keepheap' hcl gQ
            replace gM := keepheap' hcl gM
            replace gA := keepheap' hcl gA
            replace HT := hid (HT.out.below hcl)
            replace hB := btrans hB hcl
            clear hcl
            obtain ⟨k63_0, k63_1, k63_2, _, _, _⟩ := cellT gT
            obtain ⟨k64_0, k64_1, k64_2, _, _, _⟩ := cellT gU
            obtain ⟨k65_0, k65_1, _, _⟩ := cell2g gP
            obtain ⟨k66_0, k66_1, k66_2, _, _, _⟩ := cellT gQ
            obtain ⟨k67_0, k67_1, k67_2, _, _, _⟩ := cellT gM
            obtain ⟨k68_0, k68_1, k68_2, _, _, _⟩ := cellT gA
            go_wp2_with fail
            refine (CDu.out _ HT.out).mono ?_
            rintro e y25 ⟨vk, rfl, ka, kc, rfl, hkc, hko, hcl, _⟩
            clear k63_0 k63_1 k63_2 k64_0 k64_1 k64_2 k65_0 k65_1 k66_0 k66_1 k66_2 k67_0 k67_1 k67_2 k68_0 k68_1 k68_2
            replace gT := keepheap' hcl gT
            replace gU := keepheap' hcl gU
            replace gP := keepheap' hcl gP
            replace gQ := keepheap' hcl gQ
            replace gM := keepheap' hcl gM
            replace gA := keepheap' hcl gA
            replace HT := hid (HT.out.below hcl)
            replace hB := btrans hB hcl
            clear hcl
            have KL := hid hko.fl
            clear hko
            obtain ⟨k69_0, k69_1, k69_2, _, _, _⟩ := cellT gT
            obtain ⟨k70_0, k70_1, k70_2, _, _, _⟩ := cellT gU
            obtain ⟨k71_0, k71_1, _, _⟩ := cell2g gP
            obtain ⟨k72_0, k72_1, k72_2, _, _, _⟩ := cellT gQ
            obtain ⟨k73_0, k73_1, k73_2, _, _, _⟩ := cellT gM
            obtain ⟨k74_0, k74_1, k74_2, _, _, _⟩ := cellT gA
            go_wp2_with fail
            clear k69_0 k69_1 k69_2 k70_0 k70_1 k70_2 k71_0 k71_1 k72_0 k72_1 k72_2 k73_0 k73_1 k73_2 k74_0 k74_1 k74_2
            go_loopw [35, 37] (fun tm ti wr => ∃ j : Nat, ti = .int .i64 j ∧ tm = .int .i64 (if i < j then 1 else 0) ∧ j ≤ 4 ∧ Hid (BF y25 wr)) (fun _ ti _ => 4 - (intOf ti).toNat)
            case atStart => exact ⟨0, rfl, by simp, by omega, hid (BF.refl _)⟩
            case round =>
              obtain ⟨j, rfl, rfl, hj, HL⟩ := hrel
              have hcl := HL.out
              unfold BF at hcl
              replace gT := keepheap' hcl gT
              replace gU := keepheap' hcl gU
              replace gP := keepheap' hcl gP
              replace gQ := keepheap' hcl gQ
              replace gM := keepheap' hcl gM
              replace gA := keepheap' hcl gA
              replace HT := hid (HT.out.below hcl)
              replace KL := hid (KL.out.below hcl)
              replace hB := btrans hB hcl
              clear hcl
              by_cases hlt : j < 4
              · skip
                have c1 : (j : Int) < 4 := by omega
                have c2 : (0 : Int) ≤ (j : Int) := by omega
                obtain ⟨p1, o1, rfl, hps, hp⟩ : ∃ b off, ka = some ⟨b, off, none⟩ ∧ b < wr.heap.size ∧ FlAt wr b off zu := by
                  rcases KL.out with h | h
                  · rw [h] at hzu; simp at hzu
                  · exact h
                have x0 := hp (j * 3) (by omega)
                have x1 := hp (j * 3 + 1) (by omega)
                have x2 := hp (j * 3 + 2) (by omega)
                rw [← Nat.add_assoc] at x1 x2
                obtain ⟨h1, h2, h3⟩ := HKK.out j hlt
                rw [h1] at x0
                by_cases hji : j = i
                · skip
                  obtain ⟨h4, h5⟩ := h2 hji
                  rw [h4] at x1
                  rw [h5] at x2
                  have i1 : (if i < j then (1 : Int) else 0) = 0 := by rw [if_neg (by omega)]
                  rw [i1]
                  have HJ := hid hji
                  clear hp h1 h2 h3 h4 h5 hji i1
                  obtain ⟨k75_0, k75_1, k75_2, _, _, _⟩ := cellT gT
                  obtain ⟨k76_0, k76_1, k76_2, _, _, _⟩ := cellT gU
                  obtain ⟨k77_0, k77_1, _, _⟩ := cell2g gP
                  obtain ⟨k78_0, k78_1, k78_2, _, _, _⟩ := cellT gQ
                  obtain ⟨k79_0, k79_1, k79_2, _, _, _⟩ := cellT gM
                  obtain ⟨k80_0, k80_1, k80_2, _, _, _⟩ := cellT gA
                  go_wp2_with fail
                  go_quiet (fail)
                  go_wp2_with fail
                  go_roundw
                  case rel => exact ⟨j + 1, by go_num, by rw [if_pos (by have := HJ.out; omega)], by omega, hid (HL.out.below ⟨rfl, rfl, rfl, Nat.le_refl _, fun _ _ => rfl⟩)⟩
                  case measure => simp [intOf]; omega
                · skip
                  have h4 := h3 hji
                  have i1 : (if i < j + 1 then (1 : Int) else 0) = (if i < j then (1 : Int) else 0) := by
                    by_cases q : i < j
                    · rw [if_pos q, if_pos (by omega)]
                    · rw [if_neg q, if_neg (by omega)]
                  generalize (if i < j then (1 : Int) else 0) = cnt at *
                  generalize zu.getD (j * 3 + 1) 0 = g1 at *
                  generalize zu.getD (j * 3 + 2) 0 = g2 at *
                  clear hp h1 h2 h3
                  have I1 := hid i1
                  clear i1
                  by_cases hgc : g1 = c
                  · skip
                    subst hgc
                    have hb : (g2 == r) = false := by rw [beq_eq_false_iff_ne]; omega
                    clear h4
                    obtain ⟨k75_0, k75_1, k75_2, _, _, _⟩ := cellT gT
                    obtain ⟨k76_0, k76_1, k76_2, _, _, _⟩ := cellT gU
                    obtain ⟨k77_0, k77_1, _, _⟩ := cell2g gP
                    obtain ⟨k78_0, k78_1, k78_2, _, _, _⟩ := cellT gQ
                    obtain ⟨k79_0, k79_1, k79_2, _, _, _⟩ := cellT gM
                    obtain ⟨k80_0, k80_1, k80_2, _, _, _⟩ := cellT gA
                    go_wp2_with fail
                    go_quiet (fail)
                    go_wp2_with fail
                    go_roundw
                    case rel => exact ⟨j + 1, by go_num, by rw [I1.out], by omega, hid (HL.out.below ⟨rfl, rfl, rfl, Nat.le_refl _, fun _ _ => rfl⟩)⟩
                    case measure => simp [intOf]; omega
                  · skip
                    have hb : (g1 == c) = false := by rw [beq_eq_false_iff_ne]; exact hgc
                    clear h4
                    obtain ⟨k75_0, k75_1, k75_2, _, _, _⟩ := cellT gT
                    obtain ⟨k76_0, k76_1, k76_2, _, _, _⟩ := cellT gU
                    obtain ⟨k77_0, k77_1, _, _⟩ := cell2g gP
                    obtain ⟨k78_0, k78_1, k78_2, _, _, _⟩ := cellT gQ
                    obtain ⟨k79_0, k79_1, k79_2, _, _, _⟩ := cellT gM
                    obtain ⟨k80_0, k80_1, k80_2, _, _, _⟩ := cellT gA
                    go_wp2_with fail
                    go_quiet (fail)
                    go_wp2_with fail
                    go_roundw
                    case rel => exact ⟨j + 1, by go_num, by rw [I1.out], by omega, hid (HL.out.below ⟨rfl, rfl, rfl, Nat.le_refl _, fun _ _ => rfl⟩)⟩
                    case measure => simp [intOf]; omega
              · skip
                obtain rfl : j = 4 := by omega
                have i1 : (if i < 4 then (1 : Int) else 0) = 1 := by rw [if_pos hi]
                rw [i1]
                have w8 : ¬ (e2 - e0 ≠ 2 * (b2 - b0) + 1) := by omega
                obtain ⟨k75_0, k75_1, k75_2, _, _, _⟩ := cellT gT
                obtain ⟨k76_0, k76_1, k76_2, _, _, _⟩ := cellT gU
                obtain ⟨k77_0, k77_1, _, _⟩ := cell2g gP
                obtain ⟨k78_0, k78_1, k78_2, _, _, _⟩ := cellT gQ
                obtain ⟨k79_0, k79_1, k79_2, _, _, _⟩ := cellT gM
                obtain ⟨k80_0, k80_1, k80_2, _, _, _⟩ := cellT gA
                go_wp2_with fail
                go_ret
                exact ⟨rfl, hB⟩
    · skip
      obtain ⟨r1, r2, r3⟩ := O7.out rfl
      clear O7
      subst r1 r2 r3
      go_wp2_with fail
      clear k28_0 k28_1 k28_2 k29_0 k29_1 k29_2 k30_0 k30_1 k31_0 k31_1 k31_2 k32_0 k32_1 k32_2 ak28_0 ak28_1 ak28_2 ak29_0 ak29_1 ak29_2 ak30_0 ak30_1 ak31_0 ak31_1 ak31_2 ak32_0 ak32_1 ak32_2
      replace gT := (old_alloc (o' := .cells #[.int .i64 v0, .int .i64 v1, .int .i64 v2] 25) gT)
      replace gU := (old_alloc (o' := .cells #[.int .i64 v0, .int .i64 v1, .int .i64 v2] 25) gU)
      replace gP := (old_alloc (o' := .cells #[.int .i64 v0, .int .i64 v1, .int .i64 v2] 25) gP)
      replace gQ := (old_alloc (o' := .cells #[.int .i64 v0, .int .i64 v1, .int .i64 v2] 25) gQ)
      replace gM := (old_alloc (o' := .cells #[.int .i64 v0, .int .i64 v1, .int .i64 v2] 25) gM)
      have gA := (new_alloc y19 (y19.heap.size) (.cells #[.int .i64 v0, .int .i64 v1, .int .i64 v2] 25) (by simp))
      have hal : Below y19.heap.size y19 (y19.alloc (.cells #[.int .i64 v0, .int .i64 v1, .int .i64 v2] 25)) := (balloc (Below.refl _ _) (.cells #[.int .i64 v0, .int .i64 v1, .int .i64 v2] 25))
      replace HT := hid (HT.out.below hal)
      replace hB := btrans hB hal
      clear hal
      generalize (y19.alloc (.cells #[.int .i64 v0, .int .i64 v1, .int .i64 v2] 25)) = y20 at *
      generalize y19.heap.size = A at *
      obtain ⟨k33_0, k33_1, k33_2, _, _, _⟩ := cellT gT
      obtain ⟨k34_0, k34_1, k34_2, _, _, _⟩ := cellT gU
      obtain ⟨k35_0, k35_1, _, _⟩ := cell2g gP
      obtain ⟨k36_0, k36_1, k36_2, _, _, _⟩ := cellT gQ
      obtain ⟨k37_0, k37_1, k37_2, _, _, _⟩ := cellT gM
      obtain ⟨k38_0, k38_1, k38_2, _, _, _⟩ := cellT gA
      go_wp2_with fail
      refine (CD.out _ HT.out).mono ?_
      rintro e y21 ⟨vd, rfl, da, dc, rfl, hdc, hdo, hcl, _⟩
      clear k33_0 k33_1 k33_2 k34_0 k34_1 k34_2 k35_0 k35_1 k36_0 k36_1 k36_2 k37_0 k37_1 k37_2 k38_0 k38_1 k38_2
      replace gT := keepheap' hcl gT
      replace gU := keepheap' hcl gU
      replace gP := keepheap' hcl gP
      replace gQ := keepheap' hcl gQ
      replace gM := keepheap' hcl gM
      replace gA := keepheap' hcl gA
      replace HT := hid (HT.out.below hcl)
      replace hB := btrans hB hcl
      clear hcl
      have DL := hid hdo.fl
      clear hdo
      obtain ⟨k39_0, k39_1, k39_2, _, _, _⟩ := cellT gT
      obtain ⟨k40_0, k40_1, k40_2, _, _, _⟩ := cellT gU
      obtain ⟨k41_0, k41_1, _, _⟩ := cell2g gP
      obtain ⟨k42_0, k42_1, k42_2, _, _, _⟩ := cellT gQ
      obtain ⟨k43_0, k43_1, k43_2, _, _, _⟩ := cellT gM
      obtain ⟨k44_0, k44_1, k44_2, _, _, _⟩ := cellT gA
      go_wp2_with fail
      refine (CDs.out _).mono ?_
      rintro e y22 ⟨vs, rfl, ma, mc, rfl, hmc, hmo, hcl, _⟩
      clear k39_0 k39_1 k39_2 k40_0 k40_1 k40_2 k41_0 k41_1 k42_0 k42_1 k42_2 k43_0 k43_1 k43_2 k44_0 k44_1 k44_2
      replace gT := keepheap' hcl gT
      replace gU := keepheap' hcl gU
      replace gP := keepheap' hcl gP
      replace gQ := keepheap' hcl gQ
      replace gM := keepheap' hcl gM
      replace gA := keepheap' hcl gA
      replace HT := hid (HT.out.below hcl)
      replace DL := hid (DL.out.below hcl)
      replace hB := btrans hB hcl
      clear hcl
      have ML := hid hmo.fl
      clear hmo
      obtain ⟨k45_0, k45_1, k45_2, _, _, _⟩ := cellT gT
      obtain ⟨k46_0, k46_1, k46_2, _, _, _⟩ := cellT gU
      obtain ⟨k47_0, k47_1, _, _⟩ := cell2g gP
      obtain ⟨k48_0, k48_1, k48_2, _, _, _⟩ := cellT gQ
      obtain ⟨k49_0, k49_1, k49_2, _, _, _⟩ := cellT gM
      obtain ⟨k50_0, k50_1, k50_2, _, _, _⟩ := cellT gA
      go_wp2_with fail
      clear k45_0 k45_1 k45_2 k46_0 k46_1 k46_2 k47_0 k47_1 k48_0 k48_1 k48_2 k49_0 k49_1 k49_2 k50_0 k50_1 k50_2
      go_loopw [24] (fun ti wr => ∃ k : Nat, ti = .int .i64 k ∧ k ≤ n ∧ Hid (BF y22 wr)) (fun ti _ => n - (intOf ti).toNat)
      case atStart => exact ⟨0, rfl, Nat.zero_le _, hid (BF.refl _)⟩
      case round =>
        obtain ⟨k, rfl, hk, HL⟩ := hrel
        have hcl := HL.out
        unfold BF at hcl
        replace gT := keepheap' hcl gT
        replace gU := keepheap' hcl gU
        replace gP := keepheap' hcl gP
        replace gQ := keepheap' hcl gQ
        replace gM := keepheap' hcl gM
        replace gA := keepheap' hcl gA
        replace HT := hid (HT.out.below hcl)
        replace DL := hid (DL.out.below hcl)
        replace ML := hid (ML.out.below hcl)
        replace hB := btrans hB hcl
        clear hcl
        by_cases hlt : k < n
        · skip
          have c1 : (k : Int) < (n : Int) := by omega
          have c2 : (0 : Int) ≤ (k : Int) := by omega
          obtain ⟨k1, k2, k3, k4⟩ := FK.out k hlt
          obtain ⟨p1, o1, rfl, hps, hp⟩ : ∃ b off, da = some ⟨b, off, none⟩ ∧ b < wr.heap.size ∧ FlAt wr b off zs := by
            rcases DL.out with h | h
            · rw [h] at hzl; simp at hzl; omega
            · exact h
          obtain ⟨p2, o2, rfl, hqs, hq⟩ : ∃ b off, ma = some ⟨b, off, none⟩ ∧ b < wr.heap.size ∧ FlAt wr b off zs := by
            rcases ML.out with h | h
            · rw [h] at hzl; simp at hzl; omega
            · exact h
          have x0 := hp (k * 3) (by omega)
          have x1 := hp (k * 3 + 1) (by omega)
          have x2 := hp (k * 3 + 2) (by omega)
          have x3 := hq (k * 3) (by omega)
          have x4 := hq (k * 3 + 1) (by omega)
          have x5 := hq (k * 3 + 2) (by omega)
          rw [← Nat.add_assoc] at x1 x2 x4 x5
          have CX := hid (fun w' (h : Tab w') => impl_tileup (zs.getD (k * 3) 0) (zs.getD (k * 3 + 1) 0) (zs.getD (k * 3 + 2) 0) w' h)
          rw [k1, k2, k3, k4] at CX
          generalize zs.getD (k * 3) 0 = g0 at *
          generalize zs.getD (k * 3 + 1) 0 = g1 at *
          generalize zs.getD (k * 3 + 2) 0 = g2 at *
          clear k1 k2 k3 k4 hp hq
          obtain ⟨k51_0, k51_1, k51_2, _, _, _⟩ := cellT gT
          obtain ⟨k52_0, k52_1, k52_2, _, _, _⟩ := cellT gU
          obtain ⟨k53_0, k53_1, _, _⟩ := cell2g gP
          obtain ⟨k54_0, k54_1, k54_2, _, _, _⟩ := cellT gQ
          obtain ⟨k55_0, k55_1, k55_2, _, _, _⟩ := cellT gM
          obtain ⟨k56_0, k56_1, k56_2, _, _, _⟩ := cellT gA
          go_wp2_with fail
          refine (CX.out _ HT.out).mono ?_
          rintro e y23 ⟨rfl, hcl⟩
          replace x0 := keepcell hcl x0
          replace x1 := keepcell hcl x1
          replace x2 := keepcell hcl x2
          replace x3 := keepcell hcl x3
          replace x4 := keepcell hcl x4
          replace x5 := keepcell hcl x5
          clear k51_0 k51_1 k51_2 k52_0 k52_1 k52_2 k53_0 k53_1 k54_0 k54_1 k54_2 k55_0 k55_1 k55_2 k56_0 k56_1 k56_2
          replace gT := keepheap' hcl gT
          replace gU := keepheap' hcl gU
          replace gP := keepheap' hcl gP
          replace gQ := keepheap' hcl gQ
          replace gM := keepheap' hcl gM
          replace gA := keepheap' hcl gA
          replace HT := hid (HT.out.below hcl)
          replace DL := hid (DL.out.below hcl)
          replace ML := hid (ML.out.below hcl)
          replace HL := hid (HL.out.below hcl)
          replace hB := btrans hB hcl
          clear hcl
          have hl1 : p1 < y23.heap.size := World.block_lt_of_cell? _ _ x0
          have hl2 : p2 < y23.heap.size := World.block_lt_of_cell? _ _ x3
          have ax0 := keepalloc x0 (.cells #[.int .i64 l, .int .i64 c, .int .i64 r] 25)
          have ax1 := keepalloc x1 (.cells #[.int .i64 l, .int .i64 c, .int .i64 r] 25)
          have ax2 := keepalloc x2 (.cells #[.int .i64 l, .int .i64 c, .int .i64 r] 25)
          have ax3 := keepalloc x3 (.cells #[.int .i64 l, .int .i64 c, .int .i64 r] 25)
          have ax4 := keepalloc x4 (.cells #[.int .i64 l, .int .i64 c, .int .i64 r] 25)
          have ax5 := keepalloc x5 (.cells #[.int .i64 l, .int .i64 c, .int .i64 r] 25)
          obtain ⟨k57_0, k57_1, k57_2, _, _, _⟩ := cellT gT
          obtain ⟨k58_0, k58_1, k58_2, _, _, _⟩ := cellT gU
          obtain ⟨k59_0, k59_1, _, _⟩ := cell2g gP
          obtain ⟨k60_0, k60_1, k60_2, _, _, _⟩ := cellT gQ
          obtain ⟨k61_0, k61_1, k61_2, _, _, _⟩ := cellT gM
          obtain ⟨k62_0, k62_1, k62_2, _, _, _⟩ := cellT gA
          have ak57_0 := (keepalloc k57_0 (.cells #[.int .i64 l, .int .i64 c, .int .i64 r] 25))
          have ak57_1 := (keepalloc k57_1 (.cells #[.int .i64 l, .int .i64 c, .int .i64 r] 25))
          have ak57_2 := (keepalloc k57_2 (.cells #[.int .i64 l, .int .i64 c, .int .i64 r] 25))
          have ak58_0 := (keepalloc k58_0 (.cells #[.int .i64 l, .int .i64 c, .int .i64 r] 25))
          have ak58_1 := (keepalloc k58_1 (.cells #[.int .i64 l, .int .i64 c, .int .i64 r] 25))
          have ak58_2 := (keepalloc k58_2 (.cells #[.int .i64 l, .int .i64 c, .int .i64 r] 25))
          have ak59_0 := (keepalloc k59_0 (.cells #[.int .i64 l, .int .i64 c, .int .i64 r] 25))
          have ak59_1 := (keepalloc k59_1 (.cells #[.int .i64 l, .int .i64 c, .int .i64 r] 25))
          have ak60_0 := (keepalloc k60_0 (.cells #[.int .i64 l, .int .i64 c, .int .i64 r] 25))
          have ak60_1 := (keepalloc k60_1 (.cells #[.int .i64 l, .int .i64 c, .int .i64 r] 25))
          have ak60_2 := (keepalloc k60_2 (.cells #[.int .i64 l, .int .i64 c, .int .i64 r] 25))
          have ak61_0 := (keepalloc k61_0 (.cells #[.int .i64 l, .int .i64 c, .int .i64 r] 25))
          have ak61_1 := (keepalloc k61_1 (.cells #[.int .i64 l, .int .i64 c, .int .i64 r] 25))
          have ak61_2 := (keepalloc k61_2 (.cells #[.int .i64 l, .int .i64 c, .int .i64 r] 25))
          have ak62_0 := (keepalloc k62_0 (.cells #[.int .i64 l, .int .i64 c, .int .i64 r] 25))
          have ak62_1 := (keepalloc k62_1 (.cells #[.int .i64 l, .int .i64 c, .int .i64 r] 25))
          have ak62_2 := (keepalloc k62_2 (.cells #[.int .i64 l, .int .i64 c, .int .i64 r] 25))
          go_wp2_with fail
          go_quiet (fail)
          go_wp2_with fail
          go_roundw
          case rel =>
            refine ⟨k + 1, by go_num, by omega, hid ?_⟩
            exact (HL.out.below (balloc (Below.refl _ _) _)).below ⟨rfl, rfl, rfl, Nat.le_refl _, fun _ _ => rfl⟩
          case measure => simp [intOf]; omega
        · skip
          have c1 : (n : Int) ≤ (k : Int) := by omega
          obtain rfl : k = n := by omega
          clear DL ML FK CD CDs HL
          cases uo
          · skip
            obtain ⟨k51_0, k51_1, k51_2, _, _, _⟩ := cellT gT
            obtain ⟨k52_0, k52_1, k52_2, _, _, _⟩ := cellT gU
            obtain ⟨k53_0, k53_1, _, _⟩ := cell2g gP
            obtain ⟨k54_0, k54_1, k54_2, _, _, _⟩ := cellT gQ
            obtain ⟨k55_0, k55_1, k55_2, _, _, _⟩ := cellT gM
            obtain ⟨k56_0, k56_1, k56_2, _, _, _⟩ := cellT gA
            have hu0 := FN.out rfl
            clear FN FD FB
            subst hu0
            go_wp2_with fail
            go_ret
            exact ⟨rfl, hB⟩
          · skip
            obtain ⟨hnu4, i, hi, HK⟩ := FD.out rfl
            obtain ⟨w1, w2, w3, w4, w5, w6, w7⟩ := FB.out rfl
            subst hnu4
            clear FN FD FB
            have HKK := hid HK
            clear HK
            obtain ⟨k51_0, k51_1, k51_2, _, _, _⟩ := cellT gT
            obtain ⟨k52_0, k52_1, k52_2, _, _, _⟩ := cellT gU
            obtain ⟨k53_0, k53_1, _, _⟩ := cell2g gP
            obtain ⟨k54_0, k54_1, k54_2, _, _, _⟩ := cellT gQ
            obtain ⟨k55_0, k55_1, k55_2, _, _, _⟩ := cellT gM
            obtain ⟨k56_0, k56_1, k56_2, _, _, _⟩ := cellT gA
            go_wp2_with fail
            refine (CB.out _ HT.out).mono ?_
            rintro e y23 ⟨rfl, hcl⟩
            clear k51_0 k51_1 k51_2 k52_0 k52_1 k52_2 k53_0 k53_1 k54_0 k54_1 k54_2 k55_0 k55_1 k55_2 k56_0 k56_1 k56_2
            replace gT := keepheap' hcl gT
            replace gU := keepheap' hcl gU
            replace gP := keepheap' hcl gP
            replace gQ := keepheap' hcl gQ
            replace gM := keepheap' hcl gM
            replace gA := keepheap' hcl gA
            replace HT := hid (HT.out.below hcl)
            replace hB := btrans hB hcl
            clear hcl
            obtain ⟨k57_0, k57_1, k57_2, _, _, _⟩ := cellT gT
            obtain ⟨k58_0, k58_1, k58_2, _, _, _⟩ := cellT gU
            obtain ⟨k59_0, k59_1, _, _⟩ := cell2g gP
            obtain ⟨k60_0, k60_1, k60_2, _, _, _⟩ := cellT gQ
            obtain ⟨k61_0, k61_1, k61_2, _, _, _⟩ := cellT gM
            obtain ⟨k62_0, k62_1, k62_2, _, _, _⟩ := cellT gA
            go_wp2_with fail
            refine (CBu.out _ HT.out).mono ?_
            rintro e y24 ⟨rfl, hcl⟩
            clear k57_0 k57_1 k57_2 k58_0 k58_1 k58_2 k59_0 k59_1 k60_0 k60_1 k60_2 k61_0 k61_1 k61_2 k62_0 k62_1 k62_2
            replace gT := keepheap' hcl gT
            replace gU := keepheap' hcl gU
            replace gP := keepheap' hcl gP
            replace gQ := keepheap' hcl gQ
            replace gM := keepheap' hcl gM
            replace gA := keepheap' hcl gA
            replace HT := hid (HT.out.below hcl)
            replace hB := btrans hB hcl
            clear hcl
            obtain ⟨k63_0, k63_1, k63_2, _, _, _⟩ := cellT gT
            obtain ⟨k64_0, k64_1, k64_2, _, _, _⟩ := cellT gU
            obtain ⟨k65_0, k65_1, _, _⟩ := cell2g gP
            obtain ⟨k66_0, k66_1, k66_2, _, _, _⟩ := cellT gQ
            obtain ⟨k67_0, k67_1, k67_2, _, _, _⟩ := cellT gM
            obtain ⟨k68_0, k68_1, k68_2, _, _, _⟩ := cellT gA
            go_wp2_with fail
            refine (CDu.out _ HT.out).mono ?_
            rintro e y25 ⟨vk, rfl, ka, kc, rfl, hkc, hko, hcl, _⟩
            clear k63_0 k63_1 k63_2 k64_0 k64_1 k64_2 k65_0 k65_1 k66_0 k66_1 k66_2 k67_0 k67_1 k67_2 k68_0 k68_1 k68_2
            replace gT := keepheap' hcl gT
            replace gU := keepheap' hcl gU
            replace gP := keepheap' hcl gP
            replace gQ := keepheap' hcl gQ
            replace gM := keepheap' hcl gM
            replace gA := keepheap' hcl gA
            replace HT := hid (HT.out.below hcl)
            replace hB := btrans hB hcl
            clear hcl
            have KL := hid hko.fl
            clear hko
            obtain ⟨k69_0, k69_1, k69_2, _, _, _⟩ := cellT gT
            obtain ⟨k70_0, k70_1, k70_2, _, _, _⟩ := cellT gU
            obtain ⟨k71_0, k71_1, _, _⟩ := cell2g gP
            obtain ⟨k72_0, k72_1, k72_2, _, _, _⟩ := cellT gQ
            obtain ⟨k73_0, k73_1, k73_2, _, _, _⟩ := cellT gM
            obtain ⟨k74_0, k74_1, k74_2, _, _, _⟩ := cellT gA
            go_wp2_with fail
            clear k69_0 k69_1 k69_2 k70_0 k70_1 k70_2 k71_0 k71_1 k72_0 k72_1 k72_2 k73_0 k73_1 k73_2 k74_0 k74_1 k74_2
            go_loopw [35, 37] (fun tm ti wr => ∃ j : Nat, ti = .int .i64 j ∧ tm = .int .i64 (if i < j then 1 else 0) ∧ j ≤ 4 ∧ Hid (BF y25 wr)) (fun _ ti _ => 4 - (intOf ti).toNat)
            case atStart => exact ⟨0, rfl, by simp, by omega, hid (BF.refl _)⟩
            case round =>
              obtain ⟨j, rfl, rfl, hj, HL⟩ := hrel
              have hcl := HL.out
              unfold BF at hcl
              replace gT := keepheap' hcl gT
              replace gU := keepheap' hcl gU
              replace gP := keepheap' hcl gP
              replace gQ := keepheap' hcl gQ
              replace gM := keepheap' hcl gM
              replace gA := keepheap' hcl gA
              replace HT := hid (HT.out.below hcl)
              replace KL := hid (KL.out.below hcl)
              replace hB := btrans hB hcl
              clear hcl
              by_cases hlt : j < 4
              · skip
                have c1 : (j : Int) < 4 := by omega
                have c2 : (0 : Int) ≤ (j : Int) := by omega
                obtain ⟨p1, o1, rfl, hps, hp⟩ : ∃ b off, ka = some ⟨b, off, none⟩ ∧ b < wr.heap.size ∧ FlAt wr b off zu := by
                  rcases KL.out with h | h
                  · rw [h] at hzu; simp at hzu
                  · exact h
                have x0 := hp (j * 3) (by omega)
                have x1 := hp (j * 3 + 1) (by omega)
                have x2 := hp (j * 3 + 2) (by omega)
                rw [← Nat.add_assoc] at x1 x2
                obtain ⟨h1, h2, h3⟩ := HKK.out j hlt
                rw [h1] at x0
                by_cases hji : j = i
                · skip
                  obtain ⟨h4, h5⟩ := h2 hji
                  rw [h4] at x1
                  rw [h5] at x2
                  have i1 : (if i < j then (1 : Int) else 0) = 0 := by rw [if_neg (by omega)]
                  rw [i1]
                  have HJ := hid hji
                  clear hp h1 h2 h3 h4 h5 hji i1
                  obtain ⟨k75_0, k75_1, k75_2, _, _, _⟩ := cellT gT
                  obtain ⟨k76_0, k76_1, k76_2, _, _, _⟩ := cellT gU
                  obtain ⟨k77_0, k77_1, _, _⟩ := cell2g gP
                  obtain ⟨k78_0, k78_1, k78_2, _, _, _⟩ := cellT gQ
                  obtain ⟨k79_0, k79_1, k79_2, _, _, _⟩ := cellT gM
                  obtain ⟨k80_0, k80_1, k80_2, _, _, _⟩ := cellT gA
                  go_wp2_with fail
                  go_quiet (fail)
                  go_wp2_with fail
                  go_roundw
                  case rel => exact ⟨j + 1, by go_num, by rw [if_pos (by have := HJ.out; omega)], by omega, hid (HL.out.below ⟨rfl, rfl, rfl, Nat.le_refl _, fun _ _ => rfl⟩)⟩
                  case measure => simp [intOf]; omega
                · skip
                  have h4 := h3 hji
                  have i1 : (if i < j + 1 then (1 : Int) else 0) = (if i < j then (1 : Int) else 0) := by
                    by_cases q : i < j
                    · rw [if_pos q, if_pos (by omega)]
                    · rw [if_neg q, if_neg (by omega)]
                  generalize (if i < j then (1 : Int) else 0) = cnt at *
                  generalize zu.getD (j * 3 + 1) 0 = g1 at *
                  generalize zu.getD (j * 3 + 2) 0 = g2 at *
                  clear hp h1 h2 h3
                  have I1 := hid i1
                  clear i1
                  by_cases hgc : g1 = c
                  · skip
                    subst hgc
                    have hb : (g2 == r) = false := by rw [beq_eq_false_iff_ne]; omega
                    clear h4
                    obtain ⟨k75_0, k75_1, k75_2, _, _, _⟩ := cellT gT
                    obtain ⟨k76_0, k76_1, k76_2, _, _, _⟩ := cellT gU
                    obtain ⟨k77_0, k77_1, _, _⟩ := cell2g gP
                    obtain ⟨k78_0, k78_1, k78_2, _, _, _⟩ := cellT gQ
                    obtain ⟨k79_0, k79_1, k79_2, _, _, _⟩ := cellT gM
                    obtain ⟨k80_0, k80_1, k80_2, _, _, _⟩ := cellT gA
                    go_wp2_with fail
                    go_quiet (fail)
                    go_wp2_with fail
                    go_roundw
                    case rel => exact ⟨j + 1, by go_num, by rw [I1.out], by omega, hid (HL.out.below ⟨rfl, rfl, rfl, Nat.le_refl _, fun _ _ => rfl⟩)⟩
                    case measure => simp [intOf]; omega
                  · skip
                    have hb : (g1 == c) = false := by rw [beq_eq_false_iff_ne]; exact hgc
                    clear h4
                    obtain ⟨k75_0, k75_1, k75_2, _, _, _⟩ := cellT gT
                    obtain ⟨k76_0, k76_1, k76_2, _, _, _⟩ := cellT gU
                    obtain ⟨k77_0, k77_1, _, _⟩ := cell2g gP
                    obtain ⟨k78_0, k78_1, k78_2, _, _, _⟩ := cellT gQ
                    obtain ⟨k79_0, k79_1, k79_2, _, _, _⟩ := cellT gM
                    obtain ⟨k80_0, k80_1, k80_2, _, _, _⟩ := cellT gA
                    go_wp2_with fail
                    go_quiet (fail)
                    go_wp2_with fail
                    go_roundw
                    case rel => exact ⟨j + 1, by go_num, by rw [I1.out], by omega, hid (HL.out.below ⟨rfl, rfl, rfl, Nat.le_refl _, fun _ _ => rfl⟩)⟩
                    case measure => simp [intOf]; omega
              · skip
                obtain rfl : j = 4 := by omega
                have i1 : (if i < 4 then (1 : Int) else 0) = 1 := by rw [if_pos hi]
                rw [i1]
                have w8 : ¬ (e2 - e0 ≠ 2 * (b2 - b0) + 1) := by omega
                obtain ⟨k75_0, k75_1, k75_2, _, _, _⟩ := cellT gT
                obtain ⟨k76_0, k76_1, k76_2, _, _, _⟩ := cellT gU
                obtain ⟨k77_0, k77_1, _, _⟩ := cell2g gP
                obtain ⟨k78_0, k78_1, k78_2, _, _, _⟩ := cellT gQ
                obtain ⟨k79_0, k79_1, k79_2, _, _, _⟩ := cellT gM
                obtain ⟨k80_0, k80_1, k80_2, _, _, _⟩ := cellT gA
                go_wp2_with fail
                go_ret
                exact ⟨rfl, hB⟩
theorem contract (H : Type) (enc : TypeId × Value → H) (W : World) (base : Nat) (args : Array Value) (ds gs : List (DataW H)) (before : List MemPlace)
    (hval0 : ∀ (j : Nat) t v, Tryd.f3.params[j]? = some t → args[j]? = some v → Value.okWide Tryd.prog W .any base t v)
    (hW : DataW.Whole enc Tryd.prog Tryd.f3.params.toList Rows.fnTilesSpec.vars false W args.toList ds gs before) (hL : laidMetH Tryd.prog Rows.fnTilesRow.laid W) :
    Calls Tryd.prog 3 args W fun e W' => ∃ v, e = .returned v ∧ Rows.fnTilesSpec.post enc Tryd.prog Tryd.f3 false true false false W args v W' := by
  have hval : ∀ (j : Nat) t v, Tryd.f3.params[j]? = some t → args[j]? = some v → Value.okWide Tryd.prog W .any base t v := hval0
  have hW' := hW
  obtain ⟨p, q, hA0, hV, rfl, hfz, hnd⟩ := hW
  have hA : DataW.TrodAll enc Tryd.prog W 0 (fun _ => true) true Tryd.f3.params.toList args.toList ds p := hA0
  rw [Tryd.params3] at hA hval
  obtain ⟨v0, vs0, d0, ds0, p0, q0, hargs, rfl, rfl, h0, r0⟩ := trodAll_cons hA
  obtain ⟨rfl, rfl, rfl⟩ := trodAll_nil r0
  obtain rfl : args = #[v0] := by cases args; simp_all
  obtain ⟨_, _, _, _, g1, _, eg, _⟩ := trodVars_one hV
  subst eg
  have k0 := h0
  have lt0 : ∀ x ∈ p0, x.block < W.heap.size := by obtain ⟨m, hm⟩ := k0; exact DataW.trod_lt m _ _ _ hm
  obtain ⟨a0, len0, cap0, rfl⟩ := okWide_slice Tryd.underlying22 (hval 0 22 v0 rfl rfl)
  obtain ⟨z0, w0⟩ : ∃ zs, IsRow .u8 W a0 len0 cap0 zs := by
    obtain ⟨fuel, hf⟩ := h0
    rcases open_ints Tryd.underlying22 Tryd.underlying5 (by kernel_rfl) hf with ⟨hcs, _⟩ | ⟨x, l, c, zs, hcs, _, hl, hm, hz, _, hcell, hwz⟩
    · simp [Value.cells] at hcs
      obtain ⟨rfl, rfl, rfl⟩ := hcs
      exact ⟨[], .inl ⟨rfl, rfl, rfl, rfl⟩⟩
    · simp [Value.cells] at hcs
      obtain ⟨rfl, rfl, rfl⟩ := hcs
      exact ⟨zs, .inr ⟨_, rfl, hl, hm, by simpa using hz, hcell, hwz⟩⟩
  clear hA0 hval0
  refine (walk a0 len0 cap0 z0 W w0 (tab_of_is (Lib.tabIs_of_head (g := 0) (rest := []) (by kernel_rfl) (by kernel_rfl) Tryd.underlying55 Tryd.underlying3 (by kernel_rfl) (by kernel_rfl) hL) (by kernel_rfl))).mono fun e W' ⟨he, bel⟩ => ?_
  subst he
  exact ⟨_, rfl, _, _, _, [], _, _, hW', trodAll_mk1 (shut_bool Tryd.underlying4 _), (trodAll_cons_mk (Below.trod laidOut (by kernel_rfl) (of_decide_eq_true (by kernel_rfl)) k0 bel lt0) trodAll_mk0), Below.trodVars laidOut bel (by kernel_rfl) hV, bel.frame _, fun h => by cases h⟩
def tabs (h : Array Obj) : Array Obj := h
  |>.modify 0 (fun | .cells _ t frozen => .cells #[.int .i64 65536, .int .i64 32768, .int .i64 16384, .int .i64 8192, .int .i64 4096, .int .i64 2048, .int .i64 1024, .int .i64 512, .int .i64 256] t frozen | o => o)
theorem laid_met (os : Os) : laidMet Tryd.prog Rows.fnTilesRow.laid (({ World.holding Tryd.prog os ⟨#[], #[], []⟩ with heap := tabs (World.holding Tryd.prog os ⟨#[], #[], []⟩).heap } : World).forCall (fun _ _ => 0) ⟨#[], #[.slice none 0 0], []⟩).memory :=
  laidMet_of_run' 8 (by kernel_rfl) (by kernel_rfl)
theorem reads (os : Os) {H : Type} (enc : TypeId × Value → H) : ∃ x, DataW.whole enc Tryd.prog (({ World.holding Tryd.prog os ⟨#[], #[], []⟩ with heap := tabs (World.holding Tryd.prog os ⟨#[], #[], []⟩).heap } : World).forCall (fun _ _ => 0) ⟨#[], #[.slice none 0 0], []⟩).memory Tryd.f3.params.toList Rows.fnTilesSpec.vars false (#[.slice none 0 0] : Array Value).toList 8 = some x :=
  Option.isSome_iff_exists.1 (by kernel_rfl)
set_option maxRecDepth 100000 in
theorem lifted (os : Os) (started : os.Started) (H : Type) (enc : TypeId × Value → H) (F : Stop.Interp) :
    ReturnsInHanded {} Tryd.checked os 3 .any ((OpenSpec.ofChange Rows.fnTilesSpec).preRow enc Tryd.prog Tryd.f3 Rows.fnTilesRow.domain false Rows.fnTilesRow.laid) (((OpenSpec.ofChange Rows.fnTilesSpec).at F).post enc Tryd.prog Tryd.f3 false true false false) := by
  obtain ⟨x, hx⟩ := reads os enc
  refine returnsInHanded_of_row (C := Tryd.checked) (s := OpenSpec.ofChange Rows.fnTilesSpec) own started (by kernel_rfl) Tryd.func3
    (witness_row_at (enc := enc) (C := Tryd.checked) false ({ World.holding Tryd.prog os ⟨#[], #[], []⟩ with heap := tabs (World.holding Tryd.prog os ⟨#[], #[], []⟩).heap }) #[.slice none 0 0] rfl (by kernel_rfl) (by kernel_rfl) (by kernel_rfl)
      (OpenSpec.preRow_of_cond 8 hx (by rfl) (fun k hk => by cases hk) (by kernel_rfl) (laid_met os))) ?_
  intro W base args ds gs before hval hW _ _ _ hL _ _
  exact contract H enc W base args ds gs before hval hW hL
theorem said : Rows.FnTilesSaid :=
  OpenClaim.holds_of_cond 3 Tryd.f3 rfl rfl rfl rfl rfl rfl rfl ⟨rfl, rfl, rfl, rfl, rfl⟩ rfl rfl rfl rfl rfl (by kernel_rfl) Tryd.func3 (by kernel_rfl)
    (of_decide_eq_true (by kernel_rfl)) (by unfold Func.isWrapper; first | (rw [if_pos (by decide +kernel)]; kernel_rfl) | (rw [if_neg (by decide +kernel)]; exact ⟨rfl, rfl⟩))
    (fun os started H enc _ F => by rw [OpenClaim.pre_eq_preRow]; exact lifted os started H enc F)
theorem plain (f : FuncId) (fn : Func) (hf : Tryd.pinned.checked.prog.funcNamed Rows.fnTilesRow.func = some f) (hfn : Tryd.pinned.checked.prog.funcs[f]? = some fn) :
    false = Tryd.pinned.checked.prog.looks [] ∧ ∀ (j : Nat) t, fn.params[j]? = some t → Tryd.pinned.checked.prog.wantsStandIn t = false := by
  obtain rfl : f = 3 := Option.some.inj ((show Tryd.prog.funcNamed Rows.fnTilesRow.func = some 3 by kernel_rfl).symm.trans hf) |>.symm
  obtain rfl : fn = Tryd.f3 := (Option.some.inj (Tryd.func3.symm.trans hfn)).symm
  refine ⟨by kernel_rfl, fun j t ht => ?_⟩
  rw [Tryd.params3] at ht
  have hm : t ∈ ([22] : List Nat) := by simpa using Array.mem_of_getElem? ht
  exact (show ∀ t ∈ ([22] : List Nat), Tryd.prog.wantsStandIn t = false from of_decide_eq_true (by kernel_rfl)) t hm
end Go.Proofs.YtncnppkpkemajaaDoor.fnTiles
namespace Go.Proofs.YtncnppkpkemajaaDoor
theorem fnTiles_holds : Rows.FnTilesCardSaid :=
  Claim7.holds_tied_plain_at .later [] _ _ _ _ fnTiles.said (fun _ h => by cases h) (by kernel_rfl) (fun _ h => by cases h) fnTiles_row_tie rfl ⟨rfl, rfl⟩ (by kernel_rfl) rfl fnTiles.plain (by kernel_rfl)
#print axioms fnTiles_holds
end Go.Proofs.YtncnppkpkemajaaDoor
