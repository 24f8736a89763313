/- Two shapes that are moved alike meet just where they did: the law answers true at every code. -/
import Derived.Test.YtkncdncpgjpemaaRows
import Derived.Test.YtkncdncpgjpemaaFacts
import Derived.Test.YtkncdncpgjpemaaMoveL
import Derived.Test.YtkncdncpgjpemaaDrawS5
import Derived.Test.YtkncdncpgjpemaaCode
import Derived.Test.YtkncdncpgjpemaaShBox
import Derived.Test.YtkncdncpgjpemaaRows3
import Derived.WalkKit
import Derived.Deep.DeepCutAuto
import Derived.ProofKit
import Derived.OpenShut
import Derived.ShutString
import Derived.ChangeOld
import Derived.Below
import Derived.Carry
import Derived.Lib.SmallJoins
import Derived.Deep.SlicePairs
namespace Go.Proofs.Ytkncdncpgjpemaa.fnMove
open Go.ChangeShapes Go.WideShapes Go.ChangeAt Go.RowKit Go.Joins
set_option linter.unusedVariables false
set_option linter.unusedSimpArgs false
theorem own : ownKnob Try.prog.godebug = none := by kernel_rfl
theorem laidOut : laidOutB Try.prog = true := by kernel_rfl
set_option maxRecDepth 100000 in
set_option maxHeartbeats 4000000 in
theorem walk (a0 : Option Addr) (len0 cap0 : Nat) (z0 : List Int) (w : World) (w0 : IsRow .u8 w a0 len0 cap0 z0) :
    Calls Try.prog 8 #[.slice a0 len0 cap0] w fun e w' => e = .returned (.bool true) ∧ Below w.heap.size w w' := by
  have hlen := len_of w0
  by_cases hbig : len0 ≤ 1048576
  rotate_left
  · have hd : 1048576 < (len0 : Int) := by omega
    clear w0
    go_enter Try.func8, Try.ntmps8
    go_wp2_with (go_at_call 12; go_in)
    go_ret
    exact ⟨rfl, Below.refl _ _⟩
  have hc := code_of w0 hbig
  have hd : (len0 : Int) ≤ 1048576 := by omega
  have HC := hid hc
  clear hc w0
  go_enter Try.func8, Try.ntmps8
  go_wp2_with (go_at_call 12; go_in)
  refine (draw_move _ a0 len0 cap0 HC.out).mono ?_
  rintro e y0 ⟨kd, ps, ao, cp, dx, dy, rfl, hl, hc, hdx, hdy, hpt, hB⟩
  have hdx1 := hdx.1
  have hdx2 := hdx.2
  have hdy1 := hdy.1
  have hdy2 := hdy.2
  have HP := hid hpt
  have hm : ps.length ≤ 1099511627776 := by omega
  have CI := hid (fun w' (hw : Pts w' ao ps) => impl_Move kd dx dy ao cp ps w' hm hc hw)
  have CS := hid (fun w' (hw : Pts w' ao ps) => spec_Move kd dx dy ao cp ps w' hm hc hw)
  clear hpt hdx hdy
  go_wp2_with fail
  have gS := (new_alloc y0 (y0.heap.size) (.cells #[.int .i64 kd, .slice ao ps.length cp] 52) (by simp))
  have hal : Below y0.heap.size y0 (y0.alloc (.cells #[.int .i64 kd, .slice ao ps.length cp] 52)) := (balloc (Below.refl _ _) (.cells #[.int .i64 kd, .slice ao ps.length cp] 52))
  replace HP := hid (HP.out.below hal)
  replace hB := btrans hB hal
  clear hal
  generalize (y0.alloc (.cells #[.int .i64 kd, .slice ao ps.length cp] 52)) = y1 at *
  generalize y0.heap.size = S at *
  cases hok : mvOk kd ps dx dy
  · skip
    refine (CI.out _ HP.out).mono fun e y2 hmv => ?_
    obtain ⟨at', ct, rfl, hcl⟩ := hmv.no hok
    replace gS := keepheap hcl gS
    replace HP := hid (HP.out.below hcl)
    replace hB := btrans hB hcl
    clear hcl
    obtain ⟨k1_0, k1_1, _, _⟩ := cell2g gS
    have ak1_0 := (keepalloc k1_0 (.cells #[.int .i64 0, .slice at' 0 ct] 52))
    have ak1_1 := (keepalloc k1_1 (.cells #[.int .i64 0, .slice at' 0 ct] 52))
    go_wp2_with fail
    clear k1_0 k1_1 ak1_0 ak1_1
    replace gS := (old_alloc (o' := .cells #[.int .i64 0, .slice at' 0 ct] 52) gS)
    have gT := (new_alloc y2 (y2.heap.size) (.cells #[.int .i64 0, .slice at' 0 ct] 52) (by simp))
    have hal : Below y2.heap.size y2 (y2.alloc (.cells #[.int .i64 0, .slice at' 0 ct] 52)) := (balloc (Below.refl _ _) (.cells #[.int .i64 0, .slice at' 0 ct] 52))
    replace HP := hid (HP.out.below hal)
    replace hB := btrans hB hal
    clear hal
    generalize (y2.alloc (.cells #[.int .i64 0, .slice at' 0 ct] 52)) = y3 at *
    generalize y2.heap.size = T at *
    obtain ⟨k2_0, k2_1, _, _⟩ := cell2g gS
    obtain ⟨k3_0, k3_1, _, _⟩ := cell2g gT
    refine (CS.out _ HP.out).mono fun e y4 hmv => ?_
    obtain ⟨au, cu, rfl, hcl⟩ := hmv.no hok
    clear k2_0 k2_1 k3_0 k3_1
    replace gS := keepheap hcl gS
    replace gT := keepheap hcl gT
    replace HP := hid (HP.out.below hcl)
    replace hB := btrans hB hcl
    clear hcl
    obtain ⟨k4_0, k4_1, _, _⟩ := cell2g gS
    obtain ⟨k5_0, k5_1, _, _⟩ := cell2g gT
    have ak4_0 := (keepalloc k4_0 (.cells #[.int .i64 0, .slice au 0 cu] 52))
    have ak4_1 := (keepalloc k4_1 (.cells #[.int .i64 0, .slice au 0 cu] 52))
    have ak5_0 := (keepalloc k5_0 (.cells #[.int .i64 0, .slice au 0 cu] 52))
    have ak5_1 := (keepalloc k5_1 (.cells #[.int .i64 0, .slice au 0 cu] 52))
    go_wp2_with fail
    clear k4_0 k4_1 k5_0 k5_1 ak4_0 ak4_1 ak5_0 ak5_1
    replace gS := (old_alloc (o' := .cells #[.int .i64 0, .slice au 0 cu] 52) gS)
    replace gT := (old_alloc (o' := .cells #[.int .i64 0, .slice au 0 cu] 52) gT)
    have gU := (new_alloc y4 (y4.heap.size) (.cells #[.int .i64 0, .slice au 0 cu] 52) (by simp))
    have hal : Below y4.heap.size y4 (y4.alloc (.cells #[.int .i64 0, .slice au 0 cu] 52)) := (balloc (Below.refl _ _) (.cells #[.int .i64 0, .slice au 0 cu] 52))
    replace HP := hid (HP.out.below hal)
    replace hB := btrans hB hal
    clear hal
    generalize (y4.alloc (.cells #[.int .i64 0, .slice au 0 cu] 52)) = y5 at *
    generalize y4.heap.size = U at *
    refine (draw_in _ a0 len0 cap0 ((HC.out.below hB).mono hB.size)).mono ?_
    rintro e z1 ⟨ki, ls, ai, ci, x, y, z, u, rfl, hli, hci, hpt, hcl⟩
    replace gS := keepheap hcl gS
    replace gT := keepheap hcl gT
    replace gU := keepheap hcl gU
    replace HP := hid (HP.out.below hcl)
    replace hB := btrans hB hcl
    clear hcl
    have PI := hid hpt
    clear hpt
    obtain ⟨k6_0, k6_1, _, _⟩ := cell2g gS
    obtain ⟨k7_0, k7_1, _, _⟩ := cell2g gT
    obtain ⟨k8_0, k8_1, _, _⟩ := cell2g gU
    have ak6_0 := (keepalloc (keepalloc k6_0 (.cells #[.int .i64 ki, .slice ai ls.length ci] 52)) (.cells #[.int .i64 x, .int .i64 y, .int .i64 z, .int .i64 u] 32))
    have ak6_1 := (keepalloc (keepalloc k6_1 (.cells #[.int .i64 ki, .slice ai ls.length ci] 52)) (.cells #[.int .i64 x, .int .i64 y, .int .i64 z, .int .i64 u] 32))
    have ak7_0 := (keepalloc (keepalloc k7_0 (.cells #[.int .i64 ki, .slice ai ls.length ci] 52)) (.cells #[.int .i64 x, .int .i64 y, .int .i64 z, .int .i64 u] 32))
    have ak7_1 := (keepalloc (keepalloc k7_1 (.cells #[.int .i64 ki, .slice ai ls.length ci] 52)) (.cells #[.int .i64 x, .int .i64 y, .int .i64 z, .int .i64 u] 32))
    have ak8_0 := (keepalloc (keepalloc k8_0 (.cells #[.int .i64 ki, .slice ai ls.length ci] 52)) (.cells #[.int .i64 x, .int .i64 y, .int .i64 z, .int .i64 u] 32))
    have ak8_1 := (keepalloc (keepalloc k8_1 (.cells #[.int .i64 ki, .slice ai ls.length ci] 52)) (.cells #[.int .i64 x, .int .i64 y, .int .i64 z, .int .i64 u] 32))
    go_wp2_with fail
    clear k6_0 k6_1 k7_0 k7_1 k8_0 k8_1 ak6_0 ak6_1 ak7_0 ak7_1 ak8_0 ak8_1
    replace gS := (old_alloc (o' := .cells #[.int .i64 x, .int .i64 y, .int .i64 z, .int .i64 u] 32) (old_alloc (o' := .cells #[.int .i64 ki, .slice ai ls.length ci] 52) gS))
    replace gT := (old_alloc (o' := .cells #[.int .i64 x, .int .i64 y, .int .i64 z, .int .i64 u] 32) (old_alloc (o' := .cells #[.int .i64 ki, .slice ai ls.length ci] 52) gT))
    replace gU := (old_alloc (o' := .cells #[.int .i64 x, .int .i64 y, .int .i64 z, .int .i64 u] 32) (old_alloc (o' := .cells #[.int .i64 ki, .slice ai ls.length ci] 52) gU))
    have gI := (old_alloc (o' := .cells #[.int .i64 x, .int .i64 y, .int .i64 z, .int .i64 u] 32) (new_alloc z1 (z1.heap.size) (.cells #[.int .i64 ki, .slice ai ls.length ci] 52) (by simp)))
    have gJ := (new_alloc (z1.alloc (.cells #[.int .i64 ki, .slice ai ls.length ci] 52)) (z1.heap.size + 1) (.cells #[.int .i64 x, .int .i64 y, .int .i64 z, .int .i64 u] 32) (by simp))
    have hal : Below z1.heap.size z1 ((z1.alloc (.cells #[.int .i64 ki, .slice ai ls.length ci] 52)).alloc (.cells #[.int .i64 x, .int .i64 y, .int .i64 z, .int .i64 u] 32)) := (balloc (balloc (Below.refl _ _) (.cells #[.int .i64 ki, .slice ai ls.length ci] 52)) (.cells #[.int .i64 x, .int .i64 y, .int .i64 z, .int .i64 u] 32))
    replace HP := hid (HP.out.below hal)
    replace PI := hid (PI.out.below hal)
    replace hB := btrans hB hal
    clear hal
    generalize ((z1.alloc (.cells #[.int .i64 ki, .slice ai ls.length ci] 52)).alloc (.cells #[.int .i64 x, .int .i64 y, .int .i64 z, .int .i64 u] 32)) = y6 at *
    generalize z1.heap.size + 1 = J at *
    generalize z1.heap.size = I at *
    have h1 := fun w' (hw : Pts w' ai ls) => impl_ShapeIn ki x y z u ai ci ls w' (by omega) hci hw
    have h2 := fun w' (hw : Pts w' ai ls) => spec_ShapeIn ki x y z u ai ci ls w' (by omega) hci hw
    have HI1 := hid h1
    have HI2 := hid h2
    clear h1 h2
    generalize (shok ki ls && aok ls && hasv x y z u (sv aX ki ls) (sv aY ki ls) (sv bX ki ls) (sv bY' ki ls)) = inn at *
    go_wp2_with fail
    refine wp_region_held_drew (S := (fun w' => w'.heap[S]? = some (.cells #[.int .i64 kd, .slice ao ps.length cp] 52 (0, 0)) ∧ w'.heap[T]? = some (.cells #[.int .i64 0, .slice at' 0 ct] 52 (0, 0)) ∧ w'.heap[U]? = some (.cells #[.int .i64 0, .slice au 0 cu] 52 (0, 0)) ∧ w'.heap[I]? = some (.cells #[.int .i64 ki, .slice ai ls.length ci] 52 (0, 0)) ∧ w'.heap[J]? = some (.cells #[.int .i64 x, .int .i64 y, .int .i64 z, .int .i64 u] 32 (0, 0)))) (by kernel_rfl) ?_ (fun hHeld => ?_)
    · exact ⟨gS, gT, gU, gI, gJ⟩
    replace gS : y6.drew.heap[S]? = some (.cells #[.int .i64 kd, .slice ao ps.length cp] 52 (0, 0)) := gS
    replace gT : y6.drew.heap[T]? = some (.cells #[.int .i64 0, .slice at' 0 ct] 52 (0, 0)) := gT
    replace gU : y6.drew.heap[U]? = some (.cells #[.int .i64 0, .slice au 0 cu] 52 (0, 0)) := gU
    replace gI : y6.drew.heap[I]? = some (.cells #[.int .i64 ki, .slice ai ls.length ci] 52 (0, 0)) := gI
    replace gJ : y6.drew.heap[J]? = some (.cells #[.int .i64 x, .int .i64 y, .int .i64 z, .int .i64 u] 32 (0, 0)) := gJ
    replace HP : Hid (Pts y6.drew ao ps) := hid (HP.out.below (bdrew (Below.refl _ _)))
    replace PI : Hid (Pts y6.drew ai ls) := hid (PI.out.below (bdrew (Below.refl _ _)))
    replace hB := bdrew hB
    generalize y6.drew = y7 at *
    refine wpAnyH_take (i := 0) (v := ?_) rfl (by kernel_rfl) (by kernel_rfl) (by kernel_rfl) (fun _ _ _ h => h) (Or.inl ⟨by rfl, ?_⟩) hHeld ?_
    rotate_left
    · intro w hSw; (try dsimp only at hSw); go_simp; try (with_reducible rfl)
    try simp only [sq]
    refine wpAnyH_take (i := 1) (v := ?_) rfl (by kernel_rfl) (by kernel_rfl) (by kernel_rfl) (fun _ _ _ h => h) (Or.inl ⟨by rfl, ?_⟩) hHeld ?_
    rotate_left
    · intro w hSw; (try dsimp only at hSw); go_simp; try (with_reducible rfl)
    try simp only [sq]
    refine wpAnyH_take (i := 2) (v := ?_) rfl (by kernel_rfl) (by kernel_rfl) (by kernel_rfl) (fun _ _ _ h => h) (Or.inl ⟨by rfl, ?_⟩) hHeld ?_
    rotate_left
    · intro w hSw; (try dsimp only at hSw); go_simp; try (with_reducible rfl)
    try simp only [sq]
    refine wpAnyH_take (i := 3) (v := ?_) rfl (by kernel_rfl) (by kernel_rfl) (by kernel_rfl) (fun _ _ _ h => h) (Or.inl ⟨by rfl, ?_⟩) hHeld ?_
    rotate_left
    · intro w hSw; (try dsimp only at hSw); go_simp; try (with_reducible rfl)
    try simp only [sq]
    refine wpAnyH_take (i := 4) (v := ?_) rfl (by kernel_rfl) (by kernel_rfl) (by kernel_rfl) (fun _ _ _ h => h) (Or.inl ⟨by rfl, ?_⟩) hHeld ?_
    rotate_left
    · intro w hSw; (try dsimp only at hSw); obtain ⟨_, _, _, _⟩ := cell2g (hSw.1); obtain ⟨_, _, _, _⟩ := cell2g (hSw.2.1); obtain ⟨_, _, _, _⟩ := cell2g (hSw.2.2.1); obtain ⟨_, _, _, _⟩ := cell2g (hSw.2.2.2.1); obtain ⟨_, _, _, _, _, _, _, _⟩ := cell4 (hSw.2.2.2.2); go_simp; try (with_reducible rfl)
    try simp only [sq]
    refine wpAnyH_take (i := 5) (v := ?_) rfl (by kernel_rfl) (by kernel_rfl) (by kernel_rfl) (fun _ _ _ h => h) (Or.inl ⟨by rfl, ?_⟩) hHeld ?_
    rotate_left
    · intro w hSw; (try dsimp only at hSw); obtain ⟨_, _, _, _⟩ := cell2g (hSw.1); obtain ⟨_, _, _, _⟩ := cell2g (hSw.2.1); obtain ⟨_, _, _, _⟩ := cell2g (hSw.2.2.1); obtain ⟨_, _, _, _⟩ := cell2g (hSw.2.2.2.1); obtain ⟨_, _, _, _, _, _, _, _⟩ := cell4 (hSw.2.2.2.2); go_simp; try (with_reducible rfl)
    try simp only [sq]
    refine wpAnyH_ready (rs := [6]) (by kernel_rfl) (by simp) ?_
    refine AllReadyH.cons rfl (fun K hK => ?_) AllReadyH.nil
    try simp only [sq]
    go_simp
    go_at_call 58
    refine (same_shape 0 at' au ct cu [] _ (by simp) (by simp) (by simp) (.inl rfl) (.inl rfl)).mono ?_
    rintro e y8 ⟨rfl, hcl⟩
    replace gS := keepheap hcl gS
    replace gT := keepheap hcl gT
    replace gU := keepheap hcl gU
    replace gI := keepheap hcl gI
    replace gJ := keepheap hcl gJ
    replace HP := hid (HP.out.below hcl)
    replace PI := hid (PI.out.below hcl)
    replace hB := btrans hB hcl
    clear hcl
    go_wp2_with fail
    refine hK.out _ _ ?_ (fun hHeld => ?_)
    · exact ⟨gS, gT, gU, gI, gJ⟩
    clear hK K
    try simp only [sq]
    refine wpAnyH_take (i := 7) (v := ?_) rfl (by kernel_rfl) (by kernel_rfl) (by kernel_rfl) (fun _ _ _ h => h) (Or.inl ⟨by rfl, ?_⟩) hHeld ?_
    rotate_left
    · intro w hSw; (try dsimp only at hSw); go_simp; try (with_reducible rfl)
    try simp only [sq]
    refine wpAnyH_take (i := 8) (v := ?_) rfl (by kernel_rfl) (by kernel_rfl) (by kernel_rfl) (fun _ _ _ h => h) (Or.inl ⟨by rfl, ?_⟩) hHeld ?_
    rotate_left
    · intro w hSw; (try dsimp only at hSw); go_simp; try (with_reducible rfl)
    try simp only [sq]
    refine wpAnyH_take (i := 9) (v := ?_) rfl (by kernel_rfl) (by kernel_rfl) (by kernel_rfl) (fun _ _ _ h => h) (Or.inl ⟨by rfl, ?_⟩) hHeld ?_
    rotate_left
    · intro w hSw; (try dsimp only at hSw); go_simp; try (with_reducible rfl)
    try simp only [sq]
    refine wpAnyH_take (i := 10) (v := ?_) rfl (by kernel_rfl) (by kernel_rfl) (by kernel_rfl) (fun _ _ _ h => h) (Or.inl ⟨by rfl, ?_⟩) hHeld ?_
    rotate_left
    · intro w hSw; (try dsimp only at hSw); obtain ⟨_, _, _, _⟩ := cell2g (hSw.1); obtain ⟨_, _, _, _⟩ := cell2g (hSw.2.1); obtain ⟨_, _, _, _⟩ := cell2g (hSw.2.2.1); obtain ⟨_, _, _, _⟩ := cell2g (hSw.2.2.2.1); obtain ⟨_, _, _, _, _, _, _, _⟩ := cell4 (hSw.2.2.2.2); go_simp; try (with_reducible rfl)
    try simp only [sq]
    refine wpAnyH_take (i := 11) (v := ?_) rfl (by kernel_rfl) (by kernel_rfl) (by kernel_rfl) (fun _ _ _ h => h) (Or.inl ⟨by rfl, ?_⟩) hHeld ?_
    rotate_left
    · intro w hSw; (try dsimp only at hSw); obtain ⟨_, _, _, _⟩ := cell2g (hSw.1); obtain ⟨_, _, _, _⟩ := cell2g (hSw.2.1); obtain ⟨_, _, _, _⟩ := cell2g (hSw.2.2.1); obtain ⟨_, _, _, _⟩ := cell2g (hSw.2.2.2.1); obtain ⟨_, _, _, _, _, _, _, _⟩ := cell4 (hSw.2.2.2.2); go_simp; try (with_reducible rfl)
    try simp only [sq]
    refine wpAnyH_take (i := 13) (v := ?_) rfl (by kernel_rfl) (by kernel_rfl) (by kernel_rfl) (fun _ _ _ h => h) (Or.inl ⟨by rfl, ?_⟩) hHeld ?_
    rotate_left
    · intro w hSw; (try dsimp only at hSw); obtain ⟨_, _, _, _⟩ := cell2g (hSw.1); obtain ⟨_, _, _, _⟩ := cell2g (hSw.2.1); obtain ⟨_, _, _, _⟩ := cell2g (hSw.2.2.1); obtain ⟨_, _, _, _⟩ := cell2g (hSw.2.2.2.1); obtain ⟨_, _, _, _, _, _, _, _⟩ := cell4 (hSw.2.2.2.2); go_simp; try (with_reducible rfl)
    try simp only [sq]
    refine wpAnyH_take (i := 14) (v := ?_) rfl (by kernel_rfl) (by kernel_rfl) (by kernel_rfl) (fun _ _ _ h => h) (Or.inl ⟨by rfl, ?_⟩) hHeld ?_
    rotate_left
    · intro w hSw; (try dsimp only at hSw); obtain ⟨_, _, _, _⟩ := cell2g (hSw.1); obtain ⟨_, _, _, _⟩ := cell2g (hSw.2.1); obtain ⟨_, _, _, _⟩ := cell2g (hSw.2.2.1); obtain ⟨_, _, _, _⟩ := cell2g (hSw.2.2.2.1); obtain ⟨_, _, _, _, _, _, _, _⟩ := cell4 (hSw.2.2.2.2); go_simp; try (with_reducible rfl)
    try simp only [sq]
    refine wpAnyH_ready (rs := [12]) (by kernel_rfl) (by simp) ?_
    refine AllReadyH.cons rfl (fun K hK => ?_) AllReadyH.nil
    try simp only [sq]
    go_simp
    go_at_call 53
    refine (HI1.out _ PI.out).mono ?_
    rintro e y9 ⟨rfl, hcl⟩
    replace gS := keepheap hcl gS
    replace gT := keepheap hcl gT
    replace gU := keepheap hcl gU
    replace gI := keepheap hcl gI
    replace gJ := keepheap hcl gJ
    replace HP := hid (HP.out.below hcl)
    replace PI := hid (PI.out.below hcl)
    replace hB := btrans hB hcl
    clear hcl
    go_wp2_with fail
    refine hK.out _ _ ?_ (fun hHeld => ?_)
    · exact ⟨gS, gT, gU, gI, gJ⟩
    clear hK K
    try simp only [sq]
    refine wpAnyH_ready (rs := [15]) (by kernel_rfl) (by simp) ?_
    refine AllReadyH.cons rfl (fun K hK => ?_) AllReadyH.nil
    try simp only [sq]
    go_simp
    go_at_call 59
    refine (HI2.out _ PI.out).mono ?_
    rintro e y10 ⟨rfl, hcl⟩
    replace gS := keepheap hcl gS
    replace gT := keepheap hcl gT
    replace gU := keepheap hcl gU
    replace gI := keepheap hcl gI
    replace gJ := keepheap hcl gJ
    replace HP := hid (HP.out.below hcl)
    replace PI := hid (PI.out.below hcl)
    replace hB := btrans hB hcl
    clear hcl
    go_wp2_with fail
    refine hK.out _ _ ?_ (fun hHeld => ?_)
    · exact ⟨gS, gT, gU, gI, gJ⟩
    clear hK K
    try simp only [sq]
    refine wpAnyH_take (i := 16) (v := ?_) rfl (by kernel_rfl) (by kernel_rfl) (by kernel_rfl) (fun _ _ _ h => h) (Or.inl ⟨by rfl, ?_⟩) hHeld ?_
    rotate_left
    · intro w hSw; (try dsimp only at hSw); go_simp; try (with_reducible rfl)
    try simp only [sq]
    refine wpAnyH_take (i := 17) (v := ?_) rfl (by kernel_rfl) (by kernel_rfl) (by kernel_rfl) (fun _ _ _ h => h) (Or.inl ⟨by rfl, ?_⟩) hHeld ?_
    rotate_left
    · intro w hSw; (try dsimp only at hSw); go_simp; try (with_reducible rfl)
    try simp only [sq]
    refine wpAnyH_done (by kernel_rfl) ?_ _
    clear hHeld
    obtain ⟨k9_0, k9_1, _, _⟩ := cell2g gS
    obtain ⟨k10_0, k10_1, _, _⟩ := cell2g gT
    obtain ⟨k11_0, k11_1, _, _⟩ := cell2g gU
    obtain ⟨k12_0, k12_1, _, _⟩ := cell2g gI
    obtain ⟨k13_0, k13_1, k13_2, k13_3, _, _, _, _⟩ := cell4 gJ
    go_wp2_with fail
    go_ret
    exact ⟨rfl, hB⟩
  · skip
    refine (CI.out _ HP.out).mono fun e y2 hmv => ?_
    obtain ⟨at', ct, rfl, hct, hpt, hcl⟩ := hmv.yes hok
    replace gS := keepheap hcl gS
    replace HP := hid (HP.out.below hcl)
    replace hB := btrans hB hcl
    clear hcl
    have PT' := hid hpt
    clear hpt
    obtain ⟨k1_0, k1_1, _, _⟩ := cell2g gS
    have ak1_0 := (keepalloc k1_0 (.cells #[.int .i64 kd, .slice at' ps.length ct] 52))
    have ak1_1 := (keepalloc k1_1 (.cells #[.int .i64 kd, .slice at' ps.length ct] 52))
    go_wp2_with fail
    clear k1_0 k1_1 ak1_0 ak1_1
    replace gS := (old_alloc (o' := .cells #[.int .i64 kd, .slice at' ps.length ct] 52) gS)
    have gT := (new_alloc y2 (y2.heap.size) (.cells #[.int .i64 kd, .slice at' ps.length ct] 52) (by simp))
    have hal : Below y2.heap.size y2 (y2.alloc (.cells #[.int .i64 kd, .slice at' ps.length ct] 52)) := (balloc (Below.refl _ _) (.cells #[.int .i64 kd, .slice at' ps.length ct] 52))
    replace HP := hid (HP.out.below hal)
    replace PT' := hid (PT'.out.below hal)
    replace hB := btrans hB hal
    clear hal
    generalize (y2.alloc (.cells #[.int .i64 kd, .slice at' ps.length ct] 52)) = y3 at *
    generalize y2.heap.size = T at *
    obtain ⟨k2_0, k2_1, _, _⟩ := cell2g gS
    obtain ⟨k3_0, k3_1, _, _⟩ := cell2g gT
    refine (CS.out _ HP.out).mono fun e y4 hmv => ?_
    obtain ⟨au, cu, rfl, hcu, hpt, hcl⟩ := hmv.yes hok
    clear k2_0 k2_1 k3_0 k3_1
    replace gS := keepheap hcl gS
    replace gT := keepheap hcl gT
    replace HP := hid (HP.out.below hcl)
    replace PT' := hid (PT'.out.below hcl)
    replace hB := btrans hB hcl
    clear hcl
    have PU := hid hpt
    clear hpt
    obtain ⟨k4_0, k4_1, _, _⟩ := cell2g gS
    obtain ⟨k5_0, k5_1, _, _⟩ := cell2g gT
    have ak4_0 := (keepalloc k4_0 (.cells #[.int .i64 kd, .slice au ps.length cu] 52))
    have ak4_1 := (keepalloc k4_1 (.cells #[.int .i64 kd, .slice au ps.length cu] 52))
    have ak5_0 := (keepalloc k5_0 (.cells #[.int .i64 kd, .slice au ps.length cu] 52))
    have ak5_1 := (keepalloc k5_1 (.cells #[.int .i64 kd, .slice au ps.length cu] 52))
    go_wp2_with fail
    clear k4_0 k4_1 k5_0 k5_1 ak4_0 ak4_1 ak5_0 ak5_1
    replace gS := (old_alloc (o' := .cells #[.int .i64 kd, .slice au ps.length cu] 52) gS)
    replace gT := (old_alloc (o' := .cells #[.int .i64 kd, .slice au ps.length cu] 52) gT)
    have gU := (new_alloc y4 (y4.heap.size) (.cells #[.int .i64 kd, .slice au ps.length cu] 52) (by simp))
    have hal : Below y4.heap.size y4 (y4.alloc (.cells #[.int .i64 kd, .slice au ps.length cu] 52)) := (balloc (Below.refl _ _) (.cells #[.int .i64 kd, .slice au ps.length cu] 52))
    replace HP := hid (HP.out.below hal)
    replace PT' := hid (PT'.out.below hal)
    replace PU := hid (PU.out.below hal)
    replace hB := btrans hB hal
    clear hal
    generalize (y4.alloc (.cells #[.int .i64 kd, .slice au ps.length cu] 52)) = y5 at *
    generalize y4.heap.size = U at *
    refine (draw_in _ a0 len0 cap0 ((HC.out.below hB).mono hB.size)).mono ?_
    rintro e z1 ⟨ki, ls, ai, ci, x, y, z, u, rfl, hli, hci, hpt, hcl⟩
    replace gS := keepheap hcl gS
    replace gT := keepheap hcl gT
    replace gU := keepheap hcl gU
    replace HP := hid (HP.out.below hcl)
    replace PT' := hid (PT'.out.below hcl)
    replace PU := hid (PU.out.below hcl)
    replace hB := btrans hB hcl
    clear hcl
    have PI := hid hpt
    clear hpt
    obtain ⟨k6_0, k6_1, _, _⟩ := cell2g gS
    obtain ⟨k7_0, k7_1, _, _⟩ := cell2g gT
    obtain ⟨k8_0, k8_1, _, _⟩ := cell2g gU
    have ak6_0 := (keepalloc (keepalloc k6_0 (.cells #[.int .i64 ki, .slice ai ls.length ci] 52)) (.cells #[.int .i64 x, .int .i64 y, .int .i64 z, .int .i64 u] 32))
    have ak6_1 := (keepalloc (keepalloc k6_1 (.cells #[.int .i64 ki, .slice ai ls.length ci] 52)) (.cells #[.int .i64 x, .int .i64 y, .int .i64 z, .int .i64 u] 32))
    have ak7_0 := (keepalloc (keepalloc k7_0 (.cells #[.int .i64 ki, .slice ai ls.length ci] 52)) (.cells #[.int .i64 x, .int .i64 y, .int .i64 z, .int .i64 u] 32))
    have ak7_1 := (keepalloc (keepalloc k7_1 (.cells #[.int .i64 ki, .slice ai ls.length ci] 52)) (.cells #[.int .i64 x, .int .i64 y, .int .i64 z, .int .i64 u] 32))
    have ak8_0 := (keepalloc (keepalloc k8_0 (.cells #[.int .i64 ki, .slice ai ls.length ci] 52)) (.cells #[.int .i64 x, .int .i64 y, .int .i64 z, .int .i64 u] 32))
    have ak8_1 := (keepalloc (keepalloc k8_1 (.cells #[.int .i64 ki, .slice ai ls.length ci] 52)) (.cells #[.int .i64 x, .int .i64 y, .int .i64 z, .int .i64 u] 32))
    go_wp2_with fail
    clear k6_0 k6_1 k7_0 k7_1 k8_0 k8_1 ak6_0 ak6_1 ak7_0 ak7_1 ak8_0 ak8_1
    replace gS := (old_alloc (o' := .cells #[.int .i64 x, .int .i64 y, .int .i64 z, .int .i64 u] 32) (old_alloc (o' := .cells #[.int .i64 ki, .slice ai ls.length ci] 52) gS))
    replace gT := (old_alloc (o' := .cells #[.int .i64 x, .int .i64 y, .int .i64 z, .int .i64 u] 32) (old_alloc (o' := .cells #[.int .i64 ki, .slice ai ls.length ci] 52) gT))
    replace gU := (old_alloc (o' := .cells #[.int .i64 x, .int .i64 y, .int .i64 z, .int .i64 u] 32) (old_alloc (o' := .cells #[.int .i64 ki, .slice ai ls.length ci] 52) gU))
    have gI := (old_alloc (o' := .cells #[.int .i64 x, .int .i64 y, .int .i64 z, .int .i64 u] 32) (new_alloc z1 (z1.heap.size) (.cells #[.int .i64 ki, .slice ai ls.length ci] 52) (by simp)))
    have gJ := (new_alloc (z1.alloc (.cells #[.int .i64 ki, .slice ai ls.length ci] 52)) (z1.heap.size + 1) (.cells #[.int .i64 x, .int .i64 y, .int .i64 z, .int .i64 u] 32) (by simp))
    have hal : Below z1.heap.size z1 ((z1.alloc (.cells #[.int .i64 ki, .slice ai ls.length ci] 52)).alloc (.cells #[.int .i64 x, .int .i64 y, .int .i64 z, .int .i64 u] 32)) := (balloc (balloc (Below.refl _ _) (.cells #[.int .i64 ki, .slice ai ls.length ci] 52)) (.cells #[.int .i64 x, .int .i64 y, .int .i64 z, .int .i64 u] 32))
    replace HP := hid (HP.out.below hal)
    replace PT' := hid (PT'.out.below hal)
    replace PU := hid (PU.out.below hal)
    replace PI := hid (PI.out.below hal)
    replace hB := btrans hB hal
    clear hal
    generalize ((z1.alloc (.cells #[.int .i64 ki, .slice ai ls.length ci] 52)).alloc (.cells #[.int .i64 x, .int .i64 y, .int .i64 z, .int .i64 u] 32)) = y6 at *
    generalize z1.heap.size + 1 = J at *
    generalize z1.heap.size = I at *
    have hsame := fun w' (h1 : Pts w' at' (ps.map (mp dx dy))) (h2 : Pts w' au (ps.map (mp dx dy))) => same_shape kd at' au ct cu (ps.map (mp dx dy)) w' (by rw [List.length_map]; exact hm) (by rw [List.length_map]; exact hct) (by rw [List.length_map]; exact hcu) h1 h2
    rw [List.length_map] at hsame
    have SAME := hid hsame
    clear hsame
    have h1 := fun w' (hw : Pts w' ai ls) => impl_ShapeIn ki x y z u ai ci ls w' (by omega) hci hw
    have h2 := fun w' (hw : Pts w' ai ls) => spec_ShapeIn ki x y z u ai ci ls w' (by omega) hci hw
    have HI1 := hid h1
    have HI2 := hid h2
    clear h1 h2
    generalize (shok ki ls && aok ls && hasv x y z u (sv aX ki ls) (sv aY ki ls) (sv bX ki ls) (sv bY' ki ls)) = inn at *
    go_wp2_with fail
    refine wp_region_held_drew (S := (fun w' => w'.heap[S]? = some (.cells #[.int .i64 kd, .slice ao ps.length cp] 52 (0, 0)) ∧ w'.heap[T]? = some (.cells #[.int .i64 kd, .slice at' ps.length ct] 52 (0, 0)) ∧ w'.heap[U]? = some (.cells #[.int .i64 kd, .slice au ps.length cu] 52 (0, 0)) ∧ w'.heap[I]? = some (.cells #[.int .i64 ki, .slice ai ls.length ci] 52 (0, 0)) ∧ w'.heap[J]? = some (.cells #[.int .i64 x, .int .i64 y, .int .i64 z, .int .i64 u] 32 (0, 0)))) (by kernel_rfl) ?_ (fun hHeld => ?_)
    · exact ⟨gS, gT, gU, gI, gJ⟩
    replace gS : y6.drew.heap[S]? = some (.cells #[.int .i64 kd, .slice ao ps.length cp] 52 (0, 0)) := gS
    replace gT : y6.drew.heap[T]? = some (.cells #[.int .i64 kd, .slice at' ps.length ct] 52 (0, 0)) := gT
    replace gU : y6.drew.heap[U]? = some (.cells #[.int .i64 kd, .slice au ps.length cu] 52 (0, 0)) := gU
    replace gI : y6.drew.heap[I]? = some (.cells #[.int .i64 ki, .slice ai ls.length ci] 52 (0, 0)) := gI
    replace gJ : y6.drew.heap[J]? = some (.cells #[.int .i64 x, .int .i64 y, .int .i64 z, .int .i64 u] 32 (0, 0)) := gJ
    replace HP : Hid (Pts y6.drew ao ps) := hid (HP.out.below (bdrew (Below.refl _ _)))
    replace PT' : Hid (Pts y6.drew at' (ps.map (mp dx dy))) := hid (PT'.out.below (bdrew (Below.refl _ _)))
    replace PU : Hid (Pts y6.drew au (ps.map (mp dx dy))) := hid (PU.out.below (bdrew (Below.refl _ _)))
    replace PI : Hid (Pts y6.drew ai ls) := hid (PI.out.below (bdrew (Below.refl _ _)))
    replace hB := bdrew hB
    generalize y6.drew = y7 at *
    refine wpAnyH_take (i := 0) (v := ?_) rfl (by kernel_rfl) (by kernel_rfl) (by kernel_rfl) (fun _ _ _ h => h) (Or.inl ⟨by rfl, ?_⟩) hHeld ?_
    rotate_left
    · intro w hSw; (try dsimp only at hSw); go_simp; try (with_reducible rfl)
    try simp only [sq]
    refine wpAnyH_take (i := 1) (v := ?_) rfl (by kernel_rfl) (by kernel_rfl) (by kernel_rfl) (fun _ _ _ h => h) (Or.inl ⟨by rfl, ?_⟩) hHeld ?_
    rotate_left
    · intro w hSw; (try dsimp only at hSw); go_simp; try (with_reducible rfl)
    try simp only [sq]
    refine wpAnyH_take (i := 2) (v := ?_) rfl (by kernel_rfl) (by kernel_rfl) (by kernel_rfl) (fun _ _ _ h => h) (Or.inl ⟨by rfl, ?_⟩) hHeld ?_
    rotate_left
    · intro w hSw; (try dsimp only at hSw); go_simp; try (with_reducible rfl)
    try simp only [sq]
    refine wpAnyH_take (i := 3) (v := ?_) rfl (by kernel_rfl) (by kernel_rfl) (by kernel_rfl) (fun _ _ _ h => h) (Or.inl ⟨by rfl, ?_⟩) hHeld ?_
    rotate_left
    · intro w hSw; (try dsimp only at hSw); go_simp; try (with_reducible rfl)
    try simp only [sq]
    refine wpAnyH_take (i := 4) (v := ?_) rfl (by kernel_rfl) (by kernel_rfl) (by kernel_rfl) (fun _ _ _ h => h) (Or.inl ⟨by rfl, ?_⟩) hHeld ?_
    rotate_left
    · intro w hSw; (try dsimp only at hSw); obtain ⟨_, _, _, _⟩ := cell2g (hSw.1); obtain ⟨_, _, _, _⟩ := cell2g (hSw.2.1); obtain ⟨_, _, _, _⟩ := cell2g (hSw.2.2.1); obtain ⟨_, _, _, _⟩ := cell2g (hSw.2.2.2.1); obtain ⟨_, _, _, _, _, _, _, _⟩ := cell4 (hSw.2.2.2.2); go_simp; try (with_reducible rfl)
    try simp only [sq]
    refine wpAnyH_take (i := 5) (v := ?_) rfl (by kernel_rfl) (by kernel_rfl) (by kernel_rfl) (fun _ _ _ h => h) (Or.inl ⟨by rfl, ?_⟩) hHeld ?_
    rotate_left
    · intro w hSw; (try dsimp only at hSw); obtain ⟨_, _, _, _⟩ := cell2g (hSw.1); obtain ⟨_, _, _, _⟩ := cell2g (hSw.2.1); obtain ⟨_, _, _, _⟩ := cell2g (hSw.2.2.1); obtain ⟨_, _, _, _⟩ := cell2g (hSw.2.2.2.1); obtain ⟨_, _, _, _, _, _, _, _⟩ := cell4 (hSw.2.2.2.2); go_simp; try (with_reducible rfl)
    try simp only [sq]
    refine wpAnyH_ready (rs := [6]) (by kernel_rfl) (by simp) ?_
    refine AllReadyH.cons rfl (fun K hK => ?_) AllReadyH.nil
    try simp only [sq]
    go_simp
    go_at_call 58
    refine (SAME.out _ PT'.out PU.out).mono ?_
    rintro e y8 ⟨rfl, hcl⟩
    replace gS := keepheap hcl gS
    replace gT := keepheap hcl gT
    replace gU := keepheap hcl gU
    replace gI := keepheap hcl gI
    replace gJ := keepheap hcl gJ
    replace HP := hid (HP.out.below hcl)
    replace PT' := hid (PT'.out.below hcl)
    replace PU := hid (PU.out.below hcl)
    replace PI := hid (PI.out.below hcl)
    replace hB := btrans hB hcl
    clear hcl
    go_wp2_with fail
    refine hK.out _ _ ?_ (fun hHeld => ?_)
    · exact ⟨gS, gT, gU, gI, gJ⟩
    clear hK K
    try simp only [sq]
    refine wpAnyH_take (i := 7) (v := ?_) rfl (by kernel_rfl) (by kernel_rfl) (by kernel_rfl) (fun _ _ _ h => h) (Or.inl ⟨by rfl, ?_⟩) hHeld ?_
    rotate_left
    · intro w hSw; (try dsimp only at hSw); go_simp; try (with_reducible rfl)
    try simp only [sq]
    refine wpAnyH_take (i := 8) (v := ?_) rfl (by kernel_rfl) (by kernel_rfl) (by kernel_rfl) (fun _ _ _ h => h) (Or.inl ⟨by rfl, ?_⟩) hHeld ?_
    rotate_left
    · intro w hSw; (try dsimp only at hSw); go_simp; try (with_reducible rfl)
    try simp only [sq]
    refine wpAnyH_take (i := 9) (v := ?_) rfl (by kernel_rfl) (by kernel_rfl) (by kernel_rfl) (fun _ _ _ h => h) (Or.inl ⟨by rfl, ?_⟩) hHeld ?_
    rotate_left
    · intro w hSw; (try dsimp only at hSw); go_simp; try (with_reducible rfl)
    try simp only [sq]
    refine wpAnyH_take (i := 10) (v := ?_) rfl (by kernel_rfl) (by kernel_rfl) (by kernel_rfl) (fun _ _ _ h => h) (Or.inl ⟨by rfl, ?_⟩) hHeld ?_
    rotate_left
    · intro w hSw; (try dsimp only at hSw); obtain ⟨_, _, _, _⟩ := cell2g (hSw.1); obtain ⟨_, _, _, _⟩ := cell2g (hSw.2.1); obtain ⟨_, _, _, _⟩ := cell2g (hSw.2.2.1); obtain ⟨_, _, _, _⟩ := cell2g (hSw.2.2.2.1); obtain ⟨_, _, _, _, _, _, _, _⟩ := cell4 (hSw.2.2.2.2); go_simp; try (with_reducible rfl)
    try simp only [sq]
    refine wpAnyH_take (i := 11) (v := ?_) rfl (by kernel_rfl) (by kernel_rfl) (by kernel_rfl) (fun _ _ _ h => h) (Or.inl ⟨by rfl, ?_⟩) hHeld ?_
    rotate_left
    · intro w hSw; (try dsimp only at hSw); obtain ⟨_, _, _, _⟩ := cell2g (hSw.1); obtain ⟨_, _, _, _⟩ := cell2g (hSw.2.1); obtain ⟨_, _, _, _⟩ := cell2g (hSw.2.2.1); obtain ⟨_, _, _, _⟩ := cell2g (hSw.2.2.2.1); obtain ⟨_, _, _, _, _, _, _, _⟩ := cell4 (hSw.2.2.2.2); go_simp; try (with_reducible rfl)
    try simp only [sq]
    refine wpAnyH_take (i := 13) (v := ?_) rfl (by kernel_rfl) (by kernel_rfl) (by kernel_rfl) (fun _ _ _ h => h) (Or.inl ⟨by rfl, ?_⟩) hHeld ?_
    rotate_left
    · intro w hSw; (try dsimp only at hSw); obtain ⟨_, _, _, _⟩ := cell2g (hSw.1); obtain ⟨_, _, _, _⟩ := cell2g (hSw.2.1); obtain ⟨_, _, _, _⟩ := cell2g (hSw.2.2.1); obtain ⟨_, _, _, _⟩ := cell2g (hSw.2.2.2.1); obtain ⟨_, _, _, _, _, _, _, _⟩ := cell4 (hSw.2.2.2.2); go_simp; try (with_reducible rfl)
    try simp only [sq]
    refine wpAnyH_take (i := 14) (v := ?_) rfl (by kernel_rfl) (by kernel_rfl) (by kernel_rfl) (fun _ _ _ h => h) (Or.inl ⟨by rfl, ?_⟩) hHeld ?_
    rotate_left
    · intro w hSw; (try dsimp only at hSw); obtain ⟨_, _, _, _⟩ := cell2g (hSw.1); obtain ⟨_, _, _, _⟩ := cell2g (hSw.2.1); obtain ⟨_, _, _, _⟩ := cell2g (hSw.2.2.1); obtain ⟨_, _, _, _⟩ := cell2g (hSw.2.2.2.1); obtain ⟨_, _, _, _, _, _, _, _⟩ := cell4 (hSw.2.2.2.2); go_simp; try (with_reducible rfl)
    try simp only [sq]
    refine wpAnyH_ready (rs := [12]) (by kernel_rfl) (by simp) ?_
    refine AllReadyH.cons rfl (fun K hK => ?_) AllReadyH.nil
    try simp only [sq]
    go_simp
    go_at_call 53
    refine (HI1.out _ PI.out).mono ?_
    rintro e y9 ⟨rfl, hcl⟩
    replace gS := keepheap hcl gS
    replace gT := keepheap hcl gT
    replace gU := keepheap hcl gU
    replace gI := keepheap hcl gI
    replace gJ := keepheap hcl gJ
    replace HP := hid (HP.out.below hcl)
    replace PT' := hid (PT'.out.below hcl)
    replace PU := hid (PU.out.below hcl)
    replace PI := hid (PI.out.below hcl)
    replace hB := btrans hB hcl
    clear hcl
    go_wp2_with fail
    refine hK.out _ _ ?_ (fun hHeld => ?_)
    · exact ⟨gS, gT, gU, gI, gJ⟩
    clear hK K
    try simp only [sq]
    refine wpAnyH_ready (rs := [15]) (by kernel_rfl) (by simp) ?_
    refine AllReadyH.cons rfl (fun K hK => ?_) AllReadyH.nil
    try simp only [sq]
    go_simp
    go_at_call 59
    refine (HI2.out _ PI.out).mono ?_
    rintro e y10 ⟨rfl, hcl⟩
    replace gS := keepheap hcl gS
    replace gT := keepheap hcl gT
    replace gU := keepheap hcl gU
    replace gI := keepheap hcl gI
    replace gJ := keepheap hcl gJ
    replace HP := hid (HP.out.below hcl)
    replace PT' := hid (PT'.out.below hcl)
    replace PU := hid (PU.out.below hcl)
    replace PI := hid (PI.out.below hcl)
    replace hB := btrans hB hcl
    clear hcl
    go_wp2_with fail
    refine hK.out _ _ ?_ (fun hHeld => ?_)
    · exact ⟨gS, gT, gU, gI, gJ⟩
    clear hK K
    try simp only [sq]
    refine wpAnyH_take (i := 16) (v := ?_) rfl (by kernel_rfl) (by kernel_rfl) (by kernel_rfl) (fun _ _ _ h => h) (Or.inl ⟨by rfl, ?_⟩) hHeld ?_
    rotate_left
    · intro w hSw; (try dsimp only at hSw); go_simp; try (with_reducible rfl)
    try simp only [sq]
    refine wpAnyH_take (i := 17) (v := ?_) rfl (by kernel_rfl) (by kernel_rfl) (by kernel_rfl) (fun _ _ _ h => h) (Or.inl ⟨by rfl, ?_⟩) hHeld ?_
    rotate_left
    · intro w hSw; (try dsimp only at hSw); go_simp; try (with_reducible rfl)
    try simp only [sq]
    refine wpAnyH_done (by kernel_rfl) ?_ _
    clear hHeld
    have hnx : IntKind.i64.wrap (-dx) = -dx := by rw [IntKind.wrap_i64]; omega
    have hny : IntKind.i64.wrap (-dy) = -dy := by rw [IntKind.wrap_i64]; omega
    clear PI PU HI1 HI2 CS
    obtain ⟨k9_0, k9_1, _, _⟩ := cell2g gS
    obtain ⟨k10_0, k10_1, _, _⟩ := cell2g gT
    go_wp2_with fail
    refine (move_back kd dx dy at' ct 0 ps hok _ hm hct PT'.out).mono ?_
    rintro e y11 ⟨ab, cb, rfl, hcb, hpt, hcl⟩
    clear k9_0 k9_1 k10_0 k10_1
    replace gS := keepheap hcl gS
    replace gT := keepheap hcl gT
    replace HP := hid (HP.out.below hcl)
    replace PT' := hid (PT'.out.below hcl)
    replace hB := btrans hB hcl
    clear hcl
    have PB := hid hpt
    clear hpt
    obtain ⟨k11_0, k11_1, _, _⟩ := cell2g gS
    obtain ⟨k12_0, k12_1, _, _⟩ := cell2g gT
    have ak11_0 := (keepalloc k11_0 (.cells #[.int .i64 kd, .slice ab ps.length cb] 52))
    have ak11_1 := (keepalloc k11_1 (.cells #[.int .i64 kd, .slice ab ps.length cb] 52))
    have ak12_0 := (keepalloc k12_0 (.cells #[.int .i64 kd, .slice ab ps.length cb] 52))
    have ak12_1 := (keepalloc k12_1 (.cells #[.int .i64 kd, .slice ab ps.length cb] 52))
    go_wp2_with fail
    clear k11_0 k11_1 k12_0 k12_1 ak11_0 ak11_1 ak12_0 ak12_1
    replace gS := (old_alloc (o' := .cells #[.int .i64 kd, .slice ab ps.length cb] 52) gS)
    replace gT := (old_alloc (o' := .cells #[.int .i64 kd, .slice ab ps.length cb] 52) gT)
    have gB := (new_alloc y11 (y11.heap.size) (.cells #[.int .i64 kd, .slice ab ps.length cb] 52) (by simp))
    have hal : Below y11.heap.size y11 (y11.alloc (.cells #[.int .i64 kd, .slice ab ps.length cb] 52)) := (balloc (Below.refl _ _) (.cells #[.int .i64 kd, .slice ab ps.length cb] 52))
    replace HP := hid (HP.out.below hal)
    replace PT' := hid (PT'.out.below hal)
    replace PB := hid (PB.out.below hal)
    replace hB := btrans hB hal
    clear hal
    generalize (y11.alloc (.cells #[.int .i64 kd, .slice ab ps.length cb] 52)) = y12 at *
    generalize y11.heap.size = Bk at *
    refine (draw_meet _ a0 len0 cap0 ((HC.out.below hB).mono hB.size)).mono ?_
    rintro e z2 ⟨k2, qs, a2, c2, k3, rs, a3, c3, rfl, hl2, hc2, hl3, hc3, hpt, hpt2, hcl⟩
    replace gS := keepheap hcl gS
    replace gT := keepheap hcl gT
    replace gB := keepheap hcl gB
    replace HP := hid (HP.out.below hcl)
    replace PT' := hid (PT'.out.below hcl)
    replace PB := hid (PB.out.below hcl)
    replace hB := btrans hB hcl
    clear hcl
    have PQ := hid hpt
    clear hpt hpt2
    obtain ⟨k13_0, k13_1, _, _⟩ := cell2g gS
    obtain ⟨k14_0, k14_1, _, _⟩ := cell2g gT
    obtain ⟨k15_0, k15_1, _, _⟩ := cell2g gB
    have ak13_0 := (keepalloc (keepalloc k13_0 (.cells #[.int .i64 k2, .slice a2 qs.length c2] 52)) (.cells #[.int .i64 k3, .slice a3 rs.length c3] 52))
    have ak13_1 := (keepalloc (keepalloc k13_1 (.cells #[.int .i64 k2, .slice a2 qs.length c2] 52)) (.cells #[.int .i64 k3, .slice a3 rs.length c3] 52))
    have ak14_0 := (keepalloc (keepalloc k14_0 (.cells #[.int .i64 k2, .slice a2 qs.length c2] 52)) (.cells #[.int .i64 k3, .slice a3 rs.length c3] 52))
    have ak14_1 := (keepalloc (keepalloc k14_1 (.cells #[.int .i64 k2, .slice a2 qs.length c2] 52)) (.cells #[.int .i64 k3, .slice a3 rs.length c3] 52))
    have ak15_0 := (keepalloc (keepalloc k15_0 (.cells #[.int .i64 k2, .slice a2 qs.length c2] 52)) (.cells #[.int .i64 k3, .slice a3 rs.length c3] 52))
    have ak15_1 := (keepalloc (keepalloc k15_1 (.cells #[.int .i64 k2, .slice a2 qs.length c2] 52)) (.cells #[.int .i64 k3, .slice a3 rs.length c3] 52))
    go_wp2_with fail
    clear k13_0 k13_1 k14_0 k14_1 k15_0 k15_1 ak13_0 ak13_1 ak14_0 ak14_1 ak15_0 ak15_1
    replace gS := (old_alloc (o' := .cells #[.int .i64 k3, .slice a3 rs.length c3] 52) (old_alloc (o' := .cells #[.int .i64 k2, .slice a2 qs.length c2] 52) gS))
    replace gT := (old_alloc (o' := .cells #[.int .i64 k3, .slice a3 rs.length c3] 52) (old_alloc (o' := .cells #[.int .i64 k2, .slice a2 qs.length c2] 52) gT))
    replace gB := (old_alloc (o' := .cells #[.int .i64 k3, .slice a3 rs.length c3] 52) (old_alloc (o' := .cells #[.int .i64 k2, .slice a2 qs.length c2] 52) gB))
    have gQ := (old_alloc (o' := .cells #[.int .i64 k3, .slice a3 rs.length c3] 52) (new_alloc z2 (z2.heap.size) (.cells #[.int .i64 k2, .slice a2 qs.length c2] 52) (by simp)))
    have gR := (new_alloc (z2.alloc (.cells #[.int .i64 k2, .slice a2 qs.length c2] 52)) (z2.heap.size + 1) (.cells #[.int .i64 k3, .slice a3 rs.length c3] 52) (by simp))
    have hal : Below z2.heap.size z2 ((z2.alloc (.cells #[.int .i64 k2, .slice a2 qs.length c2] 52)).alloc (.cells #[.int .i64 k3, .slice a3 rs.length c3] 52)) := (balloc (balloc (Below.refl _ _) (.cells #[.int .i64 k2, .slice a2 qs.length c2] 52)) (.cells #[.int .i64 k3, .slice a3 rs.length c3] 52))
    replace HP := hid (HP.out.below hal)
    replace PT' := hid (PT'.out.below hal)
    replace PB := hid (PB.out.below hal)
    replace PQ := hid (PQ.out.below hal)
    replace hB := btrans hB hal
    clear hal
    generalize ((z2.alloc (.cells #[.int .i64 k2, .slice a2 qs.length c2] 52)).alloc (.cells #[.int .i64 k3, .slice a3 rs.length c3] 52)) = y13 at *
    generalize z2.heap.size + 1 = R at *
    generalize z2.heap.size = Q at *
    have hm2 : qs.length ≤ 1099511627776 := by omega
    have C2 := hid (fun w' (hw : Pts w' a2 qs) => impl_Move k2 dx dy a2 c2 qs w' hm2 hc2 hw)
    obtain ⟨k16_0, k16_1, _, _⟩ := cell2g gS
    obtain ⟨k17_0, k17_1, _, _⟩ := cell2g gT
    obtain ⟨k18_0, k18_1, _, _⟩ := cell2g gB
    obtain ⟨k19_0, k19_1, _, _⟩ := cell2g gQ
    obtain ⟨k20_0, k20_1, _, _⟩ := cell2g gR
    go_wp2_with fail
    cases hok2 : mvOk k2 qs dx dy
    · skip
      refine (C2.out _ PQ.out).mono fun e y14 hmv => ?_
      obtain ⟨am, cm, rfl, hcl⟩ := hmv.no hok2
      clear k16_0 k16_1 k17_0 k17_1 k18_0 k18_1 k19_0 k19_1 k20_0 k20_1
      replace gS := keepheap hcl gS
      replace gT := keepheap hcl gT
      replace gB := keepheap hcl gB
      replace gQ := keepheap hcl gQ
      replace gR := keepheap hcl gR
      replace HP := hid (HP.out.below hcl)
      replace PT' := hid (PT'.out.below hcl)
      replace PB := hid (PB.out.below hcl)
      replace PQ := hid (PQ.out.below hcl)
      replace hB := btrans hB hcl
      clear hcl
      obtain ⟨k21_0, k21_1, _, _⟩ := cell2g gS
      obtain ⟨k22_0, k22_1, _, _⟩ := cell2g gT
      obtain ⟨k23_0, k23_1, _, _⟩ := cell2g gB
      obtain ⟨k24_0, k24_1, _, _⟩ := cell2g gQ
      obtain ⟨k25_0, k25_1, _, _⟩ := cell2g gR
      have ak21_0 := (keepalloc k21_0 (.cells #[.int .i64 0, .slice am 0 cm] 52))
      have ak21_1 := (keepalloc k21_1 (.cells #[.int .i64 0, .slice am 0 cm] 52))
      have ak22_0 := (keepalloc k22_0 (.cells #[.int .i64 0, .slice am 0 cm] 52))
      have ak22_1 := (keepalloc k22_1 (.cells #[.int .i64 0, .slice am 0 cm] 52))
      have ak23_0 := (keepalloc k23_0 (.cells #[.int .i64 0, .slice am 0 cm] 52))
      have ak23_1 := (keepalloc k23_1 (.cells #[.int .i64 0, .slice am 0 cm] 52))
      have ak24_0 := (keepalloc k24_0 (.cells #[.int .i64 0, .slice am 0 cm] 52))
      have ak24_1 := (keepalloc k24_1 (.cells #[.int .i64 0, .slice am 0 cm] 52))
      have ak25_0 := (keepalloc k25_0 (.cells #[.int .i64 0, .slice am 0 cm] 52))
      have ak25_1 := (keepalloc k25_1 (.cells #[.int .i64 0, .slice am 0 cm] 52))
      go_wp2_with fail
      clear k21_0 k21_1 k22_0 k22_1 k23_0 k23_1 k24_0 k24_1 k25_0 k25_1 ak21_0 ak21_1 ak22_0 ak22_1 ak23_0 ak23_1 ak24_0 ak24_1 ak25_0 ak25_1
      replace gS := (old_alloc (o' := .cells #[.int .i64 0, .slice am 0 cm] 52) gS)
      replace gT := (old_alloc (o' := .cells #[.int .i64 0, .slice am 0 cm] 52) gT)
      replace gB := (old_alloc (o' := .cells #[.int .i64 0, .slice am 0 cm] 52) gB)
      replace gQ := (old_alloc (o' := .cells #[.int .i64 0, .slice am 0 cm] 52) gQ)
      replace gR := (old_alloc (o' := .cells #[.int .i64 0, .slice am 0 cm] 52) gR)
      have gM := (new_alloc y14 (y14.heap.size) (.cells #[.int .i64 0, .slice am 0 cm] 52) (by simp))
      have hal : Below y14.heap.size y14 (y14.alloc (.cells #[.int .i64 0, .slice am 0 cm] 52)) := (balloc (Below.refl _ _) (.cells #[.int .i64 0, .slice am 0 cm] 52))
      replace HP := hid (HP.out.below hal)
      replace PT' := hid (PT'.out.below hal)
      replace PB := hid (PB.out.below hal)
      replace PQ := hid (PQ.out.below hal)
      replace hB := btrans hB hal
      clear hal
      generalize (y14.alloc (.cells #[.int .i64 0, .slice am 0 cm] 52)) = y15 at *
      generalize y14.heap.size = M at *
      have S2 := hid (fun w' (h1 : Pts w' ab ps) (h2 : Pts w' ao ps) => same_shape kd ab ao cb cp ps w' hm hcb hc h1 h2)
      refine wp_region_held_drew (S := (fun w' => w'.heap[S]? = some (.cells #[.int .i64 kd, .slice ao ps.length cp] 52 (0, 0)) ∧ w'.heap[T]? = some (.cells #[.int .i64 kd, .slice at' ps.length ct] 52 (0, 0)) ∧ w'.heap[Bk]? = some (.cells #[.int .i64 kd, .slice ab ps.length cb] 52 (0, 0)) ∧ w'.heap[Q]? = some (.cells #[.int .i64 k2, .slice a2 qs.length c2] 52 (0, 0)) ∧ w'.heap[R]? = some (.cells #[.int .i64 k3, .slice a3 rs.length c3] 52 (0, 0)) ∧ w'.heap[M]? = some (.cells #[.int .i64 0, .slice am 0 cm] 52 (0, 0)))) (by kernel_rfl) ?_ (fun hHeld => ?_)
      · exact ⟨gS, gT, gB, gQ, gR, gM⟩
      replace gS : y15.drew.heap[S]? = some (.cells #[.int .i64 kd, .slice ao ps.length cp] 52 (0, 0)) := gS
      replace gT : y15.drew.heap[T]? = some (.cells #[.int .i64 kd, .slice at' ps.length ct] 52 (0, 0)) := gT
      replace gB : y15.drew.heap[Bk]? = some (.cells #[.int .i64 kd, .slice ab ps.length cb] 52 (0, 0)) := gB
      replace gQ : y15.drew.heap[Q]? = some (.cells #[.int .i64 k2, .slice a2 qs.length c2] 52 (0, 0)) := gQ
      replace gR : y15.drew.heap[R]? = some (.cells #[.int .i64 k3, .slice a3 rs.length c3] 52 (0, 0)) := gR
      replace gM : y15.drew.heap[M]? = some (.cells #[.int .i64 0, .slice am 0 cm] 52 (0, 0)) := gM
      replace HP : Hid (Pts y15.drew ao ps) := hid (HP.out.below (bdrew (Below.refl _ _)))
      replace PT' : Hid (Pts y15.drew at' (ps.map (mp dx dy))) := hid (PT'.out.below (bdrew (Below.refl _ _)))
      replace PB : Hid (Pts y15.drew ab ps) := hid (PB.out.below (bdrew (Below.refl _ _)))
      replace PQ : Hid (Pts y15.drew a2 qs) := hid (PQ.out.below (bdrew (Below.refl _ _)))
      replace hB := bdrew hB
      generalize y15.drew = y16 at *
      refine wpAnyH_take (i := 0) (v := ?_) rfl (by kernel_rfl) (by kernel_rfl) (by kernel_rfl) (fun _ _ _ h => h) (Or.inl ⟨by rfl, ?_⟩) hHeld ?_
      rotate_left
      · intro w hSw; (try dsimp only at hSw); go_simp; try (with_reducible rfl)
      try simp only [sq]
      refine wpAnyH_take (i := 1) (v := ?_) rfl (by kernel_rfl) (by kernel_rfl) (by kernel_rfl) (fun _ _ _ h => h) (Or.inl ⟨by rfl, ?_⟩) hHeld ?_
      rotate_left
      · intro w hSw; (try dsimp only at hSw); go_simp; try (with_reducible rfl)
      try simp only [sq]
      refine wpAnyH_take (i := 2) (v := ?_) rfl (by kernel_rfl) (by kernel_rfl) (by kernel_rfl) (fun _ _ _ h => h) (Or.inl ⟨by rfl, ?_⟩) hHeld ?_
      rotate_left
      · intro w hSw; (try dsimp only at hSw); obtain ⟨_, _, _, _⟩ := cell2g (hSw.1); obtain ⟨_, _, _, _⟩ := cell2g (hSw.2.1); obtain ⟨_, _, _, _⟩ := cell2g (hSw.2.2.1); obtain ⟨_, _, _, _⟩ := cell2g (hSw.2.2.2.1); obtain ⟨_, _, _, _⟩ := cell2g (hSw.2.2.2.2.1); obtain ⟨_, _, _, _⟩ := cell2g (hSw.2.2.2.2.2); go_simp; try (with_reducible rfl)
      try simp only [sq]
      refine wpAnyH_take (i := 3) (v := ?_) rfl (by kernel_rfl) (by kernel_rfl) (by kernel_rfl) (fun _ _ _ h => h) (Or.inl ⟨by rfl, ?_⟩) hHeld ?_
      rotate_left
      · intro w hSw; (try dsimp only at hSw); obtain ⟨_, _, _, _⟩ := cell2g (hSw.1); obtain ⟨_, _, _, _⟩ := cell2g (hSw.2.1); obtain ⟨_, _, _, _⟩ := cell2g (hSw.2.2.1); obtain ⟨_, _, _, _⟩ := cell2g (hSw.2.2.2.1); obtain ⟨_, _, _, _⟩ := cell2g (hSw.2.2.2.2.1); obtain ⟨_, _, _, _⟩ := cell2g (hSw.2.2.2.2.2); go_simp; try (with_reducible rfl)
      try simp only [sq]
      refine wpAnyH_ready (rs := [4]) (by kernel_rfl) (by simp) ?_
      refine AllReadyH.cons rfl (fun K hK => ?_) AllReadyH.nil
      try simp only [sq]
      go_simp
      go_at_call 58
      refine (S2.out _ PB.out HP.out).mono ?_
      rintro e y17 ⟨rfl, hcl⟩
      replace gS := keepheap hcl gS
      replace gT := keepheap hcl gT
      replace gB := keepheap hcl gB
      replace gQ := keepheap hcl gQ
      replace gR := keepheap hcl gR
      replace gM := keepheap hcl gM
      replace HP := hid (HP.out.below hcl)
      replace PT' := hid (PT'.out.below hcl)
      replace PB := hid (PB.out.below hcl)
      replace PQ := hid (PQ.out.below hcl)
      replace hB := btrans hB hcl
      clear hcl
      go_wp2_with fail
      refine hK.out _ _ ?_ (fun hHeld => ?_)
      · exact ⟨gS, gT, gB, gQ, gR, gM⟩
      clear hK K
      try simp only [sq]
      refine wpAnyH_take (i := 5) (v := ?_) rfl (by kernel_rfl) (by kernel_rfl) (by kernel_rfl) (fun _ _ _ h => h) (Or.inl ⟨by rfl, ?_⟩) hHeld ?_
      rotate_left
      · intro w hSw; (try dsimp only at hSw); go_simp; try (with_reducible rfl)
      try simp only [sq]
      refine wpAnyH_take (i := 6) (v := ?_) rfl (by kernel_rfl) (by kernel_rfl) (by kernel_rfl) (fun _ _ _ h => h) (Or.inl ⟨by rfl, ?_⟩) hHeld ?_
      rotate_left
      · intro w hSw; (try dsimp only at hSw); go_simp; try (with_reducible rfl)
      try simp only [sq]
      refine wpAnyH_take (i := 7) (v := ?_) rfl (by kernel_rfl) (by kernel_rfl) (by kernel_rfl) (fun _ _ _ h => h) (Or.inl ⟨by rfl, ?_⟩) hHeld ?_
      rotate_left
      · intro w hSw; (try dsimp only at hSw); go_simp; try (with_reducible rfl)
      try simp only [sq]
      refine wpAnyH_take (i := 8) (v := ?_) rfl (by kernel_rfl) (by kernel_rfl) (by kernel_rfl) (fun _ _ _ h => h) (Or.inl ⟨by rfl, ?_⟩) hHeld ?_
      rotate_left
      · intro w hSw; (try dsimp only at hSw); go_simp; try (with_reducible rfl)
      try simp only [sq]
      refine wpAnyH_take (i := 9) (v := ?_) rfl (by kernel_rfl) (by kernel_rfl) (by kernel_rfl) (fun _ _ _ h => h) (Or.inl ⟨by rfl, ?_⟩) hHeld ?_
      rotate_left
      · intro w hSw; (try dsimp only at hSw); go_simp; try (with_reducible rfl)
      try simp only [sq]
      refine wpAnyH_take (i := 10) (v := undef) rfl (by kernel_rfl) (by kernel_rfl) (by kernel_rfl) (fun _ _ _ h => h) (Or.inr ⟨by rfl, rfl⟩) hHeld ?_
      try simp only [sq]
      refine wpAnyH_take (i := 11) (v := undef) rfl (by kernel_rfl) (by kernel_rfl) (by kernel_rfl) (fun _ _ _ h => h) (Or.inr ⟨by rfl, rfl⟩) hHeld ?_
      try simp only [sq]
      refine wpAnyH_take (i := 12) (v := undef) rfl (by kernel_rfl) (by kernel_rfl) (by kernel_rfl) (fun _ _ _ h => h) (Or.inr ⟨by rfl, rfl⟩) hHeld ?_
      try simp only [sq]
      refine wpAnyH_take (i := 13) (v := undef) rfl (by kernel_rfl) (by kernel_rfl) (by kernel_rfl) (fun _ _ _ h => h) (Or.inr ⟨by rfl, rfl⟩) hHeld ?_
      try simp only [sq]
      refine wpAnyH_take (i := 14) (v := undef) rfl (by kernel_rfl) (by kernel_rfl) (by kernel_rfl) (fun _ _ _ h => h) (Or.inr ⟨by rfl, rfl⟩) hHeld ?_
      try simp only [sq]
      refine wpAnyH_take (i := 15) (v := undef) rfl (by kernel_rfl) (by kernel_rfl) (by kernel_rfl) (fun _ _ _ h => h) (Or.inr ⟨by rfl, rfl⟩) hHeld ?_
      try simp only [sq]
      refine wpAnyH_take (i := 16) (v := undef) rfl (by kernel_rfl) (by kernel_rfl) (by kernel_rfl) (fun _ _ _ h => h) (Or.inr ⟨by rfl, rfl⟩) hHeld ?_
      try simp only [sq]
      refine wpAnyH_take (i := 17) (v := ?_) rfl (by kernel_rfl) (by kernel_rfl) (by kernel_rfl) (fun _ _ _ h => h) (Or.inl ⟨by rfl, ?_⟩) hHeld ?_
      rotate_left
      · intro w hSw; (try dsimp only at hSw); go_simp; try (with_reducible rfl)
      try simp only [sq]
      refine wpAnyH_take (i := 18) (v := ?_) rfl (by kernel_rfl) (by kernel_rfl) (by kernel_rfl) (fun _ _ _ h => h) (Or.inl ⟨by rfl, ?_⟩) hHeld ?_
      rotate_left
      · intro w hSw; (try dsimp only at hSw); go_simp; try (with_reducible rfl)
      try simp only [sq]
      refine wpAnyH_take (i := 19) (v := ?_) rfl (by kernel_rfl) (by kernel_rfl) (by kernel_rfl) (fun _ _ _ h => h) (Or.inl ⟨by rfl, ?_⟩) hHeld ?_
      rotate_left
      · intro w hSw; (try dsimp only at hSw); go_simp; try (with_reducible rfl)
      try simp only [sq]
      refine wpAnyH_done (by kernel_rfl) ?_ _
      clear hHeld
      go_wp2_with fail
      go_ret
      exact ⟨rfl, hB⟩
    · skip
      refine (C2.out _ PQ.out).mono fun e y14 hmv => ?_
      obtain ⟨am, cm, rfl, hcm, hpt, hcl⟩ := hmv.yes hok2
      clear k16_0 k16_1 k17_0 k17_1 k18_0 k18_1 k19_0 k19_1 k20_0 k20_1
      replace gS := keepheap hcl gS
      replace gT := keepheap hcl gT
      replace gB := keepheap hcl gB
      replace gQ := keepheap hcl gQ
      replace gR := keepheap hcl gR
      replace HP := hid (HP.out.below hcl)
      replace PT' := hid (PT'.out.below hcl)
      replace PB := hid (PB.out.below hcl)
      replace PQ := hid (PQ.out.below hcl)
      replace hB := btrans hB hcl
      clear hcl
      have PM := hid hpt
      clear hpt
      obtain ⟨k21_0, k21_1, _, _⟩ := cell2g gS
      obtain ⟨k22_0, k22_1, _, _⟩ := cell2g gT
      obtain ⟨k23_0, k23_1, _, _⟩ := cell2g gB
      obtain ⟨k24_0, k24_1, _, _⟩ := cell2g gQ
      obtain ⟨k25_0, k25_1, _, _⟩ := cell2g gR
      have ak21_0 := (keepalloc k21_0 (.cells #[.int .i64 k2, .slice am qs.length cm] 52))
      have ak21_1 := (keepalloc k21_1 (.cells #[.int .i64 k2, .slice am qs.length cm] 52))
      have ak22_0 := (keepalloc k22_0 (.cells #[.int .i64 k2, .slice am qs.length cm] 52))
      have ak22_1 := (keepalloc k22_1 (.cells #[.int .i64 k2, .slice am qs.length cm] 52))
      have ak23_0 := (keepalloc k23_0 (.cells #[.int .i64 k2, .slice am qs.length cm] 52))
      have ak23_1 := (keepalloc k23_1 (.cells #[.int .i64 k2, .slice am qs.length cm] 52))
      have ak24_0 := (keepalloc k24_0 (.cells #[.int .i64 k2, .slice am qs.length cm] 52))
      have ak24_1 := (keepalloc k24_1 (.cells #[.int .i64 k2, .slice am qs.length cm] 52))
      have ak25_0 := (keepalloc k25_0 (.cells #[.int .i64 k2, .slice am qs.length cm] 52))
      have ak25_1 := (keepalloc k25_1 (.cells #[.int .i64 k2, .slice am qs.length cm] 52))
      go_wp2_with fail
      clear k21_0 k21_1 k22_0 k22_1 k23_0 k23_1 k24_0 k24_1 k25_0 k25_1 ak21_0 ak21_1 ak22_0 ak22_1 ak23_0 ak23_1 ak24_0 ak24_1 ak25_0 ak25_1
      replace gS := (old_alloc (o' := .cells #[.int .i64 k2, .slice am qs.length cm] 52) gS)
      replace gT := (old_alloc (o' := .cells #[.int .i64 k2, .slice am qs.length cm] 52) gT)
      replace gB := (old_alloc (o' := .cells #[.int .i64 k2, .slice am qs.length cm] 52) gB)
      replace gQ := (old_alloc (o' := .cells #[.int .i64 k2, .slice am qs.length cm] 52) gQ)
      replace gR := (old_alloc (o' := .cells #[.int .i64 k2, .slice am qs.length cm] 52) gR)
      have gM := (new_alloc y14 (y14.heap.size) (.cells #[.int .i64 k2, .slice am qs.length cm] 52) (by simp))
      have hal : Below y14.heap.size y14 (y14.alloc (.cells #[.int .i64 k2, .slice am qs.length cm] 52)) := (balloc (Below.refl _ _) (.cells #[.int .i64 k2, .slice am qs.length cm] 52))
      replace HP := hid (HP.out.below hal)
      replace PT' := hid (PT'.out.below hal)
      replace PB := hid (PB.out.below hal)
      replace PQ := hid (PQ.out.below hal)
      replace PM := hid (PM.out.below hal)
      replace hB := btrans hB hal
      clear hal
      generalize (y14.alloc (.cells #[.int .i64 k2, .slice am qs.length cm] 52)) = y15 at *
      generalize y14.heap.size = M at *
      have S2 := hid (fun w' (h1 : Pts w' ab ps) (h2 : Pts w' ao ps) => same_shape kd ab ao cb cp ps w' hm hcb hc h1 h2)
      have S3 := hid (fun w' (h1 : Pts w' at' (ps.map (mp dx dy))) (h2 : Pts w' am (qs.map (mp dx dy))) => meet_moved kd k2 dx dy at' am ct cm ps qs hok hok2 w' hm hct h1 hm2 hcm h2)
      have S4 := hid (fun w' (h1 : Pts w' ao ps) (h2 : Pts w' a2 qs) => impl_ShapesMeet kd k2 ao a2 cp c2 ps qs w' hm hc h1 hm2 hc2 h2)
      generalize smP kd ps k2 qs = sm at *
      refine wp_region_held_drew (S := (fun w' => w'.heap[S]? = some (.cells #[.int .i64 kd, .slice ao ps.length cp] 52 (0, 0)) ∧ w'.heap[T]? = some (.cells #[.int .i64 kd, .slice at' ps.length ct] 52 (0, 0)) ∧ w'.heap[Bk]? = some (.cells #[.int .i64 kd, .slice ab ps.length cb] 52 (0, 0)) ∧ w'.heap[Q]? = some (.cells #[.int .i64 k2, .slice a2 qs.length c2] 52 (0, 0)) ∧ w'.heap[R]? = some (.cells #[.int .i64 k3, .slice a3 rs.length c3] 52 (0, 0)) ∧ w'.heap[M]? = some (.cells #[.int .i64 k2, .slice am qs.length cm] 52 (0, 0)))) (by kernel_rfl) ?_ (fun hHeld => ?_)
      · exact ⟨gS, gT, gB, gQ, gR, gM⟩
      replace gS : y15.drew.heap[S]? = some (.cells #[.int .i64 kd, .slice ao ps.length cp] 52 (0, 0)) := gS
      replace gT : y15.drew.heap[T]? = some (.cells #[.int .i64 kd, .slice at' ps.length ct] 52 (0, 0)) := gT
      replace gB : y15.drew.heap[Bk]? = some (.cells #[.int .i64 kd, .slice ab ps.length cb] 52 (0, 0)) := gB
      replace gQ : y15.drew.heap[Q]? = some (.cells #[.int .i64 k2, .slice a2 qs.length c2] 52 (0, 0)) := gQ
      replace gR : y15.drew.heap[R]? = some (.cells #[.int .i64 k3, .slice a3 rs.length c3] 52 (0, 0)) := gR
      replace gM : y15.drew.heap[M]? = some (.cells #[.int .i64 k2, .slice am qs.length cm] 52 (0, 0)) := gM
      replace HP : Hid (Pts y15.drew ao ps) := hid (HP.out.below (bdrew (Below.refl _ _)))
      replace PT' : Hid (Pts y15.drew at' (ps.map (mp dx dy))) := hid (PT'.out.below (bdrew (Below.refl _ _)))
      replace PB : Hid (Pts y15.drew ab ps) := hid (PB.out.below (bdrew (Below.refl _ _)))
      replace PQ : Hid (Pts y15.drew a2 qs) := hid (PQ.out.below (bdrew (Below.refl _ _)))
      replace PM : Hid (Pts y15.drew am (qs.map (mp dx dy))) := hid (PM.out.below (bdrew (Below.refl _ _)))
      replace hB := bdrew hB
      generalize y15.drew = y16 at *
      refine wpAnyH_take (i := 0) (v := ?_) rfl (by kernel_rfl) (by kernel_rfl) (by kernel_rfl) (fun _ _ _ h => h) (Or.inl ⟨by rfl, ?_⟩) hHeld ?_
      rotate_left
      · intro w hSw; (try dsimp only at hSw); go_simp; try (with_reducible rfl)
      try simp only [sq]
      refine wpAnyH_take (i := 1) (v := ?_) rfl (by kernel_rfl) (by kernel_rfl) (by kernel_rfl) (fun _ _ _ h => h) (Or.inl ⟨by rfl, ?_⟩) hHeld ?_
      rotate_left
      · intro w hSw; (try dsimp only at hSw); go_simp; try (with_reducible rfl)
      try simp only [sq]
      refine wpAnyH_take (i := 2) (v := ?_) rfl (by kernel_rfl) (by kernel_rfl) (by kernel_rfl) (fun _ _ _ h => h) (Or.inl ⟨by rfl, ?_⟩) hHeld ?_
      rotate_left
      · intro w hSw; (try dsimp only at hSw); obtain ⟨_, _, _, _⟩ := cell2g (hSw.1); obtain ⟨_, _, _, _⟩ := cell2g (hSw.2.1); obtain ⟨_, _, _, _⟩ := cell2g (hSw.2.2.1); obtain ⟨_, _, _, _⟩ := cell2g (hSw.2.2.2.1); obtain ⟨_, _, _, _⟩ := cell2g (hSw.2.2.2.2.1); obtain ⟨_, _, _, _⟩ := cell2g (hSw.2.2.2.2.2); go_simp; try (with_reducible rfl)
      try simp only [sq]
      refine wpAnyH_take (i := 3) (v := ?_) rfl (by kernel_rfl) (by kernel_rfl) (by kernel_rfl) (fun _ _ _ h => h) (Or.inl ⟨by rfl, ?_⟩) hHeld ?_
      rotate_left
      · intro w hSw; (try dsimp only at hSw); obtain ⟨_, _, _, _⟩ := cell2g (hSw.1); obtain ⟨_, _, _, _⟩ := cell2g (hSw.2.1); obtain ⟨_, _, _, _⟩ := cell2g (hSw.2.2.1); obtain ⟨_, _, _, _⟩ := cell2g (hSw.2.2.2.1); obtain ⟨_, _, _, _⟩ := cell2g (hSw.2.2.2.2.1); obtain ⟨_, _, _, _⟩ := cell2g (hSw.2.2.2.2.2); go_simp; try (with_reducible rfl)
      try simp only [sq]
      refine wpAnyH_ready (rs := [4]) (by kernel_rfl) (by simp) ?_
      refine AllReadyH.cons rfl (fun K hK => ?_) AllReadyH.nil
      try simp only [sq]
      go_simp
      go_at_call 58
      refine (S2.out _ PB.out HP.out).mono ?_
      rintro e y17 ⟨rfl, hcl⟩
      replace gS := keepheap hcl gS
      replace gT := keepheap hcl gT
      replace gB := keepheap hcl gB
      replace gQ := keepheap hcl gQ
      replace gR := keepheap hcl gR
      replace gM := keepheap hcl gM
      replace HP := hid (HP.out.below hcl)
      replace PT' := hid (PT'.out.below hcl)
      replace PB := hid (PB.out.below hcl)
      replace PQ := hid (PQ.out.below hcl)
      replace PM := hid (PM.out.below hcl)
      replace hB := btrans hB hcl
      clear hcl
      go_wp2_with fail
      refine hK.out _ _ ?_ (fun hHeld => ?_)
      · exact ⟨gS, gT, gB, gQ, gR, gM⟩
      clear hK K
      try simp only [sq]
      refine wpAnyH_take (i := 5) (v := ?_) rfl (by kernel_rfl) (by kernel_rfl) (by kernel_rfl) (fun _ _ _ h => h) (Or.inl ⟨by rfl, ?_⟩) hHeld ?_
      rotate_left
      · intro w hSw; (try dsimp only at hSw); go_simp; try (with_reducible rfl)
      try simp only [sq]
      refine wpAnyH_take (i := 6) (v := ?_) rfl (by kernel_rfl) (by kernel_rfl) (by kernel_rfl) (fun _ _ _ h => h) (Or.inl ⟨by rfl, ?_⟩) hHeld ?_
      rotate_left
      · intro w hSw; (try dsimp only at hSw); go_simp; try (with_reducible rfl)
      try simp only [sq]
      refine wpAnyH_take (i := 7) (v := ?_) rfl (by kernel_rfl) (by kernel_rfl) (by kernel_rfl) (fun _ _ _ h => h) (Or.inl ⟨by rfl, ?_⟩) hHeld ?_
      rotate_left
      · intro w hSw; (try dsimp only at hSw); go_simp; try (with_reducible rfl)
      try simp only [sq]
      refine wpAnyH_take (i := 8) (v := ?_) rfl (by kernel_rfl) (by kernel_rfl) (by kernel_rfl) (fun _ _ _ h => h) (Or.inl ⟨by rfl, ?_⟩) hHeld ?_
      rotate_left
      · intro w hSw; (try dsimp only at hSw); go_simp; try (with_reducible rfl)
      try simp only [sq]
      refine wpAnyH_take (i := 9) (v := ?_) rfl (by kernel_rfl) (by kernel_rfl) (by kernel_rfl) (fun _ _ _ h => h) (Or.inl ⟨by rfl, ?_⟩) hHeld ?_
      rotate_left
      · intro w hSw; (try dsimp only at hSw); go_simp; try (with_reducible rfl)
      try simp only [sq]
      refine wpAnyH_take (i := 10) (v := ?_) rfl (by kernel_rfl) (by kernel_rfl) (by kernel_rfl) (fun _ _ _ h => h) (Or.inl ⟨by rfl, ?_⟩) hHeld ?_
      rotate_left
      · intro w hSw; (try dsimp only at hSw); obtain ⟨_, _, _, _⟩ := cell2g (hSw.1); obtain ⟨_, _, _, _⟩ := cell2g (hSw.2.1); obtain ⟨_, _, _, _⟩ := cell2g (hSw.2.2.1); obtain ⟨_, _, _, _⟩ := cell2g (hSw.2.2.2.1); obtain ⟨_, _, _, _⟩ := cell2g (hSw.2.2.2.2.1); obtain ⟨_, _, _, _⟩ := cell2g (hSw.2.2.2.2.2); go_simp; try (with_reducible rfl)
      try simp only [sq]
      refine wpAnyH_take (i := 11) (v := ?_) rfl (by kernel_rfl) (by kernel_rfl) (by kernel_rfl) (fun _ _ _ h => h) (Or.inl ⟨by rfl, ?_⟩) hHeld ?_
      rotate_left
      · intro w hSw; (try dsimp only at hSw); obtain ⟨_, _, _, _⟩ := cell2g (hSw.1); obtain ⟨_, _, _, _⟩ := cell2g (hSw.2.1); obtain ⟨_, _, _, _⟩ := cell2g (hSw.2.2.1); obtain ⟨_, _, _, _⟩ := cell2g (hSw.2.2.2.1); obtain ⟨_, _, _, _⟩ := cell2g (hSw.2.2.2.2.1); obtain ⟨_, _, _, _⟩ := cell2g (hSw.2.2.2.2.2); go_simp; try (with_reducible rfl)
      try simp only [sq]
      refine wpAnyH_take (i := 13) (v := ?_) rfl (by kernel_rfl) (by kernel_rfl) (by kernel_rfl) (fun _ _ _ h => h) (Or.inl ⟨by rfl, ?_⟩) hHeld ?_
      rotate_left
      · intro w hSw; (try dsimp only at hSw); obtain ⟨_, _, _, _⟩ := cell2g (hSw.1); obtain ⟨_, _, _, _⟩ := cell2g (hSw.2.1); obtain ⟨_, _, _, _⟩ := cell2g (hSw.2.2.1); obtain ⟨_, _, _, _⟩ := cell2g (hSw.2.2.2.1); obtain ⟨_, _, _, _⟩ := cell2g (hSw.2.2.2.2.1); obtain ⟨_, _, _, _⟩ := cell2g (hSw.2.2.2.2.2); go_simp; try (with_reducible rfl)
      try simp only [sq]
      refine wpAnyH_take (i := 14) (v := ?_) rfl (by kernel_rfl) (by kernel_rfl) (by kernel_rfl) (fun _ _ _ h => h) (Or.inl ⟨by rfl, ?_⟩) hHeld ?_
      rotate_left
      · intro w hSw; (try dsimp only at hSw); obtain ⟨_, _, _, _⟩ := cell2g (hSw.1); obtain ⟨_, _, _, _⟩ := cell2g (hSw.2.1); obtain ⟨_, _, _, _⟩ := cell2g (hSw.2.2.1); obtain ⟨_, _, _, _⟩ := cell2g (hSw.2.2.2.1); obtain ⟨_, _, _, _⟩ := cell2g (hSw.2.2.2.2.1); obtain ⟨_, _, _, _⟩ := cell2g (hSw.2.2.2.2.2); go_simp; try (with_reducible rfl)
      try simp only [sq]
      refine wpAnyH_ready (rs := [12]) (by kernel_rfl) (by simp) ?_
      refine AllReadyH.cons rfl (fun K hK => ?_) AllReadyH.nil
      try simp only [sq]
      go_simp
      go_at_call 46
      refine (S3.out _ PT'.out PM.out).mono ?_
      rintro e y18 ⟨rfl, hcl⟩
      replace gS := keepheap hcl gS
      replace gT := keepheap hcl gT
      replace gB := keepheap hcl gB
      replace gQ := keepheap hcl gQ
      replace gR := keepheap hcl gR
      replace gM := keepheap hcl gM
      replace HP := hid (HP.out.below hcl)
      replace PT' := hid (PT'.out.below hcl)
      replace PB := hid (PB.out.below hcl)
      replace PQ := hid (PQ.out.below hcl)
      replace PM := hid (PM.out.below hcl)
      replace hB := btrans hB hcl
      clear hcl
      go_wp2_with fail
      refine hK.out _ _ ?_ (fun hHeld => ?_)
      · exact ⟨gS, gT, gB, gQ, gR, gM⟩
      clear hK K
      try simp only [sq]
      refine wpAnyH_ready (rs := [15]) (by kernel_rfl) (by simp) ?_
      refine AllReadyH.cons rfl (fun K hK => ?_) AllReadyH.nil
      try simp only [sq]
      go_simp
      go_at_call 46
      refine (S4.out _ HP.out PQ.out).mono ?_
      rintro e y19 ⟨rfl, hcl⟩
      replace gS := keepheap hcl gS
      replace gT := keepheap hcl gT
      replace gB := keepheap hcl gB
      replace gQ := keepheap hcl gQ
      replace gR := keepheap hcl gR
      replace gM := keepheap hcl gM
      replace HP := hid (HP.out.below hcl)
      replace PT' := hid (PT'.out.below hcl)
      replace PB := hid (PB.out.below hcl)
      replace PQ := hid (PQ.out.below hcl)
      replace PM := hid (PM.out.below hcl)
      replace hB := btrans hB hcl
      clear hcl
      go_wp2_with fail
      refine hK.out _ _ ?_ (fun hHeld => ?_)
      · exact ⟨gS, gT, gB, gQ, gR, gM⟩
      clear hK K
      try simp only [sq]
      refine wpAnyH_take (i := 16) (v := ?_) rfl (by kernel_rfl) (by kernel_rfl) (by kernel_rfl) (fun _ _ _ h => h) (Or.inl ⟨by rfl, ?_⟩) hHeld ?_
      rotate_left
      · intro w hSw; (try dsimp only at hSw); go_simp; try (with_reducible rfl)
      try simp only [sq]
      refine wpAnyH_take (i := 17) (v := ?_) rfl (by kernel_rfl) (by kernel_rfl) (by kernel_rfl) (fun _ _ _ h => h) (Or.inl ⟨by rfl, ?_⟩) hHeld ?_
      rotate_left
      · intro w hSw; (try dsimp only at hSw); go_simp; try (with_reducible rfl)
      try simp only [sq]
      refine wpAnyH_take (i := 18) (v := ?_) rfl (by kernel_rfl) (by kernel_rfl) (by kernel_rfl) (fun _ _ _ h => h) (Or.inl ⟨by rfl, ?_⟩) hHeld ?_
      rotate_left
      · intro w hSw; (try dsimp only at hSw); go_simp; try (with_reducible rfl)
      try simp only [sq]
      refine wpAnyH_take (i := 19) (v := ?_) rfl (by kernel_rfl) (by kernel_rfl) (by kernel_rfl) (fun _ _ _ h => h) (Or.inl ⟨by rfl, ?_⟩) hHeld ?_
      rotate_left
      · intro w hSw; (try dsimp only at hSw); go_simp; try (with_reducible rfl)
      try simp only [sq]
      refine wpAnyH_done (by kernel_rfl) ?_ _
      clear hHeld
      go_wp2_with fail
      go_ret
      exact ⟨rfl, hB⟩
set_option maxRecDepth 100000 in
theorem lifted (os : Os) (started : os.Started) (H : Type) (enc : TypeId × Value → H) :
    ReturnsInHanded {} Try.checked os 8 .any (Rows.fnMoveSpec.pre6 enc Try.prog Try.f8 Rows.fnMoveRow.domain false) (Rows.fnMoveSpec.post enc Try.prog Try.f8 false true false false) := by
  refine returnsInHanded_of_change (C := Try.checked) own started (by kernel_rfl) Try.func8
    (ChangeSpec.witness6 (enc := enc) (C := Try.checked) false ⟨#[], #[.slice none 0 0], []⟩ 8 (by kernel_rfl) (by kernel_rfl) (by kernel_rfl) (by kernel_rfl)) ?_
  intro W base args ds gs before hval0 hW hcnd _
  have hval : ∀ (j : Nat) t v, Try.f8.params[j]? = some t → args[j]? = some v → Value.okWide Try.prog W .any base t v := hval0
  have hW' := hW
  obtain ⟨p, q, hA0, hV, rfl, hfz, hnd⟩ := hW
  have hA : DataW.TrodAll enc Try.prog W 0 (fun _ => true) true Try.f8.params.toList args.toList ds p := hA0
  rw [Try.params8] at hA hval
  obtain ⟨v0, vs0, d0, ds0, p0, q0, hargs, rfl, rfl, h0, r0⟩ := trodAll_cons hA
  obtain ⟨rfl, rfl, rfl⟩ := trodAll_nil r0
  obtain rfl : args = #[v0] := by cases args; simp_all
  obtain ⟨rfl, rfl⟩ := trodVars_none hV
  have k0 := h0
  have lt0 : ∀ x ∈ p0, x.block < W.heap.size := by obtain ⟨m, hm⟩ := k0; exact DataW.trod_lt m _ _ _ hm
  obtain ⟨a0, len0, cap0, rfl⟩ := okWide_slice Try.underlying22 (hval 0 22 v0 rfl rfl)
  obtain ⟨z0, w0⟩ : ∃ zs, IsRow .u8 W a0 len0 cap0 zs := by
    obtain ⟨fuel, hf⟩ := h0
    rcases open_ints Try.underlying22 Try.underlying5 (by kernel_rfl) hf with ⟨hcs, _⟩ | ⟨x, l, c, zs, hcs, _, hl, hm, hz, _, hcell, hwz⟩
    · simp [Value.cells] at hcs
      obtain ⟨rfl, rfl, rfl⟩ := hcs
      exact ⟨[], .inl ⟨rfl, rfl, rfl, rfl⟩⟩
    · simp [Value.cells] at hcs
      obtain ⟨rfl, rfl, rfl⟩ := hcs
      exact ⟨zs, .inr ⟨_, rfl, hl, hm, by simpa using hz, hcell, hwz⟩⟩
  clear hA0 hval0
  refine (walk a0 len0 cap0 z0 W w0).mono fun e W' ⟨he, bel⟩ => ?_
  subst he
  exact ⟨_, rfl, _, _, _, [], _, [], hW', trodAll_mk1 (shut_bool Try.underlying4 _), (trodAll_cons_mk (Below.trod laidOut (by kernel_rfl) (of_decide_eq_true (by kernel_rfl)) k0 bel lt0) trodAll_mk0), rfl, bel.frame _, fun h => by cases h⟩
theorem band {a b : Bool} (h1 : a = true) (h2 : b = true) : (a && b) = true := by rw [h1, h2]; rfl
set_option maxRecDepth 100000 in
theorem q1 : (Rows.fnMoveRow.wf (OpenSpec.ofChange Rows.fnMoveSpec)) = true := by kernel_rfl
set_option maxRecDepth 100000 in
theorem q2 : (laidOutB Try.pinned.checked.prog) = true := sh2
set_option maxRecDepth 100000 in
theorem q3 : (mapsRowed Try.pinned.checked.prog) = true := sh3
set_option maxRecDepth 100000 in
theorem q4 : (Try.f8.params.all (Try.pinned.checked.prog.readableRec ·)) = true := by kernel_rfl
set_option maxRecDepth 100000 in
theorem q5 : (namedTie Try.pinned.checked.prog Rows.fnMoveRow.named Rows.fnMoveSpec.vars) = true := by kernel_rfl
set_option maxRecDepth 100000 in
theorem q6 : ((Rows.fnMoveRow.stops == [])) = true := by kernel_rfl
set_option maxRecDepth 100000 in
theorem q7 : ((Try.pinned.checked.prog.stops == [])) = true := sh7
set_option maxRecDepth 100000 in
theorem q8 : ((Rows.fnMoveRow.knobs == [])) = true := by kernel_rfl
set_option maxRecDepth 100000 in
theorem q9 : ((Try.pinned.checked.prog.stopKnobs == [])) = true := sh9
set_option maxRecDepth 100000 in
theorem q10 : ((Rows.fnMoveRow.inPlace == Try.pinned.checked.prog.inPlace 8)) = true := by kernel_rfl
set_option maxRecDepth 100000 in
theorem q11 : ((Rows.fnMoveRow.unfollowed == Try.pinned.checked.prog.unfollowed 8)) = true := by kernel_rfl
set_option maxRecDepth 100000 in
theorem q12 : ((Rows.fnMoveRow.recurses == Try.pinned.checked.prog.recurses 8)) = true := by kernel_rfl
set_option maxRecDepth 100000 in
theorem q13 : ((Rows.fnMoveRow.named == Try.pinned.checked.prog.varsNamed 8)) = true := by kernel_rfl
set_option maxRecDepth 100000 in
theorem q14 : ((Rows.fnMoveRow.maps == (Try.f8.params.toList ++ Rows.fnMoveSpec.plain.varTypes Try.pinned.checked.prog).any (Try.pinned.checked.prog.mapsRec ·))) = true := by kernel_rfl
set_option maxRecDepth 100000 in
theorem q15 : ((Rows.fnMoveRow.ifaces == (Try.f8.params.toList ++ Rows.fnMoveSpec.plain.varTypes Try.pinned.checked.prog).any (Try.pinned.checked.prog.ifacesRec ·))) = true := by kernel_rfl
set_option maxRecDepth 100000 in
theorem q16 : ((Rows.fnMoveRow.mapsOut == Try.pinned.checked.prog.mapsAmong Try.f8.resultTypes.toList)) = true := by kernel_rfl
set_option maxRecDepth 100000 in
theorem q17 : ((Rows.fnMoveRow.loops == (Try.f8.params.toList ++ Rows.fnMoveSpec.plain.varTypes Try.pinned.checked.prog).any (Try.pinned.checked.prog.loopsFrom ·))) = true := by kernel_rfl
set_option maxRecDepth 100000 in
theorem q18 : ((Rows.fnMoveRow.wideKeys == (Try.f8.params.toList ++ Rows.fnMoveSpec.plain.varTypes Try.pinned.checked.prog ++ Try.f8.resultTypes.toList).any (Try.pinned.checked.prog.wideKeysFrom ·))) = true := by kernel_rfl
set_option maxRecDepth 100000 in
theorem q19 : (Rows.fnMoveSpec.vars.all (Try.pinned.checked.prog.varReadable ·)) = true := by kernel_rfl
set_option maxRecDepth 100000 in
theorem q20 : (Try.f8.resultTypes.all (fun t => Try.pinned.checked.prog.readableRec t && decide (t < Try.pinned.checked.prog.types.size))) = true := by kernel_rfl
set_option maxRecDepth 100000 in
theorem q21 : ((Rows.fnMoveRow.ifacesOut == Try.f8.resultTypes.toList.any (Try.pinned.checked.prog.ifacesRec ·))) = true := by kernel_rfl
set_option maxRecDepth 100000 in
theorem q22 : ((Rows.fnMoveRow.loopsOut == Try.f8.resultTypes.toList.any (Try.pinned.checked.prog.loopsFrom ·))) = true := by kernel_rfl
set_option maxRecDepth 100000 in
theorem q23 : ((Rows.fnMoveRow.plainKeys == Try.pinned.checked.prog.plainKeys)) = true := sh23
set_option maxRecDepth 100000 in
theorem q24 : (Rows.fnMoveRow.shortTexts.isNone) = true := by kernel_rfl
set_option maxRecDepth 100000 in
theorem q25 : (Try.pinned.checked.prog.stopsHeard) = true := sh25
set_option maxRecDepth 100000 in
theorem q26 : (Try.pinned.checked.prog.mayEnter) = true := sh26
set_option maxRecDepth 100000 in
theorem q27 : ((Rows.fnMoveRow.lifted == Try.pinned.checked.prog.liftsFinal)) = true := sh27
set_option maxRecDepth 100000 in
theorem q28 : ((Try.pinned.checked.prog.make == some Rows.fnMoveRow.make)) = true := sh28
set_option maxRecDepth 100000 in
theorem q29 : ((Rows.fnMoveRow.kinds == (if Rows.fnMoveRow.domain.isEmpty then [] else Try.f8.params.toList.map fun t => match Try.pinned.checked.prog.underlying t with | some (.int k) => some k | _ => none))) = true := by kernel_rfl
set_option maxRecDepth 100000 in
theorem q30 : ((Rows.fnMoveRow.pinned == Rows.fnMoveRow.pinnedBy)) = true := by kernel_rfl
set_option maxRecDepth 100000 in
theorem q31 : ((Rows.fnMoveRow.veiled == (Try.f8.params.toList ++ Rows.fnMoveSpec.plain.varTypes Try.pinned.checked.prog ++ Try.f8.resultTypes.toList).any (Try.pinned.checked.prog.veiledRec ·))) = true := by kernel_rfl
set_option maxRecDepth 100000 in
theorem q32 : (Rows.fnMoveRow.veiledFits Try.pinned.checked.prog Try.f8.params.toList (Try.f8.params.toList ++ Rows.fnMoveSpec.plain.varTypes Try.pinned.checked.prog ++ Try.f8.resultTypes.toList)) = true := by kernel_rfl
set_option maxRecDepth 100000 in
theorem closed : joinedFacts Try.pinned.checked.prog 8 Try.f8 Rows.fnMoveSpec Rows.fnMoveRow = true := by
  unfold joinedFacts
  exact (band (band (band (band (band (band (band (band (band (band (band (band (band (band (band (band (band (band (band (band (band (band (band (band (band (band (band (band (band (band (band q1 q2) q3) q4) q5) q6) q7) q8) q9) q10) q11) q12) q13) q14) q15) q16) q17) q18) q19) q20) q21) q22) q23) q24) q25) q26) q27) q28) q29) q30) q31) q32)
set_option maxRecDepth 100000 in
theorem over : Rows.fnMoveRow.holds Try.pinned (OpenSpec.ofChange Rows.fnMoveSpec) :=
  OpenClaim.holds_of_wide 8 Try.f8 rfl rfl rfl rfl rfl rfl rfl ⟨rfl, rfl, rfl, rfl, rfl⟩ rfl rfl rfl rfl rfl (by kernel_rfl) Try.func8 closed
    (of_decide_eq_true (by kernel_rfl)) (by unfold Func.isWrapper; first | (rw [if_pos (by decide +kernel)]; kernel_rfl) | (rw [if_neg (by decide +kernel)]; exact ⟨rfl, rfl⟩))
    (fun os started H enc _ => lifted os started H enc)
end Go.Proofs.Ytkncdncpgjpemaa.fnMove
namespace Go.Proofs.Ytkncdncpgjpemaa
theorem fnMove_holds : Rows.FnMoveSaid := fnMove.over
#print axioms fnMove_holds
end Go.Proofs.Ytkncdncpgjpemaa
