/- For every tile and every shape the landed TileMeets answers as the specification's TileMeets, and writes into no argument; the table of the tiles' sides holds what the program's text lays. -/
import Derived.Test.YtmnnbifekbacnaaDoorCards
import Derived.Test.YtmnnbifekbacnaaDoorTie
import Derived.Test.YtmnnbifekbacnaaDoorTileP
import Derived.Test.YtmnnbifekbacnaaDoorTileT
import Derived.Test.YtmnnbifekbacnaaDoorShLaw
import Derived.WalkKit
import Derived.Deep.DeepCutAuto
import Derived.ProofKit
import Derived.OpenShut
import Derived.ShutString
import Derived.ChangeOld
import Derived.Below
import Derived.Carry
import Derived.OpenVars
import Derived.Lib.SmallJoins
import Derived.Deep.SlicePairs
import Derived.Deep.DeepHandedRow
import Derived.Lib.LaidTab
import Derived.Stop.LaidErr
namespace Go.Proofs.YtmnnbifekbacnaaDoor.fnExactTileMeets
open Go.ChangeShapes Go.WideShapes Go.ChangeAt Go.RowKit Go.Joins
set_option linter.unusedVariables false
set_option linter.unusedSimpArgs false
theorem own : ownKnob Tryd.prog.godebug = none := by kernel_rfl
theorem laidOut : laidOutB Tryd.prog = true := by kernel_rfl
theorem cells23 : Tryd.prog.cellsOf 23 = 3 := by kernel_rfl
theorem cells26 : Tryd.prog.cellsOf 26 = 2 := by kernel_rfl
theorem cells65 : Tryd.prog.cellsOf 65 = 2 := by kernel_rfl
set_option maxRecDepth 100000 in
set_option maxHeartbeats 4000000 in
theorem walk (x0 y0 z0 : Int) (kd1 : Int) (a1 : Option Addr) (cap1 : Nat) (ps1 : List (Int × Int)) (w : World) (wx0 : (Lit.int .i64 x0).wf = true) (wy0 : (Lit.int .i64 y0).wf = true) (wz0 : (Lit.int .i64 z0).wf = true) (wkd1 : (Lit.int .i64 kd1).wf = true) (w1 : PtsIn w a1 cap1 ps1) (hT : Tab w) :
    Calls Tryd.prog 3 #[.agg #[.int .i64 x0, .int .i64 y0, .int .i64 z0], shv kd1 a1 ps1.length cap1] w fun e w' => e = .returned (.bool true) ∧ Below w.heap.size w w' := by
  have HT := hid hT
  clear hT wx0 wy0 wz0 wkd1
  obtain ⟨hp, hc, hm⟩ := w1
  by_cases hbig : (1048576 : Int) < (ps1.length : Int)
  · go_enter Tryd.func3, Tryd.ntmps3
    go_wp2_with fail
    refine (szs_big _ _ _ _ _ _ (by omega) (by omega) (by omega) hbig).mono ?_
    rintro e u1 ⟨rfl, hb1⟩
    go_wp2_with fail
    go_ret
    exact ⟨rfl, by (repeat (first | with_reducible exact Below.refl _ _ | with_reducible assumption | (with_reducible refine btrans ?_ (by with_reducible assumption)) | with_reducible refine bdrew ?_ | with_reducible refine balloc ?_ _))⟩
  have hm' : ps1.length ≤ 1099511627776 := by omega
  have HP := hid hp
  have hB := Below.refl w.heap.size w
  clear hp
  have MS := hid (fun b w' (h : Pts w' (some ⟨b, 0, none⟩) ps1) => spec_TileMeets x0 y0 z0 kd1 (some ⟨b, 0, none⟩) ps1.length ps1 w' hm' (Nat.le_refl _) h)
  have MI := hid (fun b w' (h : Tab w') (h' : Pts w' (some ⟨b, 0, none⟩) ps1) => impl_TileMeets x0 y0 z0 kd1 (some ⟨b, 0, none⟩) ps1.length ps1 w' hm' (Nat.le_refl _) h h')
  generalize tmv x0 y0 z0 kd1 ps1 = tv at *
  go_enter Tryd.func3, Tryd.ntmps3
  go_wp2_with fail
  have gT := (old_alloc (o' := .cells #[.int .i64 kd1, .slice a1 ps1.length cap1] 26) (new_alloc w (w.heap.size) (.cells #[.int .i64 x0, .int .i64 y0, .int .i64 z0] 23) (by simp)))
  have gS := (new_alloc (w.alloc (.cells #[.int .i64 x0, .int .i64 y0, .int .i64 z0] 23)) (w.heap.size + 1) (.cells #[.int .i64 kd1, .slice a1 ps1.length cap1] 26) (by simp))
  have hal : Below w.heap.size w ((w.alloc (.cells #[.int .i64 x0, .int .i64 y0, .int .i64 z0] 23)).alloc (.cells #[.int .i64 kd1, .slice a1 ps1.length cap1] 26)) := (balloc (balloc (Below.refl _ _) (.cells #[.int .i64 x0, .int .i64 y0, .int .i64 z0] 23)) (.cells #[.int .i64 kd1, .slice a1 ps1.length cap1] 26))
  replace HT := hid (HT.out.below hal)
  replace HP := hid (HP.out.below hal)
  replace hB := btrans hB hal
  clear hal
  generalize ((w.alloc (.cells #[.int .i64 x0, .int .i64 y0, .int .i64 z0] 23)).alloc (.cells #[.int .i64 kd1, .slice a1 ps1.length cap1] 26)) = yw1 at *
  refine (szs_ok _ _ _ _ _ _ (by omega) (by omega) (by omega)).mono ?_
  rintro e yw2 ⟨rfl, hcl⟩
  replace gT := keepheap hcl gT
  replace gS := keepheap hcl gS
  replace HT := hid (HT.out.below hcl)
  replace HP := hid (HP.out.below hcl)
  replace hB := btrans hB hcl
  clear hcl
  have hs1 : ¬ ((1048576 : Int) - (ps1.length : Int) < 0) := by omega
  obtain ⟨k1_0, k1_1, k1_2, _, _, _⟩ := cellT gT
  obtain ⟨k2_0, k2_1, _, _⟩ := cell2h gS
  go_wp2_with fail
  clear k1_0 k1_1 k1_2 k2_0 k2_1
  refine wp_region_held_drew (S := (fun w' => w'.heap[w.heap.size]? = some (.cells #[.int .i64 x0, .int .i64 y0, .int .i64 z0] 23 (0, 0)) ∧ w'.heap[w.heap.size + 1]? = some (.cells #[.int .i64 kd1, .slice a1 ps1.length cap1] 26 (0, 0)))) (by kernel_rfl) ?_ (fun hHeld => ?_)
  · exact ⟨gT, gS⟩
  replace gT : yw2.drew.heap[w.heap.size]? = some (.cells #[.int .i64 x0, .int .i64 y0, .int .i64 z0] 23 (0, 0)) := gT
  replace gS : yw2.drew.heap[w.heap.size + 1]? = some (.cells #[.int .i64 kd1, .slice a1 ps1.length cap1] 26 (0, 0)) := gS
  replace HT : Hid (Tab yw2.drew) := hid (HT.out.below (bdrew (Below.refl _ _)))
  replace HP : Hid (Pts yw2.drew a1 ps1) := hid (HP.out.below (bdrew (Below.refl _ _)))
  replace hB := bdrew hB
  generalize yw2.drew = yw3 at *
  refine wpAnyH_take (i := 0) (v := ?_) rfl (by kernel_rfl) (by kernel_rfl) (by kernel_rfl) (fun _ _ _ h => h) (Or.inl ⟨by rfl, ?_⟩) hHeld ?_
  rotate_left
  · intro w hSw; (try dsimp only at hSw); obtain ⟨_, _, _, _, _, _⟩ := cellT (hSw.1); obtain ⟨_, _, _, _⟩ := cell2h (hSw.2); go_simp; try (with_reducible rfl)
  try simp only [sq]
  refine wpAnyH_take (i := 2) (v := ?_) rfl (by kernel_rfl) (by kernel_rfl) (by kernel_rfl) (fun _ _ _ h => h) (Or.inl ⟨by rfl, ?_⟩) hHeld ?_
  rotate_left
  · intro w hSw; (try dsimp only at hSw); obtain ⟨_, _, _, _, _, _⟩ := cellT (hSw.1); obtain ⟨_, _, _, _⟩ := cell2h (hSw.2); go_simp; try (with_reducible rfl)
  try simp only [sq]
  refine wpAnyH_ready (rs := [1]) (by kernel_rfl) (by simp) ?_
  refine AllReadyH.cons rfl (fun K hK => ?_) AllReadyH.nil
  try simp only [sq]
  go_simp
  go_at_call 6
  refine (to_tile x0 y0 z0 _).mono ?_
  rintro e yw4 ⟨rfl, hcl⟩
  replace gT := keepheap hcl gT
  replace gS := keepheap hcl gS
  replace HT := hid (HT.out.below hcl)
  replace HP := hid (HP.out.below hcl)
  replace hB := btrans hB hcl
  clear hcl
  go_wp2_with fail
  refine hK.out _ _ ?_ (fun hHeld => ?_)
  · exact ⟨gT, gS⟩
  clear hK K
  try simp only [sq]
  refine wpAnyH_ready (rs := [3]) (by kernel_rfl) (by simp) ?_
  refine AllReadyH.cons rfl (fun K hK => ?_) AllReadyH.nil
  try simp only [sq]
  go_simp
  go_at_call 7
  refine (to_shape kd1 a1 cap1 ps1 _ hm' hc HP.out).mono ?_
  rintro e yw5 ⟨b2, rfl, hgb2, hb2, hcl⟩
  replace gT := keepheap hcl gT
  replace gS := keepheap hcl gS
  replace HT := hid (HT.out.below hcl)
  replace HP := hid (HP.out.below hcl)
  replace hB := btrans hB hcl
  clear hcl
  have H2 := hid hb2.pts
  clear hb2 hgb2
  go_wp2_with fail
  refine hK.out _ _ ?_ (fun hHeld => ?_)
  · exact ⟨gT, gS⟩
  clear hK K
  try simp only [sq]
  refine wpAnyH_ready (rs := [4]) (by kernel_rfl) (by simp) ?_
  refine AllReadyH.cons rfl (fun K hK => ?_) AllReadyH.nil
  try simp only [sq]
  go_simp
  go_at_call 5
  refine (MS.out b2 _ H2.out).mono ?_
  rintro e yw6 ⟨rfl, hcl⟩
  replace gT := keepheap hcl gT
  replace gS := keepheap hcl gS
  replace HT := hid (HT.out.below hcl)
  replace HP := hid (HP.out.below hcl)
  replace H2 := hid (H2.out.below hcl)
  replace hB := btrans hB hcl
  clear hcl
  go_wp2_with fail
  refine hK.out _ _ ?_ (fun hHeld => ?_)
  · exact ⟨gT, gS⟩
  clear hK K
  try simp only [sq]
  refine wpAnyH_take (i := 5) (v := ?_) rfl (by kernel_rfl) (by kernel_rfl) (by kernel_rfl) (fun _ _ _ h => h) (Or.inl ⟨by rfl, ?_⟩) hHeld ?_
  rotate_left
  · intro w hSw; (try dsimp only at hSw); go_simp; try (with_reducible rfl)
  try simp only [sq]
  refine wpAnyH_done (by kernel_rfl) ?_ _
  clear hHeld
  clear H2 MS
  obtain ⟨k3_0, k3_1, k3_2, _, _, _⟩ := cellT gT
  obtain ⟨k4_0, k4_1, _, _⟩ := cell2h gS
  go_wp2_with fail
  clear k3_0 k3_1 k3_2 k4_0 k4_1
  refine (to_shape kd1 a1 cap1 ps1 _ hm' hc HP.out).mono ?_
  rintro e yw7 ⟨b4, rfl, hgb4, hb4, hcl⟩
  replace gT := keepheap hcl gT
  replace gS := keepheap hcl gS
  replace HT := hid (HT.out.below hcl)
  replace HP := hid (HP.out.below hcl)
  replace hB := btrans hB hcl
  clear hcl
  have H4 := hid hb4.pts
  clear hb4 hgb4
  obtain ⟨k5_0, k5_1, k5_2, _, _, _⟩ := cellT gT
  obtain ⟨k6_0, k6_1, _, _⟩ := cell2h gS
  have ak5_0 := (keepalloc k5_0 (.cells #[.int .i64 kd1, .slice (some ⟨b4, 0, none⟩) ps1.length ps1.length] 33))
  have ak5_1 := (keepalloc k5_1 (.cells #[.int .i64 kd1, .slice (some ⟨b4, 0, none⟩) ps1.length ps1.length] 33))
  have ak5_2 := (keepalloc k5_2 (.cells #[.int .i64 kd1, .slice (some ⟨b4, 0, none⟩) ps1.length ps1.length] 33))
  have ak6_0 := (keepalloc k6_0 (.cells #[.int .i64 kd1, .slice (some ⟨b4, 0, none⟩) ps1.length ps1.length] 33))
  have ak6_1 := (keepalloc k6_1 (.cells #[.int .i64 kd1, .slice (some ⟨b4, 0, none⟩) ps1.length ps1.length] 33))
  go_wp2_with fail
  clear k5_0 k5_1 k5_2 k6_0 k6_1 ak5_0 ak5_1 ak5_2 ak6_0 ak6_1
  replace gT := (old_alloc (o' := .cells #[.int .i64 kd1, .slice (some ⟨b4, 0, none⟩) ps1.length ps1.length] 33) gT)
  replace gS := (old_alloc (o' := .cells #[.int .i64 kd1, .slice (some ⟨b4, 0, none⟩) ps1.length ps1.length] 33) gS)
  have gX := (new_alloc yw7 (yw7.heap.size) (.cells #[.int .i64 kd1, .slice (some ⟨b4, 0, none⟩) ps1.length ps1.length] 33) (by simp))
  have hal : Below yw7.heap.size yw7 (yw7.alloc (.cells #[.int .i64 kd1, .slice (some ⟨b4, 0, none⟩) ps1.length ps1.length] 33)) := (balloc (Below.refl _ _) (.cells #[.int .i64 kd1, .slice (some ⟨b4, 0, none⟩) ps1.length ps1.length] 33))
  replace HT := hid (HT.out.below hal)
  replace HP := hid (HP.out.below hal)
  replace H4 := hid (H4.out.below hal)
  replace hB := btrans hB hal
  clear hal
  generalize (yw7.alloc (.cells #[.int .i64 kd1, .slice (some ⟨b4, 0, none⟩) ps1.length ps1.length] 33)) = yw8 at *
  generalize yw7.heap.size = X at *
  refine wp_region_held_drew (S := (fun w' => w'.heap[w.heap.size]? = some (.cells #[.int .i64 x0, .int .i64 y0, .int .i64 z0] 23 (0, 0)) ∧ w'.heap[w.heap.size + 1]? = some (.cells #[.int .i64 kd1, .slice a1 ps1.length cap1] 26 (0, 0)) ∧ w'.heap[X]? = some (.cells #[.int .i64 kd1, .slice (some ⟨b4, 0, none⟩) ps1.length ps1.length] 33 (0, 0)))) (by kernel_rfl) ?_ (fun hHeld => ?_)
  · exact ⟨gT, gS, gX⟩
  replace gT : yw8.drew.heap[w.heap.size]? = some (.cells #[.int .i64 x0, .int .i64 y0, .int .i64 z0] 23 (0, 0)) := gT
  replace gS : yw8.drew.heap[w.heap.size + 1]? = some (.cells #[.int .i64 kd1, .slice a1 ps1.length cap1] 26 (0, 0)) := gS
  replace gX : yw8.drew.heap[X]? = some (.cells #[.int .i64 kd1, .slice (some ⟨b4, 0, none⟩) ps1.length ps1.length] 33 (0, 0)) := gX
  replace HT : Hid (Tab yw8.drew) := hid (HT.out.below (bdrew (Below.refl _ _)))
  replace HP : Hid (Pts yw8.drew a1 ps1) := hid (HP.out.below (bdrew (Below.refl _ _)))
  replace H4 : Hid (Pts yw8.drew (some ⟨b4, 0, none⟩) ps1) := hid (H4.out.below (bdrew (Below.refl _ _)))
  replace hB := bdrew hB
  generalize yw8.drew = yw9 at *
  refine wpAnyH_take (i := 0) (v := ?_) rfl (by kernel_rfl) (by kernel_rfl) (by kernel_rfl) (fun _ _ _ h => h) (Or.inl ⟨by rfl, ?_⟩) hHeld ?_
  rotate_left
  · intro w hSw; (try dsimp only at hSw); obtain ⟨_, _, _, _, _, _⟩ := cellT (hSw.1); obtain ⟨_, _, _, _⟩ := cell2h (hSw.2.1); obtain ⟨_, _, _, _⟩ := cell2h (hSw.2.2); go_simp; try (with_reducible rfl)
  try simp only [sq]
  refine wpAnyH_take (i := 2) (v := ?_) rfl (by kernel_rfl) (by kernel_rfl) (by kernel_rfl) (fun _ _ _ h => h) (Or.inl ⟨by rfl, ?_⟩) hHeld ?_
  rotate_left
  · intro w hSw; (try dsimp only at hSw); obtain ⟨_, _, _, _, _, _⟩ := cellT (hSw.1); obtain ⟨_, _, _, _⟩ := cell2h (hSw.2.1); obtain ⟨_, _, _, _⟩ := cell2h (hSw.2.2); go_simp; try (with_reducible rfl)
  try simp only [sq]
  refine wpAnyH_ready (rs := [1]) (by kernel_rfl) (by simp) ?_
  refine AllReadyH.cons rfl (fun K hK => ?_) AllReadyH.nil
  try simp only [sq]
  go_simp
  go_at_call 6
  refine (to_tile x0 y0 z0 _).mono ?_
  rintro e yw10 ⟨rfl, hcl⟩
  replace gT := keepheap hcl gT
  replace gS := keepheap hcl gS
  replace gX := keepheap hcl gX
  replace HT := hid (HT.out.below hcl)
  replace HP := hid (HP.out.below hcl)
  replace H4 := hid (H4.out.below hcl)
  replace hB := btrans hB hcl
  clear hcl
  go_wp2_with fail
  refine hK.out _ _ ?_ (fun hHeld => ?_)
  · exact ⟨gT, gS, gX⟩
  clear hK K
  try simp only [sq]
  refine wpAnyH_ready (rs := [3]) (by kernel_rfl) (by simp) ?_
  refine AllReadyH.cons rfl (fun K hK => ?_) AllReadyH.nil
  try simp only [sq]
  go_simp
  go_at_call 8
  refine (MI.out b4 _ HT.out H4.out).mono ?_
  rintro e yw11 ⟨rfl, hcl⟩
  replace gT := keepheap hcl gT
  replace gS := keepheap hcl gS
  replace gX := keepheap hcl gX
  replace HT := hid (HT.out.below hcl)
  replace HP := hid (HP.out.below hcl)
  replace H4 := hid (H4.out.below hcl)
  replace hB := btrans hB hcl
  clear hcl
  go_wp2_with fail
  refine hK.out _ _ ?_ (fun hHeld => ?_)
  · exact ⟨gT, gS, gX⟩
  clear hK K
  try simp only [sq]
  refine wpAnyH_take (i := 4) (v := ?_) rfl (by kernel_rfl) (by kernel_rfl) (by kernel_rfl) (fun _ _ _ h => h) (Or.inl ⟨by rfl, ?_⟩) hHeld ?_
  rotate_left
  · intro w hSw; (try dsimp only at hSw); go_simp; try (with_reducible rfl)
  try simp only [sq]
  refine wpAnyH_done (by kernel_rfl) ?_ _
  clear hHeld
  obtain ⟨k7_0, k7_1, k7_2, _, _, _⟩ := cellT gT
  obtain ⟨k8_0, k8_1, _, _⟩ := cell2h gS
  obtain ⟨k9_0, k9_1, _, _⟩ := cell2h gX
  go_wp2_with fail
  clear k7_0 k7_1 k7_2 k8_0 k8_1 k9_0 k9_1
  refine wp_region_held_drew (S := (fun w' => w'.heap[w.heap.size]? = some (.cells #[.int .i64 x0, .int .i64 y0, .int .i64 z0] 23 (0, 0)) ∧ w'.heap[w.heap.size + 1]? = some (.cells #[.int .i64 kd1, .slice a1 ps1.length cap1] 26 (0, 0)) ∧ w'.heap[X]? = some (.cells #[.int .i64 kd1, .slice (some ⟨b4, 0, none⟩) ps1.length ps1.length] 33 (0, 0)))) (by kernel_rfl) ?_ (fun hHeld => ?_)
  · exact ⟨gT, gS, gX⟩
  replace gT : yw11.drew.heap[w.heap.size]? = some (.cells #[.int .i64 x0, .int .i64 y0, .int .i64 z0] 23 (0, 0)) := gT
  replace gS : yw11.drew.heap[w.heap.size + 1]? = some (.cells #[.int .i64 kd1, .slice a1 ps1.length cap1] 26 (0, 0)) := gS
  replace gX : yw11.drew.heap[X]? = some (.cells #[.int .i64 kd1, .slice (some ⟨b4, 0, none⟩) ps1.length ps1.length] 33 (0, 0)) := gX
  replace HT : Hid (Tab yw11.drew) := hid (HT.out.below (bdrew (Below.refl _ _)))
  replace HP : Hid (Pts yw11.drew a1 ps1) := hid (HP.out.below (bdrew (Below.refl _ _)))
  replace H4 : Hid (Pts yw11.drew (some ⟨b4, 0, none⟩) ps1) := hid (H4.out.below (bdrew (Below.refl _ _)))
  replace hB := bdrew hB
  generalize yw11.drew = yw12 at *
  refine wpAnyH_take (i := 0) (v := ?_) rfl (by kernel_rfl) (by kernel_rfl) (by kernel_rfl) (fun _ _ _ h => h) (Or.inl ⟨by rfl, ?_⟩) hHeld ?_
  rotate_left
  · intro w hSw; (try dsimp only at hSw); obtain ⟨_, _, _, _, _, _⟩ := cellT (hSw.1); obtain ⟨_, _, _, _⟩ := cell2h (hSw.2.1); obtain ⟨_, _, _, _⟩ := cell2h (hSw.2.2); go_simp; try (with_reducible rfl)
  try simp only [sq]
  refine wpAnyH_take (i := 1) (v := ?_) rfl (by kernel_rfl) (by kernel_rfl) (by kernel_rfl) (fun _ _ _ h => h) (Or.inl ⟨by rfl, ?_⟩) hHeld ?_
  rotate_left
  · intro w hSw; (try dsimp only at hSw); obtain ⟨_, _, _, _, _, _⟩ := cellT (hSw.1); obtain ⟨_, _, _, _⟩ := cell2h (hSw.2.1); obtain ⟨_, _, _, _⟩ := cell2h (hSw.2.2); go_simp; try (with_reducible rfl)
  try simp only [sq]
  refine wpAnyH_ready (rs := [2]) (by kernel_rfl) (by simp) ?_
  refine AllReadyH.cons rfl (fun K hK => ?_) AllReadyH.nil
  try simp only [sq]
  go_simp
  go_at_call 7
  refine (to_shape kd1 a1 cap1 ps1 _ hm' hc HP.out).mono ?_
  rintro e yw13 ⟨b6, rfl, hgb6, hb6, hcl⟩
  replace gT := keepheap hcl gT
  replace gS := keepheap hcl gS
  replace gX := keepheap hcl gX
  replace HT := hid (HT.out.below hcl)
  replace HP := hid (HP.out.below hcl)
  replace H4 := hid (H4.out.below hcl)
  replace hB := btrans hB hcl
  clear hcl
  have H6 := hid hb6.pts
  clear hb6 hgb6
  go_wp2_with fail
  refine hK.out _ _ ?_ (fun hHeld => ?_)
  · exact ⟨gT, gS, gX⟩
  clear hK K
  try simp only [sq]
  refine wpAnyH_ready (rs := [3]) (by kernel_rfl) (by simp) ?_
  refine AllReadyH.cons rfl (fun K hK => ?_) AllReadyH.nil
  try simp only [sq]
  go_simp
  go_at_call 9
  refine (eq_shape kd1 (some ⟨b4, 0, none⟩) (some ⟨b6, 0, none⟩) ps1.length ps1.length ps1 _ hm' (Nat.le_refl _) (Nat.le_refl _) H4.out H6.out).mono ?_
  rintro e yw14 ⟨rfl, hcl⟩
  replace gT := keepheap hcl gT
  replace gS := keepheap hcl gS
  replace gX := keepheap hcl gX
  replace HT := hid (HT.out.below hcl)
  replace HP := hid (HP.out.below hcl)
  replace H4 := hid (H4.out.below hcl)
  replace H6 := hid (H6.out.below hcl)
  replace hB := btrans hB hcl
  clear hcl
  go_wp2_with fail
  refine hK.out _ _ ?_ (fun hHeld => ?_)
  · exact ⟨gT, gS, gX⟩
  clear hK K
  try simp only [sq]
  refine wpAnyH_take (i := 4) (v := ?_) rfl (by kernel_rfl) (by kernel_rfl) (by kernel_rfl) (fun _ _ _ h => h) (Or.inl ⟨by rfl, ?_⟩) hHeld ?_
  rotate_left
  · intro w hSw; (try dsimp only at hSw); go_simp; try (with_reducible rfl)
  try simp only [sq]
  refine wpAnyH_done (by kernel_rfl) ?_ _
  clear hHeld
  go_wp2_with fail
  go_ret
  exact ⟨rfl, hB⟩
set_option maxRecDepth 100000 in
theorem contract (H : Type) (enc : TypeId × Value → H) (W : World) (base : Nat) (args : Array Value) (ds gs : List (DataW H)) (before : List MemPlace)
    (hval0 : ∀ (j : Nat) t v, Tryd.f3.params[j]? = some t → args[j]? = some v → Value.okWide Tryd.prog W .any base t v)
    (hW : DataW.Whole enc Tryd.prog Tryd.f3.params.toList Rows.fnExactTileMeetsSpec.vars false W args.toList ds gs before) (hL : laidMetH Tryd.prog Rows.fnExactTileMeetsRow.laid W) :
    Calls Tryd.prog 3 args W fun e W' => ∃ v, e = .returned v ∧ Rows.fnExactTileMeetsSpec.post enc Tryd.prog Tryd.f3 false true false false W args v W' := by
  have hval : ∀ (j : Nat) t v, Tryd.f3.params[j]? = some t → args[j]? = some v → Value.okWide Tryd.prog W .any base t v := hval0
  have hW' := hW
  obtain ⟨p, q, hA0, hV, rfl, hfz, hnd⟩ := hW
  have hA : DataW.TrodAll enc Tryd.prog W 0 (fun _ => true) true Tryd.f3.params.toList args.toList ds p := hA0
  rw [Tryd.params3] at hA hval
  obtain ⟨v0, vs0, d0, ds0, p0, q0, hargs, rfl, rfl, h0, r0⟩ := trodAll_cons hA
  obtain ⟨v1, vs1, d1, ds1, p1, q1, rfl, rfl, rfl, h1, r1⟩ := trodAll_cons r0
  obtain ⟨rfl, rfl, rfl⟩ := trodAll_nil r1
  obtain rfl : args = #[v0, v1] := by cases args; simp_all
  obtain ⟨_, _, _, _, g1, _, eg, _⟩ := trodVars_one hV
  subst eg
  have k0 := h0
  have lt0 : ∀ x ∈ p0, x.block < W.heap.size := by obtain ⟨m, hm⟩ := k0; exact DataW.trod_lt m _ _ _ hm
  have k1 := h1
  have lt1 : ∀ x ∈ p1, x.block < W.heap.size := by obtain ⟨m, hm⟩ := k1; exact DataW.trod_lt m _ _ _ hm
  obtain ⟨c0_0, c0_1, c0_2, g0_0, g0_1, g0_2, m0, rfl, rfl, rfl, hy0_0, hy0_1, hy0_2⟩ := open_agg3 Tryd.underlying23 (by kernel_rfl) cells23 (hval 0 23 v0 rfl rfl) h0
  obtain ⟨x0, e0_0, rfl, wx0⟩ := DataW.trod_int Tryd.underlying3 hy0_0
  obtain ⟨y0, e0_1, rfl, wy0⟩ := DataW.trod_int Tryd.underlying3 hy0_1
  obtain ⟨z0, e0_2, rfl, wz0⟩ := DataW.trod_int Tryd.underlying3 hy0_2
  simp at e0_0 e0_1 e0_2
  subst e0_0 e0_1 e0_2
  obtain ⟨c1_0, c1_1, g1_0, g1_1, m1, rfl, rfl, rfl, hy1_0, hy1_1⟩ := open_agg2 Tryd.underlying26 (by kernel_rfl) cells26 (hval 1 26 v1 rfl rfl) h1
  obtain ⟨kd1, e1_0, rfl, wkd1⟩ := DataW.trod_int Tryd.underlying3 hy1_0
  simp at e1_0
  subst e1_0
  obtain ⟨a1, cap1, ps1, e1_1, w1⟩ : ∃ (a : Option Addr) (cap : Nat) (ps : List (Int × Int)), c1_1 = .slice a ps.length cap ∧ PtsIn W a cap ps := by
    rcases Go.Deep.open_slice_pairs Tryd.underlying24 Tryd.underlying65 cells65 rfl rfl (by kernel_rfl) (by kernel_rfl) hy1_1 with ⟨hcs, _⟩ | ⟨x, l, c, m, n, V0, V1, D0, D1, P0, P1, hcs, _, hl, hm, hmm, _, hall⟩
    · simp at hcs
      exact ⟨none, 0, [], hcs, ptsIn_nil _ _⟩
    · simp at hcs
      obtain ⟨ps, hp, hw⟩ := ptsIn_of hl hm (fun j hj => by
        obtain ⟨h1, h2, h3, h4⟩ := hall j (by rw [hmm]; simp; omega)
        obtain ⟨z0, e0, _, y0⟩ := DataW.trod_int Tryd.underlying3 h3
        obtain ⟨z1, e1, _, y1⟩ := DataW.trod_int Tryd.underlying3 h4
        simp at e0 e1
        exact ⟨z0, z1, by rw [h1, e0], by rw [h2, e1], y0, y1⟩)
      exact ⟨some x, c, ps, by rw [hcs, hp], hw⟩
  subst e1_1
  clear hA0 hval0
  refine (walk x0 y0 z0 kd1 a1 cap1 ps1 W wx0 wy0 wz0 wkd1 w1 (tab_of_is (Lib.tabIs_of_head (g := 0) (rest := []) (by kernel_rfl) (by kernel_rfl) Tryd.underlying90 Tryd.underlying3 (by kernel_rfl) (by kernel_rfl) hL) (by kernel_rfl))).mono fun e W' ⟨he, bel⟩ => ?_
  subst he
  exact ⟨_, rfl, _, _, _, [], _, _, hW', trodAll_mk1 (shut_bool Tryd.underlying4 _), (trodAll_cons_mk (Below.trod laidOut (by kernel_rfl) (of_decide_eq_true (by kernel_rfl)) k0 bel lt0) (trodAll_cons_mk (Below.trod laidOut (by kernel_rfl) (of_decide_eq_true (by kernel_rfl)) k1 bel lt1) trodAll_mk0)), Below.trodVars laidOut bel (by kernel_rfl) hV, bel.frame _, fun h => by cases h⟩
def tabs (h : Array Obj) : Array Obj := h
  |>.modify 0 (fun | .cells _ t frozen => .cells #[.int .i64 65536, .int .i64 32768, .int .i64 16384, .int .i64 8192, .int .i64 4096, .int .i64 2048, .int .i64 1024, .int .i64 512, .int .i64 256] t frozen | o => o)
theorem laid_met (os : Os) : laidMet Tryd.prog Rows.fnExactTileMeetsRow.laid (({ World.holding Tryd.prog os ⟨#[], #[], []⟩ with heap := tabs (World.holding Tryd.prog os ⟨#[], #[], []⟩).heap } : World).forCall (fun _ _ => 0) ⟨#[], #[.agg #[.int .i64 0, .int .i64 0, .int .i64 0], .agg #[.int .i64 0, .slice none 0 0]], []⟩).memory :=
  laidMet_of_run' 8 (by kernel_rfl) (by kernel_rfl)
theorem reads (os : Os) {H : Type} (enc : TypeId × Value → H) : ∃ x, DataW.whole enc Tryd.prog (({ World.holding Tryd.prog os ⟨#[], #[], []⟩ with heap := tabs (World.holding Tryd.prog os ⟨#[], #[], []⟩).heap } : World).forCall (fun _ _ => 0) ⟨#[], #[.agg #[.int .i64 0, .int .i64 0, .int .i64 0], .agg #[.int .i64 0, .slice none 0 0]], []⟩).memory Tryd.f3.params.toList Rows.fnExactTileMeetsSpec.vars false (#[.agg #[.int .i64 0, .int .i64 0, .int .i64 0], .agg #[.int .i64 0, .slice none 0 0]] : Array Value).toList 8 = some x :=
  Option.isSome_iff_exists.1 (by kernel_rfl)
set_option maxRecDepth 100000 in
theorem lifted (os : Os) (started : os.Started) (H : Type) (enc : TypeId × Value → H) (F : Stop.Interp) :
    ReturnsInHanded {} Tryd.checked os 3 .any ((OpenSpec.ofChange Rows.fnExactTileMeetsSpec).preRow enc Tryd.prog Tryd.f3 Rows.fnExactTileMeetsRow.domain false Rows.fnExactTileMeetsRow.laid) (((OpenSpec.ofChange Rows.fnExactTileMeetsSpec).at F).post enc Tryd.prog Tryd.f3 false true false false) := by
  obtain ⟨x, hx⟩ := reads os enc
  refine returnsInHanded_of_row (C := Tryd.checked) (s := OpenSpec.ofChange Rows.fnExactTileMeetsSpec) own started (by kernel_rfl) Tryd.func3
    (witness_row_at (enc := enc) (C := Tryd.checked) false ({ World.holding Tryd.prog os ⟨#[], #[], []⟩ with heap := tabs (World.holding Tryd.prog os ⟨#[], #[], []⟩).heap }) #[.agg #[.int .i64 0, .int .i64 0, .int .i64 0], .agg #[.int .i64 0, .slice none 0 0]] rfl (by kernel_rfl) (by kernel_rfl) (by kernel_rfl)
      (OpenSpec.preRow_of_cond 8 hx (by rfl) (fun k hk => by cases hk) (by kernel_rfl) (laid_met os))) ?_
  intro W base args ds gs before hval hW _ _ _ hL _ _
  exact contract H enc W base args ds gs before hval hW hL
theorem said : Rows.FnExactTileMeetsSaid :=
  OpenClaim.holds_of_cond 3 Tryd.f3 rfl rfl rfl rfl rfl rfl rfl ⟨rfl, rfl, rfl, rfl, rfl⟩ rfl rfl rfl rfl rfl (by kernel_rfl) Tryd.func3 (by kernel_rfl)
    (of_decide_eq_true (by kernel_rfl)) (by unfold Func.isWrapper; first | (rw [if_pos (by decide +kernel)]; kernel_rfl) | (rw [if_neg (by decide +kernel)]; exact ⟨rfl, rfl⟩))
    (fun os started H enc _ F => by rw [OpenClaim.pre_eq_preRow]; exact lifted os started H enc F)
theorem plain (f : FuncId) (fn : Func) (hf : Tryd.pinned.checked.prog.funcNamed Rows.fnExactTileMeetsRow.func = some f) (hfn : Tryd.pinned.checked.prog.funcs[f]? = some fn) :
    true = Tryd.pinned.checked.prog.looks [] ∧ ∀ (j : Nat) t, fn.params[j]? = some t → Tryd.pinned.checked.prog.wantsStandIn t = false := by
  obtain rfl : f = 3 := Option.some.inj ((show Tryd.prog.funcNamed Rows.fnExactTileMeetsRow.func = some 3 by kernel_rfl).symm.trans hf) |>.symm
  obtain rfl : fn = Tryd.f3 := (Option.some.inj (Tryd.func3.symm.trans hfn)).symm
  refine ⟨by kernel_rfl, fun j t ht => ?_⟩
  rw [Tryd.params3] at ht
  have hm : t ∈ ([23, 26] : List Nat) := by simpa using Array.mem_of_getElem? ht
  exact (show ∀ t ∈ ([23, 26] : List Nat), Tryd.prog.wantsStandIn t = false from of_decide_eq_true (by kernel_rfl)) t hm
end Go.Proofs.YtmnnbifekbacnaaDoor.fnExactTileMeets
namespace Go.Proofs.YtmnnbifekbacnaaDoor
theorem fnExactTileMeets_holds : Rows.FnExactTileMeetsCardSaid :=
  Claim7.holds_tied_plain_at .later [] _ _ _ _ fnExactTileMeets.said (fun _ h => by cases h) (by kernel_rfl) (fun _ h => by cases h) fnExactTileMeets_row_tie rfl ⟨rfl, rfl⟩ (by kernel_rfl) rfl fnExactTileMeets.plain (by kernel_rfl)
#print axioms fnExactTileMeets_holds
end Go.Proofs.YtmnnbifekbacnaaDoor
