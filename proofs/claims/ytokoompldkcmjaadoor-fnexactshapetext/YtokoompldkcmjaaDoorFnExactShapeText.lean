/- For every shape the landed ShapeText answers as the specification's ShapeText, and writes into no argument; the table of the kinds' words and the library's tables hold what their texts lay. -/
import Derived.Test.YtokoompldkcmjaaDoorCards
import Derived.Test.YtokoompldkcmjaaDoorTie
import Derived.Test.YtokoompldkcmjaaDoorTextT
import Derived.Test.YtokoompldkcmjaaDoorShLaw
import Derived.WalkKit
import Derived.Deep.DeepCutAuto
import Derived.ProofKit
import Derived.OpenShut
import Derived.ShutString
import Derived.ChangeOld
import Derived.Below
import Derived.Carry
import Derived.OpenVars
import Derived.Lib.SmallJoins
import Derived.Deep.SlicePairs
import Derived.Deep.DeepHandedRow
import Derived.Lib.LaidTab
import Derived.Stop.LaidErr
namespace Go.Proofs.YtokoompldkcmjaaDoor.fnExactShapeText
open Go.ChangeShapes Go.WideShapes Go.ChangeAt Go.RowKit Go.Joins
set_option linter.unusedVariables false
set_option linter.unusedSimpArgs false
theorem own : ownKnob Tryd.prog.godebug = none := by kernel_rfl
theorem laidOut : laidOutB Tryd.prog = true := by kernel_rfl
theorem cells38 : Tryd.prog.cellsOf 38 = 2 := by kernel_rfl
theorem cells89 : Tryd.prog.cellsOf 89 = 2 := by kernel_rfl
set_option maxRecDepth 100000 in
set_option maxHeartbeats 4000000 in
theorem walk (kd0 : Int) (a0 : Option Addr) (cap0 : Nat) (ps0 : List (Int × Int)) (w : World) (wkd0 : (Lit.int .i64 kd0).wf = true) (w0 : PtsIn w a0 cap0 ps0) (hio : ItoaOk w) (hkw : KW w) :
    Calls Tryd.prog 4 #[shv kd0 a0 ps0.length cap0] w fun e w' => e = .returned (.bool true) ∧ Below w.heap.size w w' := by
  have HIO := hid hio
  have HKW := hid hkw
  clear hio hkw wkd0
  obtain ⟨hp, hc, hm⟩ := w0
  by_cases hbig : (1048576 : Int) < (ps0.length : Int)
  · go_enter Tryd.func4, Tryd.ntmps4
    go_wp2_with fail
    refine (szs_big _ _ _ _ _ _ (by omega) (by omega) (by omega) hbig).mono ?_
    rintro e u1 ⟨rfl, hb1⟩
    go_wp2_with fail
    go_ret
    exact ⟨rfl, by (repeat (first | with_reducible exact Below.refl _ _ | with_reducible assumption | (with_reducible refine btrans ?_ (by with_reducible assumption)) | with_reducible refine bdrew ?_ | with_reducible refine balloc ?_ _))⟩
  have hm' : ps0.length ≤ 1099511627776 := by omega
  have HP := hid hp
  have hB := Below.refl w.heap.size w
  clear hp
  have MS := hid (fun b w' (h : Pts w' (some ⟨b, 0, none⟩) ps0) => spec_ShapeText kd0 (some ⟨b, 0, none⟩) ps0.length ps0 w' hm' (Nat.le_refl _) h)
  have MI := hid (fun b w' (h' : Pts w' (some ⟨b, 0, none⟩) ps0) (h1 : ItoaOk w') (h2 : KW w') => impl_ShapeText kd0 (some ⟨b, 0, none⟩) ps0.length ps0 w' hm' (Nat.le_refl _) h' h1 h2)
  generalize txv kd0 ps0 = tv at *
  go_enter Tryd.func4, Tryd.ntmps4
  go_wp2_with fail
  have gS := (new_alloc w (w.heap.size) (.cells #[.int .i64 kd0, .slice a0 ps0.length cap0] 38) (by simp))
  have hal : Below w.heap.size w (w.alloc (.cells #[.int .i64 kd0, .slice a0 ps0.length cap0] 38)) := (balloc (Below.refl _ _) (.cells #[.int .i64 kd0, .slice a0 ps0.length cap0] 38))
  replace HIO := hid (HIO.out.below hal)
  replace HKW := hid (HKW.out.below hal)
  replace HP := hid (HP.out.below hal)
  replace hB := btrans hB hal
  clear hal
  generalize (w.alloc (.cells #[.int .i64 kd0, .slice a0 ps0.length cap0] 38)) = yw1 at *
  refine (szs_ok _ _ _ _ _ _ (by omega) (by omega) (by omega)).mono ?_
  rintro e yw2 ⟨rfl, hcl⟩
  replace gS := keepheap hcl gS
  replace HIO := hid (HIO.out.below hcl)
  replace HKW := hid (HKW.out.below hcl)
  replace HP := hid (HP.out.below hcl)
  replace hB := btrans hB hcl
  clear hcl
  have hs1 : ¬ ((1048576 : Int) - (ps0.length : Int) < 0) := by omega
  obtain ⟨k1_0, k1_1, _, _⟩ := cell2h gS
  go_wp2_with fail
  clear k1_0 k1_1
  refine (to_shape kd0 a0 cap0 ps0 _ hm' hc HP.out).mono ?_
  rintro e yw3 ⟨b2, rfl, hgb2, hb2, hcl⟩
  replace gS := keepheap hcl gS
  replace HIO := hid (HIO.out.below hcl)
  replace HKW := hid (HKW.out.below hcl)
  replace HP := hid (HP.out.below hcl)
  replace hB := btrans hB hcl
  clear hcl
  have H2 := hid hb2.pts
  clear hb2 hgb2
  obtain ⟨k2_0, k2_1, _, _⟩ := cell2h gS
  go_wp2_with fail
  clear k2_0 k2_1
  refine (MS.out b2 _ H2.out).mono ?_
  rintro e yw4 ⟨rfl, hcl⟩
  replace gS := keepheap hcl gS
  replace HIO := hid (HIO.out.below hcl)
  replace HKW := hid (HKW.out.below hcl)
  replace HP := hid (HP.out.below hcl)
  replace H2 := hid (H2.out.below hcl)
  replace hB := btrans hB hcl
  clear hcl
  clear H2 MS
  obtain ⟨k3_0, k3_1, _, _⟩ := cell2h gS
  go_wp2_with fail
  clear k3_0 k3_1
  refine (to_shape kd0 a0 cap0 ps0 _ hm' hc HP.out).mono ?_
  rintro e yw5 ⟨b4, rfl, hgb4, hb4, hcl⟩
  replace gS := keepheap hcl gS
  replace HIO := hid (HIO.out.below hcl)
  replace HKW := hid (HKW.out.below hcl)
  replace HP := hid (HP.out.below hcl)
  replace hB := btrans hB hcl
  clear hcl
  have H4 := hid hb4.pts
  clear hb4 hgb4
  obtain ⟨k4_0, k4_1, _, _⟩ := cell2h gS
  have ak4_0 := (keepalloc k4_0 (.cells #[.int .i64 kd0, .slice (some ⟨b4, 0, none⟩) ps0.length ps0.length] 43))
  have ak4_1 := (keepalloc k4_1 (.cells #[.int .i64 kd0, .slice (some ⟨b4, 0, none⟩) ps0.length ps0.length] 43))
  go_wp2_with fail
  clear k4_0 k4_1 ak4_0 ak4_1
  replace gS := (old_alloc (o' := .cells #[.int .i64 kd0, .slice (some ⟨b4, 0, none⟩) ps0.length ps0.length] 43) gS)
  have gX := (new_alloc yw5 (yw5.heap.size) (.cells #[.int .i64 kd0, .slice (some ⟨b4, 0, none⟩) ps0.length ps0.length] 43) (by simp))
  have hal : Below yw5.heap.size yw5 (yw5.alloc (.cells #[.int .i64 kd0, .slice (some ⟨b4, 0, none⟩) ps0.length ps0.length] 43)) := (balloc (Below.refl _ _) (.cells #[.int .i64 kd0, .slice (some ⟨b4, 0, none⟩) ps0.length ps0.length] 43))
  replace HIO := hid (HIO.out.below hal)
  replace HKW := hid (HKW.out.below hal)
  replace HP := hid (HP.out.below hal)
  replace H4 := hid (H4.out.below hal)
  replace hB := btrans hB hal
  clear hal
  generalize (yw5.alloc (.cells #[.int .i64 kd0, .slice (some ⟨b4, 0, none⟩) ps0.length ps0.length] 43)) = yw6 at *
  generalize yw5.heap.size = X at *
  refine (MI.out b4 _ H4.out HIO.out HKW.out).mono ?_
  rintro e yw7 ⟨rfl, hcl⟩
  replace gS := keepheap hcl gS
  replace gX := keepheap hcl gX
  replace HIO := hid (HIO.out.below hcl)
  replace HKW := hid (HKW.out.below hcl)
  replace HP := hid (HP.out.below hcl)
  replace H4 := hid (H4.out.below hcl)
  replace hB := btrans hB hcl
  clear hcl
  obtain ⟨k5_0, k5_1, _, _⟩ := cell2h gS
  obtain ⟨k6_0, k6_1, _, _⟩ := cell2h gX
  go_wp2_with fail
  clear k5_0 k5_1 k6_0 k6_1
  refine wp_region_held_drew (S := (fun w' => w'.heap[w.heap.size]? = some (.cells #[.int .i64 kd0, .slice a0 ps0.length cap0] 38 (0, 0)) ∧ w'.heap[X]? = some (.cells #[.int .i64 kd0, .slice (some ⟨b4, 0, none⟩) ps0.length ps0.length] 43 (0, 0)))) (by kernel_rfl) ?_ (fun hHeld => ?_)
  · exact ⟨gS, gX⟩
  replace gS : yw7.drew.heap[w.heap.size]? = some (.cells #[.int .i64 kd0, .slice a0 ps0.length cap0] 38 (0, 0)) := gS
  replace gX : yw7.drew.heap[X]? = some (.cells #[.int .i64 kd0, .slice (some ⟨b4, 0, none⟩) ps0.length ps0.length] 43 (0, 0)) := gX
  replace HIO : Hid (ItoaOk yw7.drew) := hid (HIO.out.below (bdrew (Below.refl _ _)))
  replace HKW : Hid (KW yw7.drew) := hid (HKW.out.below (bdrew (Below.refl _ _)))
  replace HP : Hid (Pts yw7.drew a0 ps0) := hid (HP.out.below (bdrew (Below.refl _ _)))
  replace H4 : Hid (Pts yw7.drew (some ⟨b4, 0, none⟩) ps0) := hid (H4.out.below (bdrew (Below.refl _ _)))
  replace hB := bdrew hB
  generalize yw7.drew = yw8 at *
  refine wpAnyH_take (i := 0) (v := ?_) rfl (by kernel_rfl) (by kernel_rfl) (by kernel_rfl) (fun _ _ _ h => h) (Or.inl ⟨by rfl, ?_⟩) hHeld ?_
  rotate_left
  · intro w hSw; (try dsimp only at hSw); obtain ⟨_, _, _, _⟩ := cell2h (hSw.1); obtain ⟨_, _, _, _⟩ := cell2h (hSw.2); go_simp; try (with_reducible rfl)
  try simp only [sq]
  refine wpAnyH_take (i := 1) (v := ?_) rfl (by kernel_rfl) (by kernel_rfl) (by kernel_rfl) (fun _ _ _ h => h) (Or.inl ⟨by rfl, ?_⟩) hHeld ?_
  rotate_left
  · intro w hSw; (try dsimp only at hSw); obtain ⟨_, _, _, _⟩ := cell2h (hSw.1); obtain ⟨_, _, _, _⟩ := cell2h (hSw.2); go_simp; try (with_reducible rfl)
  try simp only [sq]
  refine wpAnyH_ready (rs := [2]) (by kernel_rfl) (by simp) ?_
  refine AllReadyH.cons rfl (fun K hK => ?_) AllReadyH.nil
  try simp only [sq]
  go_simp
  go_at_call 25
  refine (to_shape kd0 a0 cap0 ps0 _ hm' hc HP.out).mono ?_
  rintro e yw9 ⟨b6, rfl, hgb6, hb6, hcl⟩
  replace gS := keepheap hcl gS
  replace gX := keepheap hcl gX
  replace HIO := hid (HIO.out.below hcl)
  replace HKW := hid (HKW.out.below hcl)
  replace HP := hid (HP.out.below hcl)
  replace H4 := hid (H4.out.below hcl)
  replace hB := btrans hB hcl
  clear hcl
  have H6 := hid hb6.pts
  clear hb6 hgb6
  go_wp2_with fail
  refine hK.out _ _ ?_ (fun hHeld => ?_)
  · exact ⟨gS, gX⟩
  clear hK K
  try simp only [sq]
  refine wpAnyH_ready (rs := [3]) (by kernel_rfl) (by simp) ?_
  refine AllReadyH.cons rfl (fun K hK => ?_) AllReadyH.nil
  try simp only [sq]
  go_simp
  go_at_call 27
  refine (eq_shape kd0 (some ⟨b4, 0, none⟩) (some ⟨b6, 0, none⟩) ps0.length ps0.length ps0 _ hm' (Nat.le_refl _) (Nat.le_refl _) H4.out H6.out).mono ?_
  rintro e yw10 ⟨rfl, hcl⟩
  replace gS := keepheap hcl gS
  replace gX := keepheap hcl gX
  replace HIO := hid (HIO.out.below hcl)
  replace HKW := hid (HKW.out.below hcl)
  replace HP := hid (HP.out.below hcl)
  replace H4 := hid (H4.out.below hcl)
  replace H6 := hid (H6.out.below hcl)
  replace hB := btrans hB hcl
  clear hcl
  go_wp2_with fail
  refine hK.out _ _ ?_ (fun hHeld => ?_)
  · exact ⟨gS, gX⟩
  clear hK K
  try simp only [sq]
  refine wpAnyH_take (i := 4) (v := ?_) rfl (by kernel_rfl) (by kernel_rfl) (by kernel_rfl) (fun _ _ _ h => h) (Or.inl ⟨by rfl, ?_⟩) hHeld ?_
  rotate_left
  · intro w hSw; (try dsimp only at hSw); go_simp; try (with_reducible rfl)
  try simp only [sq]
  refine wpAnyH_done (by kernel_rfl) ?_ _
  clear hHeld
  go_wp2_with fail
  go_ret
  exact ⟨rfl, hB⟩
set_option maxRecDepth 100000 in
theorem contract (H : Type) (enc : TypeId × Value → H) (W : World) (base : Nat) (args : Array Value) (ds gs : List (DataW H)) (before : List MemPlace)
    (hval0 : ∀ (j : Nat) t v, Tryd.f4.params[j]? = some t → args[j]? = some v → Value.okWide Tryd.prog W .any base t v)
    (hW : DataW.Whole enc Tryd.prog Tryd.f4.params.toList Rows.fnExactShapeTextSpec.vars false W args.toList ds gs before) (hL : laidMetH Tryd.prog Rows.fnExactShapeTextRow.laid W) :
    Calls Tryd.prog 4 args W fun e W' => ∃ v, e = .returned v ∧ Rows.fnExactShapeTextSpec.post enc Tryd.prog Tryd.f4 false true false false W args v W' := by
  have hval : ∀ (j : Nat) t v, Tryd.f4.params[j]? = some t → args[j]? = some v → Value.okWide Tryd.prog W .any base t v := hval0
  have hW' := hW
  obtain ⟨p, q, hA0, hV, rfl, hfz, hnd⟩ := hW
  have hA : DataW.TrodAll enc Tryd.prog W 0 (fun _ => true) true Tryd.f4.params.toList args.toList ds p := hA0
  rw [Tryd.params4] at hA hval
  obtain ⟨v0, vs0, d0, ds0, p0, q0, hargs, rfl, rfl, h0, r0⟩ := trodAll_cons hA
  obtain ⟨rfl, rfl, rfl⟩ := trodAll_nil r0
  obtain rfl : args = #[v0] := by cases args; simp_all
  obtain ⟨_, _, _, _, g1, _, eg, _⟩ := trodVars_one hV
  subst eg
  have k0 := h0
  have lt0 : ∀ x ∈ p0, x.block < W.heap.size := by obtain ⟨m, hm⟩ := k0; exact DataW.trod_lt m _ _ _ hm
  obtain ⟨c0_0, c0_1, g0_0, g0_1, m0, rfl, rfl, rfl, hy0_0, hy0_1⟩ := open_agg2 Tryd.underlying38 (by kernel_rfl) cells38 (hval 0 38 v0 rfl rfl) h0
  obtain ⟨kd0, e0_0, rfl, wkd0⟩ := DataW.trod_int Tryd.underlying3 hy0_0
  simp at e0_0
  subst e0_0
  obtain ⟨a0, cap0, ps0, e0_1, w0⟩ : ∃ (a : Option Addr) (cap : Nat) (ps : List (Int × Int)), c0_1 = .slice a ps.length cap ∧ PtsIn W a cap ps := by
    rcases Go.Deep.open_slice_pairs Tryd.underlying36 Tryd.underlying89 cells89 rfl rfl (by kernel_rfl) (by kernel_rfl) hy0_1 with ⟨hcs, _⟩ | ⟨x, l, c, m, n, V0, V1, D0, D1, P0, P1, hcs, _, hl, hm, hmm, _, hall⟩
    · simp at hcs
      exact ⟨none, 0, [], hcs, ptsIn_nil _ _⟩
    · simp at hcs
      obtain ⟨ps, hp, hw⟩ := ptsIn_of hl hm (fun j hj => by
        obtain ⟨h1, h2, h3, h4⟩ := hall j (by rw [hmm]; simp; omega)
        obtain ⟨z0, e0, _, y0⟩ := DataW.trod_int Tryd.underlying3 h3
        obtain ⟨z1, e1, _, y1⟩ := DataW.trod_int Tryd.underlying3 h4
        simp at e0 e1
        exact ⟨z0, z1, by rw [h1, e0], by rw [h2, e1], y0, y1⟩)
      exact ⟨some x, c, ps, by rw [hcs, hp], hw⟩
  subst e0_1
  have hl2 : laidMet Tryd.prog Rows.fnExactShapeTextRow.laid W := hL
  clear hA0 hval0
  refine (walk kd0 a0 cap0 ps0 W wkd0 w0 (itoa_of (g := 4) (by kernel_rfl) (Lib.tabIs_of_head (zs := Lib.pow10Tab) (rest := _) (g := 4) (t := 181) (by kernel_rfl) (by kernel_rfl) Tryd.underlying181 (by kernel_rfl) (by kernel_rfl) (by kernel_rfl) (laidMet.tail (laidMet.tail hl2))) (fun n b1 b2 w' ht => Any.strconv_Itoa Tryd.laysM171 n b1 b2 w' ht)) (kw_of (rest := []) (by kernel_rfl) (by kernel_rfl) (laidMet.tail (laidMet.tail (laidMet.tail hl2))))).mono fun e W' ⟨he, bel⟩ => ?_
  subst he
  exact ⟨_, rfl, _, _, _, [], _, _, hW', trodAll_mk1 (shut_bool Tryd.underlying4 _), (trodAll_cons_mk (Below.trod laidOut (by kernel_rfl) (of_decide_eq_true (by kernel_rfl)) k0 bel lt0) trodAll_mk0), Below.trodVars laidOut bel (by kernel_rfl) hV, bel.frame _, fun h => by cases h⟩
def tabs (h : Array Obj) : Array Obj := h
  |>.modify 8 (fun | .cells _ t frozen => .cells #[.int .u8 0, .int .u8 1, .int .u8 28, .int .u8 2, .int .u8 29, .int .u8 14, .int .u8 24, .int .u8 3, .int .u8 30, .int .u8 22, .int .u8 20, .int .u8 15, .int .u8 25, .int .u8 17, .int .u8 4, .int .u8 8, .int .u8 31, .int .u8 27, .int .u8 13, .int .u8 23, .int .u8 21, .int .u8 19, .int .u8 16, .int .u8 7, .int .u8 26, .int .u8 12, .int .u8 18, .int .u8 6, .int .u8 11, .int .u8 5, .int .u8 10, .int .u8 9] t frozen | o => o)
  |>.modify 9 (fun | .cells _ t frozen => .cells #[.int .u8 0, .int .u8 1, .int .u8 56, .int .u8 2, .int .u8 57, .int .u8 49, .int .u8 28, .int .u8 3, .int .u8 61, .int .u8 58, .int .u8 42, .int .u8 50, .int .u8 38, .int .u8 29, .int .u8 17, .int .u8 4, .int .u8 62, .int .u8 47, .int .u8 59, .int .u8 36, .int .u8 45, .int .u8 43, .int .u8 51, .int .u8 22, .int .u8 53, .int .u8 39, .int .u8 33, .int .u8 30, .int .u8 24, .int .u8 18, .int .u8 12, .int .u8 5, .int .u8 63, .int .u8 55, .int .u8 48, .int .u8 27, .int .u8 60, .int .u8 41, .int .u8 37, .int .u8 16, .int .u8 46, .int .u8 35, .int .u8 44, .int .u8 21, .int .u8 52, .int .u8 32, .int .u8 23, .int .u8 11, .int .u8 54, .int .u8 26, .int .u8 40, .int .u8 15, .int .u8 34, .int .u8 20, .int .u8 31, .int .u8 10, .int .u8 25, .int .u8 14, .int .u8 19, .int .u8 9, .int .u8 13, .int .u8 8, .int .u8 7, .int .u8 6] t frozen | o => o)
  |>.modify 4 (fun | .cells _ t frozen => .cells #[.int .u64 1, .int .u64 10, .int .u64 100, .int .u64 1000, .int .u64 10000, .int .u64 100000, .int .u64 1000000, .int .u64 10000000, .int .u64 100000000, .int .u64 1000000000, .int .u64 10000000000, .int .u64 100000000000, .int .u64 1000000000000, .int .u64 10000000000000, .int .u64 100000000000000, .int .u64 1000000000000000, .int .u64 10000000000000000, .int .u64 100000000000000000, .int .u64 1000000000000000000, .int .u64 10000000000000000000] t frozen | o => o)
  |>.modify 0 (fun | .cells _ t frozen => .cells #[.string ⟨#[80, 79, 73, 78, 84]⟩, .string ⟨#[76, 73, 78, 69]⟩, .string ⟨#[82, 69, 67, 84]⟩, .string ⟨#[80, 79, 76, 89]⟩] t frozen | o => o)
theorem laid_met (os : Os) : laidMet Tryd.prog Rows.fnExactShapeTextRow.laid (({ World.holding Tryd.prog os ⟨#[], #[], []⟩ with heap := tabs (World.holding Tryd.prog os ⟨#[], #[], []⟩).heap } : World).forCall (fun _ _ => 0) ⟨#[], #[.agg #[.int .i64 0, .slice none 0 0]], []⟩).memory :=
  laidMet_of_run' 8 (by kernel_rfl) (by kernel_rfl)
theorem reads (os : Os) {H : Type} (enc : TypeId × Value → H) : ∃ x, DataW.whole enc Tryd.prog (({ World.holding Tryd.prog os ⟨#[], #[], []⟩ with heap := tabs (World.holding Tryd.prog os ⟨#[], #[], []⟩).heap } : World).forCall (fun _ _ => 0) ⟨#[], #[.agg #[.int .i64 0, .slice none 0 0]], []⟩).memory Tryd.f4.params.toList Rows.fnExactShapeTextSpec.vars false (#[.agg #[.int .i64 0, .slice none 0 0]] : Array Value).toList 8 = some x :=
  Option.isSome_iff_exists.1 (by kernel_rfl)
set_option maxRecDepth 100000 in
theorem lifted (os : Os) (started : os.Started) (H : Type) (enc : TypeId × Value → H) (F : Stop.Interp) :
    ReturnsInHanded {} Tryd.checked os 4 .any ((OpenSpec.ofChange Rows.fnExactShapeTextSpec).preRow enc Tryd.prog Tryd.f4 Rows.fnExactShapeTextRow.domain false Rows.fnExactShapeTextRow.laid) (((OpenSpec.ofChange Rows.fnExactShapeTextSpec).at F).post enc Tryd.prog Tryd.f4 false true false false) := by
  obtain ⟨x, hx⟩ := reads os enc
  refine returnsInHanded_of_row (C := Tryd.checked) (s := OpenSpec.ofChange Rows.fnExactShapeTextSpec) own started (by kernel_rfl) Tryd.func4
    (witness_row_at (enc := enc) (C := Tryd.checked) false ({ World.holding Tryd.prog os ⟨#[], #[], []⟩ with heap := tabs (World.holding Tryd.prog os ⟨#[], #[], []⟩).heap }) #[.agg #[.int .i64 0, .slice none 0 0]] rfl (by kernel_rfl) (by kernel_rfl) (by kernel_rfl)
      (OpenSpec.preRow_of_cond 8 hx (by rfl) (fun k hk => by cases hk) (by kernel_rfl) (laid_met os))) ?_
  intro W base args ds gs before hval hW _ _ _ hL _ _
  exact contract H enc W base args ds gs before hval hW hL
theorem said : Rows.FnExactShapeTextSaid :=
  OpenClaim.holds_of_cond 4 Tryd.f4 rfl rfl rfl rfl rfl rfl rfl ⟨rfl, rfl, rfl, rfl, rfl⟩ rfl rfl rfl rfl rfl (by kernel_rfl) Tryd.func4 (by kernel_rfl)
    (of_decide_eq_true (by kernel_rfl)) (by unfold Func.isWrapper; first | (rw [if_pos (by decide +kernel)]; kernel_rfl) | (rw [if_neg (by decide +kernel)]; exact ⟨rfl, rfl⟩))
    (fun os started H enc _ F => by rw [OpenClaim.pre_eq_preRow]; exact lifted os started H enc F)
theorem plain (f : FuncId) (fn : Func) (hf : Tryd.pinned.checked.prog.funcNamed Rows.fnExactShapeTextRow.func = some f) (hfn : Tryd.pinned.checked.prog.funcs[f]? = some fn) :
    true = Tryd.pinned.checked.prog.looks [] ∧ ∀ (j : Nat) t, fn.params[j]? = some t → Tryd.pinned.checked.prog.wantsStandIn t = false := by
  obtain rfl : f = 4 := Option.some.inj ((show Tryd.prog.funcNamed Rows.fnExactShapeTextRow.func = some 4 by kernel_rfl).symm.trans hf) |>.symm
  obtain rfl : fn = Tryd.f4 := (Option.some.inj (Tryd.func4.symm.trans hfn)).symm
  refine ⟨by kernel_rfl, fun j t ht => ?_⟩
  rw [Tryd.params4] at ht
  have hm : t ∈ ([38] : List Nat) := by simpa using Array.mem_of_getElem? ht
  exact (show ∀ t ∈ ([38] : List Nat), Tryd.prog.wantsStandIn t = false from of_decide_eq_true (by kernel_rfl)) t hm
end Go.Proofs.YtokoompldkcmjaaDoor.fnExactShapeText
namespace Go.Proofs.YtokoompldkcmjaaDoor
theorem fnExactShapeText_holds : Rows.FnExactShapeTextCardSaid :=
  Claim7.holds_tied_plain_at .later [] _ _ _ _ fnExactShapeText.said (fun _ h => by cases h) (by kernel_rfl) (fun _ h => by cases h) fnExactShapeText_row_tie rfl ⟨rfl, rfl⟩ (by kernel_rfl) rfl fnExactShapeText.plain (by kernel_rfl)
#print axioms fnExactShapeText_holds
end Go.Proofs.YtokoompldkcmjaaDoor
