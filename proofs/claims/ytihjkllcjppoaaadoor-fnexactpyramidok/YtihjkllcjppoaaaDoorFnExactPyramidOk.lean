/- PyramidOk answers as the specification's at every list of counts, and writes into none; impl.tileSides is as its initialiser lays it. -/
import Derived.Test.YtihjkllcjppoaaaDoorCards
import Derived.Test.YtihjkllcjppoaaaDoorTie
import Derived.Test.YtihjkllcjppoaaaDoorKi
import Derived.WalkKit
import Derived.Deep.DeepCutAuto
import Derived.ProofKit
import Derived.OpenShut
import Derived.ShutString
import Derived.ChangeOld
import Derived.Below
import Derived.Carry
import Derived.OpenVars
import Derived.Lib.SmallJoins
import Derived.Deep.SlicePairs
import Derived.Deep.DeepHandedRow
import Derived.Lib.LaidTab
import Derived.Stop.LaidErr
namespace Go.Proofs.YtihjkllcjppoaaaDoor.fnExactPyramidOk
open Go.ChangeShapes Go.WideShapes Go.ChangeAt Go.RowKit Go.Joins
set_option linter.unusedVariables false
set_option linter.unusedSimpArgs false
theorem own : ownKnob Tryd.prog.godebug = none := by kernel_rfl
theorem laidOut : laidOutB Tryd.prog = true := by kernel_rfl
theorem cells40 : Tryd.prog.cellsOf 40 = 2 := by kernel_rfl
set_option maxHeartbeats 1000000 in
theorem walk (a0 : Option Addr) (cap0 : Nat) (ps0 : List (Int × Int)) (w : World) (w0 : CtsIn w a0 cap0 ps0) (hT : Tab w) :
    Calls Tryd.prog 3 #[.slice a0 ps0.length cap0] w fun e w' => e = .returned (.bool true) ∧ Below w.heap.size w w' := by
  have HT := hid hT
  obtain ⟨⟨hp, hc, hm⟩, hk⟩ := w0
  have HK := hid hk
  clear hT hk
  by_cases hbig : (1048576 : Int) < (ps0.length : Int)
  · go_enter Tryd.func3, Tryd.ntmps3
    go_wp2_with fail
    refine (szc_big _ _ _ _ _ (by omega) (by omega) (by omega) (by omega)).mono ?_
    rintro e w1 ⟨rfl, hw⟩
    replace hw := hw.symm
    subst hw
    go_wp2_with fail
    go_ret
    exact ⟨rfl, by (repeat (first | with_reducible exact Below.refl _ _ | with_reducible assumption | (with_reducible refine btrans ?_ (by with_reducible assumption)) | with_reducible refine bdrew ?_ | with_reducible refine balloc ?_ _))⟩
  have hm' : ps0.length ≤ 1099511627776 := by omega
  have hp0 := hid hp
  clear hp
  go_enter Tryd.func3, Tryd.ntmps3
  go_wp2_with fail
  refine (szc_ok _ _ _ _ _ (by omega) (by omega) (by omega)).mono ?_
  rintro e w1 ⟨rfl, hw⟩
  replace hw := hw.symm
  subst hw
  go_wp2_with fail
  refine (to_counts a0 cap0 ps0 _ hm' hc hp0.out).mono ?_
  rintro e w1 ⟨b1, rfl, hg1, ho1, hb1⟩
  have Ho1 := hid ho1
  clear ho1
  go_wp2_with fail
  refine (spec_PyramidOk _ _ ps0 _ HK.out hm' (Nat.le_refl _) Ho1.out.pts).mono ?_
  rintro e w2 ⟨rfl, hb2⟩
  go_wp2_with fail
  have hp2 := hp0.out.below (hb1.trans (hb2.mono hb1.size))
  refine (to_counts a0 cap0 ps0 _ hm' hc hp2).mono ?_
  clear hp2
  rintro e w3 ⟨b3, rfl, hg3, ho3, hb3⟩
  have Ho3 := hid ho3
  clear ho3
  have hB3 : Below w.heap.size w w3 := by (repeat (first | with_reducible exact Below.refl _ _ | with_reducible assumption | (with_reducible refine btrans ?_ (by with_reducible assumption)) | with_reducible refine bdrew ?_ | with_reducible refine balloc ?_ _))
  have HT3 := hid (HT.out.below hB3)
  go_wp2_with fail
  refine (impl_PyramidOk _ _ ps0 _ HT3.out HK.out hm' (Nat.le_refl _) Ho3.out.pts).mono ?_
  rintro e w4 ⟨rfl, hb4⟩
  generalize pyb ps0 = pb
  have hB : Below w.heap.size w w4 := btrans hB3 hb4
  have key : (pb != pb) = false := by simp
  go_wp2_with fail
  have hp4 := hp0.out.below hB
  refine (to_counts a0 cap0 ps0 _ hm' hc hp4).mono ?_
  clear hp4
  rintro e w5 ⟨b5, rfl, hg5, ho5, hb5⟩
  have Ho5 := hid ho5
  clear ho5
  go_wp2_with fail
  have hx := (Ho3.out.below (btrans hb4 hb5)).pts
  refine (eq_counts _ _ _ _ ps0 _ hm' (Nat.le_refl _) (Nat.le_refl _) hx Ho5.out.pts).mono ?_
  clear hx
  rintro e w6 ⟨rfl, hb6⟩
  go_wp2_with fail
  go_ret
  exact ⟨rfl, by (repeat (first | with_reducible exact Below.refl _ _ | with_reducible assumption | (with_reducible refine btrans ?_ (by with_reducible assumption)) | with_reducible refine bdrew ?_ | with_reducible refine balloc ?_ _))⟩
theorem vars_len {H : Type} {enc : TypeId × Value → H} {P : Program} {w : World} {sp : Nat → Bool} : ∀ {ns : List String} {gs : List (DataW H)} {ps : List MemPlace}, DataW.TrodVars enc P w sp ns gs ps → gs.length = ns.length
  | [], [], _, _ => rfl
  | [], _ :: _, _, h => by simp [DataW.TrodVars] at h
  | _ :: _, [], _, h => by simp [DataW.TrodVars] at h
  | _ :: ns, _ :: ds, _, h => by
    obtain ⟨_, _, _, _, _, _, _, _, _, _, hs, _⟩ := h
    simp [vars_len hs]
set_option maxRecDepth 100000 in
theorem contract (H : Type) (enc : TypeId × Value → H) (W : World) (base : Nat) (args : Array Value) (ds gs : List (DataW H)) (before : List MemPlace)
    (hval0 : ∀ (j : Nat) t v, Tryd.f3.params[j]? = some t → args[j]? = some v → Value.okWide Tryd.prog W .any base t v)
    (hW : DataW.Whole enc Tryd.prog Tryd.f3.params.toList Rows.fnExactPyramidOkSpec.vars false W args.toList ds gs before) (hL : laidMetH Tryd.prog Rows.fnExactPyramidOkRow.laid W) :
    Calls Tryd.prog 3 args W fun e W' => ∃ v, e = .returned v ∧ Rows.fnExactPyramidOkSpec.post enc Tryd.prog Tryd.f3 false true false false W args v W' := by
  have hval : ∀ (j : Nat) t v, Tryd.f3.params[j]? = some t → args[j]? = some v → Value.okWide Tryd.prog W .any base t v := hval0
  have hW' := hW
  obtain ⟨p, q, hA0, hV, rfl, hfz, hnd⟩ := hW
  have hA : DataW.TrodAll enc Tryd.prog W 0 (fun _ => true) true Tryd.f3.params.toList args.toList ds p := hA0
  rw [Tryd.params3] at hA hval
  obtain ⟨v0, vs0, d0, ds0, p0, q0, hargs, rfl, rfl, h0, r0⟩ := trodAll_cons hA
  obtain ⟨rfl, rfl, rfl⟩ := trodAll_nil r0
  obtain rfl : args = #[v0] := by cases args; simp_all
  obtain ⟨_, _, _, _, g1, _, eg, _⟩ := trodVars_one hV
  subst eg
  have k0 := h0
  have lt0 : ∀ x ∈ p0, x.block < W.heap.size := by obtain ⟨m, hm⟩ := k0; exact DataW.trod_lt m _ _ _ hm
  obtain ⟨a0, len0, cap0, rfl⟩ := okWide_slice Tryd.underlying22 (hval 0 22 v0 rfl rfl)
  obtain ⟨ps0, hl0, w0⟩ : ∃ ps : List (Int × Int), len0 = ps.length ∧ CtsIn W a0 cap0 ps := by
    obtain ⟨fuel, hf⟩ := h0
    rcases Go.Deep.open_slice_pairs Tryd.underlying22 Tryd.underlying40 cells40 rfl rfl (by kernel_rfl) (by kernel_rfl) hf with ⟨hcs, _⟩ | ⟨x, l, c, m, n, V0, V1, D0, D1, P0, P1, hcs, _, hl, hm, hmm, _, hall⟩
    · simp [Value.cells] at hcs
      obtain ⟨rfl, rfl, rfl⟩ := hcs
      exact ⟨[], rfl, ctsIn_nil _ _⟩
    · simp [Value.cells] at hcs
      obtain ⟨rfl, rfl, rfl⟩ := hcs
      exact ctsIn_of hl hm (fun j hj => by
        obtain ⟨h1, h2, h3, h4⟩ := hall j (by rw [hmm]; simp; omega)
        obtain ⟨z0, e0, _, y0⟩ := DataW.trod_int Tryd.underlying3 h3
        obtain ⟨z1, e1, _, y1⟩ := DataW.trod_int Tryd.underlying3 h4
        simp at e0 e1
        exact ⟨z0, z1, by rw [h1, e0], by rw [h2, e1], y0, y1⟩)
  subst hl0
  clear hA0 hval0
  refine (walk a0 cap0 ps0 W w0 (tab_of_is (Lib.tabIs_of_head (g := 0) (rest := []) (by kernel_rfl) (by kernel_rfl) Tryd.underlying58 Tryd.underlying3 (by kernel_rfl) (by kernel_rfl) hL) (by kernel_rfl))).mono fun e W' ⟨he, bel⟩ => ?_
  subst he
  exact ⟨_, rfl, _, _, _, [], _, _, hW', trodAll_mk1 (shut_bool Tryd.underlying4 _), (trodAll_cons_mk (Below.trod laidOut (by kernel_rfl) (of_decide_eq_true (by kernel_rfl)) k0 bel lt0) trodAll_mk0), Below.trodVars laidOut bel (by kernel_rfl) hV, bel.frame _, fun h => by cases h⟩
def tabs (h : Array Obj) : Array Obj := h
  |>.modify 0 (fun | .cells _ t frozen => .cells #[.int .i64 65536, .int .i64 32768, .int .i64 16384, .int .i64 8192, .int .i64 4096, .int .i64 2048, .int .i64 1024, .int .i64 512, .int .i64 256] t frozen | o => o)
theorem laid_met (os : Os) : laidMet Tryd.prog Rows.fnExactPyramidOkRow.laid (({ World.holding Tryd.prog os ⟨#[], #[], []⟩ with heap := tabs (World.holding Tryd.prog os ⟨#[], #[], []⟩).heap } : World).forCall (fun _ _ => 0) ⟨#[], #[.slice none 0 0], []⟩).memory :=
  laidMet_of_run' 8 (by kernel_rfl) (by kernel_rfl)
theorem reads (os : Os) {H : Type} (enc : TypeId × Value → H) : ∃ x, DataW.whole enc Tryd.prog (({ World.holding Tryd.prog os ⟨#[], #[], []⟩ with heap := tabs (World.holding Tryd.prog os ⟨#[], #[], []⟩).heap } : World).forCall (fun _ _ => 0) ⟨#[], #[.slice none 0 0], []⟩).memory Tryd.f3.params.toList Rows.fnExactPyramidOkSpec.vars false (#[.slice none 0 0] : Array Value).toList 8 = some x :=
  Option.isSome_iff_exists.1 (by kernel_rfl)
set_option maxRecDepth 100000 in
theorem lifted (os : Os) (started : os.Started) (H : Type) (enc : TypeId × Value → H) (F : Stop.Interp) :
    ReturnsInHanded {} Tryd.checked os 3 .any ((OpenSpec.ofChange Rows.fnExactPyramidOkSpec).preRow enc Tryd.prog Tryd.f3 Rows.fnExactPyramidOkRow.domain false Rows.fnExactPyramidOkRow.laid) (((OpenSpec.ofChange Rows.fnExactPyramidOkSpec).at F).post enc Tryd.prog Tryd.f3 false true false false) := by
  obtain ⟨x, hx⟩ := reads os enc
  refine returnsInHanded_of_row (C := Tryd.checked) (s := OpenSpec.ofChange Rows.fnExactPyramidOkSpec) own started (by kernel_rfl) Tryd.func3
    (witness_row_at (enc := enc) (C := Tryd.checked) false ({ World.holding Tryd.prog os ⟨#[], #[], []⟩ with heap := tabs (World.holding Tryd.prog os ⟨#[], #[], []⟩).heap }) #[.slice none 0 0] rfl (by kernel_rfl) (by kernel_rfl) (by kernel_rfl)
      (OpenSpec.preRow_of_cond 8 hx (by rfl) (fun k hk => by cases hk) (by kernel_rfl) (laid_met os))) ?_
  intro W base args ds gs before hval hW _ _ _ hL _ _
  exact contract H enc W base args ds gs before hval hW hL
theorem said : Rows.FnExactPyramidOkSaid :=
  OpenClaim.holds_of_cond 3 Tryd.f3 rfl rfl rfl rfl rfl rfl rfl ⟨rfl, rfl, rfl, rfl, rfl⟩ rfl rfl rfl rfl rfl (by kernel_rfl) Tryd.func3 (by kernel_rfl)
    (of_decide_eq_true (by kernel_rfl)) (by unfold Func.isWrapper; first | (rw [if_pos (by decide +kernel)]; kernel_rfl) | (rw [if_neg (by decide +kernel)]; exact ⟨rfl, rfl⟩))
    (fun os started H enc _ F => by rw [OpenClaim.pre_eq_preRow]; exact lifted os started H enc F)
theorem plain (f : FuncId) (fn : Func) (hf : Tryd.pinned.checked.prog.funcNamed Rows.fnExactPyramidOkRow.func = some f) (hfn : Tryd.pinned.checked.prog.funcs[f]? = some fn) :
    false = Tryd.pinned.checked.prog.looks [] ∧ ∀ (j : Nat) t, fn.params[j]? = some t → Tryd.pinned.checked.prog.wantsStandIn t = false := by
  obtain rfl : f = 3 := Option.some.inj ((show Tryd.prog.funcNamed Rows.fnExactPyramidOkRow.func = some 3 by kernel_rfl).symm.trans hf) |>.symm
  obtain rfl : fn = Tryd.f3 := (Option.some.inj (Tryd.func3.symm.trans hfn)).symm
  refine ⟨by kernel_rfl, fun j t ht => ?_⟩
  rw [Tryd.params3] at ht
  have hm : t ∈ ([22] : List Nat) := by simpa using Array.mem_of_getElem? ht
  exact (show ∀ t ∈ ([22] : List Nat), Tryd.prog.wantsStandIn t = false from of_decide_eq_true (by kernel_rfl)) t hm
end Go.Proofs.YtihjkllcjppoaaaDoor.fnExactPyramidOk
namespace Go.Proofs.YtihjkllcjppoaaaDoor
theorem fnExactPyramidOk_holds : Rows.FnExactPyramidOkCardSaid :=
  Claim7.holds_tied_plain_at .later [] _ _ _ _ fnExactPyramidOk.said (fun _ h => by cases h) (by kernel_rfl) (fun _ h => by cases h) fnExactPyramidOk_row_tie rfl ⟨rfl, rfl⟩ (by kernel_rfl) rfl fnExactPyramidOk.plain (by kernel_rfl)
#print axioms fnExactPyramidOk_holds
end Go.Proofs.YtihjkllcjppoaaaDoor
