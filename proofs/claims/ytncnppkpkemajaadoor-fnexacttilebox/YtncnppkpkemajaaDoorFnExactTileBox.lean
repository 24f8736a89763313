/- For every argument the landed TileBox answers as the specification's TileBox, field by field, and writes into no argument; the table of the tiles' sides holds what the program's text lays. -/
import Derived.Test.YtncnppkpkemajaaDoorCards
import Derived.Test.YtncnppkpkemajaaDoorTie
import Derived.Test.YtncnppkpkemajaaDoorTileT
import Derived.WalkKit
import Derived.Deep.DeepCutAuto
import Derived.ProofKit
import Derived.OpenShut
import Derived.ShutString
import Derived.ChangeOld
import Derived.Below
import Derived.Carry
import Derived.OpenVars
import Derived.Lib.SmallJoins
import Derived.Deep.SlicePairs
import Derived.Deep.DeepHandedRow
import Derived.Lib.LaidTab
import Derived.Stop.LaidErr
namespace Go.Proofs.YtncnppkpkemajaaDoor.fnExactTileBox
open Go.ChangeShapes Go.WideShapes Go.ChangeAt Go.RowKit Go.Joins
set_option linter.unusedVariables false
set_option linter.unusedSimpArgs false
theorem own : ownKnob Tryd.prog.godebug = none := by kernel_rfl
theorem laidOut : laidOutB Tryd.prog = true := by kernel_rfl
theorem cells40 : Tryd.prog.cellsOf 40 = 3 := by kernel_rfl
theorem walk (x0 y0 z0 : Int) (w : World) (wx0 : (Lit.int .i64 x0).wf = true) (wy0 : (Lit.int .i64 y0).wf = true) (wz0 : (Lit.int .i64 z0).wf = true) (hT : Tab w) :
    Calls Tryd.prog 5 #[.agg #[.int .i64 x0, .int .i64 y0, .int .i64 z0]] w fun e w' => e = .returned (.bool true) ∧ Below w.heap.size w w' := by
  have HT := hid hT
  clear hT
  go_enter Tryd.func5, Tryd.ntmps5
  go_wp2_with fail
  refine (to_tile x0 y0 z0 _).mono ?_
  rintro e w1 ⟨rfl, b1⟩
  have c1_0 : w1.cell? ⟨w.heap.size, 0, none⟩ = some (.int .i64 x0) := by (repeat (first | with_reducible assumption | (refine newcell _ _ _ _ _ _ ?_ rfl; simp; done) | with_reducible refine keepcell (by with_reducible assumption) ?_ | with_reducible refine keepdrew ?_ | with_reducible refine keepalloc ?_ _))
  have c1_1 : w1.cell? ⟨w.heap.size, 1, none⟩ = some (.int .i64 y0) := by (repeat (first | with_reducible assumption | (refine newcell _ _ _ _ _ _ ?_ rfl; simp; done) | with_reducible refine keepcell (by with_reducible assumption) ?_ | with_reducible refine keepdrew ?_ | with_reducible refine keepalloc ?_ _))
  have c1_2 : w1.cell? ⟨w.heap.size, 2, none⟩ = some (.int .i64 z0) := by (repeat (first | with_reducible assumption | (refine newcell _ _ _ _ _ _ ?_ rfl; simp; done) | with_reducible refine keepcell (by with_reducible assumption) ?_ | with_reducible refine keepdrew ?_ | with_reducible refine keepalloc ?_ _))
  have B1 : Below w.heap.size w w1 := by (repeat (first | with_reducible exact Below.refl _ _ | with_reducible assumption | (with_reducible refine btrans ?_ (by with_reducible assumption)) | with_reducible refine bdrew ?_ | with_reducible refine balloc ?_ _ | with_reducible refine bset ?_ (by simp; omega) _))
  clear b1
  go_wp2_with fail
  refine (spec_tilebox x0 y0 z0 _).mono ?_
  rintro e w2 ⟨rfl, b2⟩
  have c2_0 : w2.cell? ⟨w.heap.size, 0, none⟩ = some (.int .i64 x0) := by (repeat (first | with_reducible assumption | with_reducible refine keepcell b2 ?_ | with_reducible refine keepcell b3 ?_ | with_reducible refine keepcell b4 ?_ | (refine newcell _ _ _ _ _ _ ?_ rfl; simp; done) | with_reducible refine keepdrew ?_ | with_reducible refine keepalloc ?_ _))
  have c2_1 : w2.cell? ⟨w.heap.size, 1, none⟩ = some (.int .i64 y0) := by (repeat (first | with_reducible assumption | with_reducible refine keepcell b2 ?_ | with_reducible refine keepcell b3 ?_ | with_reducible refine keepcell b4 ?_ | (refine newcell _ _ _ _ _ _ ?_ rfl; simp; done) | with_reducible refine keepdrew ?_ | with_reducible refine keepalloc ?_ _))
  have c2_2 : w2.cell? ⟨w.heap.size, 2, none⟩ = some (.int .i64 z0) := by (repeat (first | with_reducible assumption | with_reducible refine keepcell b2 ?_ | with_reducible refine keepcell b3 ?_ | with_reducible refine keepcell b4 ?_ | (refine newcell _ _ _ _ _ _ ?_ rfl; simp; done) | with_reducible refine keepdrew ?_ | with_reducible refine keepalloc ?_ _))
  have hl2 : w.heap.size < w2.heap.size := World.block_lt_of_cell? w2 _ c2_0
  have B2 : Below w.heap.size w w2 := by (repeat (first | with_reducible exact Below.refl _ _ | with_reducible assumption | (with_reducible refine btrans ?_ (by with_reducible assumption)) | with_reducible refine bdrew ?_ | with_reducible refine balloc ?_ _ | with_reducible refine bset ?_ (by simp; omega) _))
  clear b2 c1_0 c1_1 c1_2 B1
  go_wp2_with fail
  refine (to_tile x0 y0 z0 _).mono ?_
  rintro e w3 ⟨rfl, b3⟩
  have B3 : Below w.heap.size w w3 := by (repeat (first | with_reducible exact Below.refl _ _ | with_reducible assumption | (with_reducible refine btrans ?_ (by with_reducible assumption)) | with_reducible refine bdrew ?_ | with_reducible refine balloc ?_ _ | with_reducible refine bset ?_ (by simp; omega) _))
  clear b3 B2
  go_wp2_with fail
  refine (impl_tilebox x0 y0 z0 _ (HT.out.below B3)).mono ?_
  rintro e w4 ⟨rfl, b4⟩
  have B4 : Below w.heap.size w w4 := by (repeat (first | with_reducible exact Below.refl _ _ | with_reducible assumption | (with_reducible refine btrans ?_ (by with_reducible assumption)) | with_reducible refine bdrew ?_ | with_reducible refine balloc ?_ _ | with_reducible refine bset ?_ (by simp; omega) _))
  clear b4
  generalize tbx x0 y0 z0 = k1
  generalize tby x0 y0 z0 = k2
  generalize tbu x0 y0 z0 = k3
  generalize tbv x0 y0 z0 = k4
  go_wp2_with fail
  all_goals first | (exfalso; simp_all; done) | (go_ret; exact ⟨rfl, by (repeat (first | with_reducible exact Below.refl _ _ | with_reducible assumption | (with_reducible refine btrans ?_ (by with_reducible assumption)) | with_reducible refine bdrew ?_ | with_reducible refine balloc ?_ _ | with_reducible refine bset ?_ (by simp; omega) _))⟩)
theorem contract (H : Type) (enc : TypeId × Value → H) (W : World) (base : Nat) (args : Array Value) (ds gs : List (DataW H)) (before : List MemPlace)
    (hval0 : ∀ (j : Nat) t v, Tryd.f5.params[j]? = some t → args[j]? = some v → Value.okWide Tryd.prog W .any base t v)
    (hW : DataW.Whole enc Tryd.prog Tryd.f5.params.toList Rows.fnExactTileBoxSpec.vars false W args.toList ds gs before) (hL : laidMetH Tryd.prog Rows.fnExactTileBoxRow.laid W) :
    Calls Tryd.prog 5 args W fun e W' => ∃ v, e = .returned v ∧ Rows.fnExactTileBoxSpec.post enc Tryd.prog Tryd.f5 false true false false W args v W' := by
  have hval : ∀ (j : Nat) t v, Tryd.f5.params[j]? = some t → args[j]? = some v → Value.okWide Tryd.prog W .any base t v := hval0
  have hW' := hW
  obtain ⟨p, q, hA0, hV, rfl, hfz, hnd⟩ := hW
  have hA : DataW.TrodAll enc Tryd.prog W 0 (fun _ => true) true Tryd.f5.params.toList args.toList ds p := hA0
  rw [Tryd.params5] at hA hval
  obtain ⟨v0, vs0, d0, ds0, p0, q0, hargs, rfl, rfl, h0, r0⟩ := trodAll_cons hA
  obtain ⟨rfl, rfl, rfl⟩ := trodAll_nil r0
  obtain rfl : args = #[v0] := by cases args; simp_all
  obtain ⟨_, _, _, _, g1, _, eg, _⟩ := trodVars_one hV
  subst eg
  have k0 := h0
  have lt0 : ∀ x ∈ p0, x.block < W.heap.size := by obtain ⟨m, hm⟩ := k0; exact DataW.trod_lt m _ _ _ hm
  obtain ⟨c0_0, c0_1, c0_2, g0_0, g0_1, g0_2, m0, rfl, rfl, rfl, hy0_0, hy0_1, hy0_2⟩ := open_agg3 Tryd.underlying40 (by kernel_rfl) cells40 (hval 0 40 v0 rfl rfl) h0
  obtain ⟨x0, e0_0, rfl, wx0⟩ := DataW.trod_int Tryd.underlying3 hy0_0
  obtain ⟨y0, e0_1, rfl, wy0⟩ := DataW.trod_int Tryd.underlying3 hy0_1
  obtain ⟨z0, e0_2, rfl, wz0⟩ := DataW.trod_int Tryd.underlying3 hy0_2
  simp at e0_0 e0_1 e0_2
  subst e0_0 e0_1 e0_2
  clear hA0 hval0
  refine (walk x0 y0 z0 W wx0 wy0 wz0 (tab_of_is (Lib.tabIs_of_head (g := 0) (rest := []) (by kernel_rfl) (by kernel_rfl) Tryd.underlying55 Tryd.underlying3 (by kernel_rfl) (by kernel_rfl) hL) (by kernel_rfl))).mono fun e W' ⟨he, bel⟩ => ?_
  subst he
  exact ⟨_, rfl, _, _, _, [], _, _, hW', trodAll_mk1 (shut_bool Tryd.underlying4 _), (trodAll_cons_mk (Below.trod laidOut (by kernel_rfl) (of_decide_eq_true (by kernel_rfl)) k0 bel lt0) trodAll_mk0), Below.trodVars laidOut bel (by kernel_rfl) hV, bel.frame _, fun h => by cases h⟩
def tabs (h : Array Obj) : Array Obj := h
  |>.modify 0 (fun | .cells _ t frozen => .cells #[.int .i64 65536, .int .i64 32768, .int .i64 16384, .int .i64 8192, .int .i64 4096, .int .i64 2048, .int .i64 1024, .int .i64 512, .int .i64 256] t frozen | o => o)
theorem laid_met (os : Os) : laidMet Tryd.prog Rows.fnExactTileBoxRow.laid (({ World.holding Tryd.prog os ⟨#[], #[], []⟩ with heap := tabs (World.holding Tryd.prog os ⟨#[], #[], []⟩).heap } : World).forCall (fun _ _ => 0) ⟨#[], #[.agg #[.int .i64 0, .int .i64 0, .int .i64 0]], []⟩).memory :=
  laidMet_of_run' 8 (by kernel_rfl) (by kernel_rfl)
theorem reads (os : Os) {H : Type} (enc : TypeId × Value → H) : ∃ x, DataW.whole enc Tryd.prog (({ World.holding Tryd.prog os ⟨#[], #[], []⟩ with heap := tabs (World.holding Tryd.prog os ⟨#[], #[], []⟩).heap } : World).forCall (fun _ _ => 0) ⟨#[], #[.agg #[.int .i64 0, .int .i64 0, .int .i64 0]], []⟩).memory Tryd.f5.params.toList Rows.fnExactTileBoxSpec.vars false (#[.agg #[.int .i64 0, .int .i64 0, .int .i64 0]] : Array Value).toList 8 = some x :=
  Option.isSome_iff_exists.1 (by kernel_rfl)
set_option maxRecDepth 100000 in
theorem lifted (os : Os) (started : os.Started) (H : Type) (enc : TypeId × Value → H) (F : Stop.Interp) :
    ReturnsInHanded {} Tryd.checked os 5 .any ((OpenSpec.ofChange Rows.fnExactTileBoxSpec).preRow enc Tryd.prog Tryd.f5 Rows.fnExactTileBoxRow.domain false Rows.fnExactTileBoxRow.laid) (((OpenSpec.ofChange Rows.fnExactTileBoxSpec).at F).post enc Tryd.prog Tryd.f5 false true false false) := by
  obtain ⟨x, hx⟩ := reads os enc
  refine returnsInHanded_of_row (C := Tryd.checked) (s := OpenSpec.ofChange Rows.fnExactTileBoxSpec) own started (by kernel_rfl) Tryd.func5
    (witness_row_at (enc := enc) (C := Tryd.checked) false ({ World.holding Tryd.prog os ⟨#[], #[], []⟩ with heap := tabs (World.holding Tryd.prog os ⟨#[], #[], []⟩).heap }) #[.agg #[.int .i64 0, .int .i64 0, .int .i64 0]] rfl (by kernel_rfl) (by kernel_rfl) (by kernel_rfl)
      (OpenSpec.preRow_of_cond 8 hx (by rfl) (fun k hk => by cases hk) (by kernel_rfl) (laid_met os))) ?_
  intro W base args ds gs before hval hW _ _ _ hL _ _
  exact contract H enc W base args ds gs before hval hW hL
theorem said : Rows.FnExactTileBoxSaid :=
  OpenClaim.holds_of_cond 5 Tryd.f5 rfl rfl rfl rfl rfl rfl rfl ⟨rfl, rfl, rfl, rfl, rfl⟩ rfl rfl rfl rfl rfl (by kernel_rfl) Tryd.func5 (by kernel_rfl)
    (of_decide_eq_true (by kernel_rfl)) (by unfold Func.isWrapper; first | (rw [if_pos (by decide +kernel)]; kernel_rfl) | (rw [if_neg (by decide +kernel)]; exact ⟨rfl, rfl⟩))
    (fun os started H enc _ F => by rw [OpenClaim.pre_eq_preRow]; exact lifted os started H enc F)
theorem plain (f : FuncId) (fn : Func) (hf : Tryd.pinned.checked.prog.funcNamed Rows.fnExactTileBoxRow.func = some f) (hfn : Tryd.pinned.checked.prog.funcs[f]? = some fn) :
    false = Tryd.pinned.checked.prog.looks [] ∧ ∀ (j : Nat) t, fn.params[j]? = some t → Tryd.pinned.checked.prog.wantsStandIn t = false := by
  obtain rfl : f = 5 := Option.some.inj ((show Tryd.prog.funcNamed Rows.fnExactTileBoxRow.func = some 5 by kernel_rfl).symm.trans hf) |>.symm
  obtain rfl : fn = Tryd.f5 := (Option.some.inj (Tryd.func5.symm.trans hfn)).symm
  refine ⟨by kernel_rfl, fun j t ht => ?_⟩
  rw [Tryd.params5] at ht
  have hm : t ∈ ([40] : List Nat) := by simpa using Array.mem_of_getElem? ht
  exact (show ∀ t ∈ ([40] : List Nat), Tryd.prog.wantsStandIn t = false from of_decide_eq_true (by kernel_rfl)) t hm
end Go.Proofs.YtncnppkpkemajaaDoor.fnExactTileBox
namespace Go.Proofs.YtncnppkpkemajaaDoor
theorem fnExactTileBox_holds : Rows.FnExactTileBoxCardSaid :=
  Claim7.holds_tied_plain_at .later [] _ _ _ _ fnExactTileBox.said (fun _ h => by cases h) (by kernel_rfl) (fun _ h => by cases h) fnExactTileBox_row_tie rfl ⟨rfl, rfl⟩ (by kernel_rfl) rfl fnExactTileBox.plain (by kernel_rfl)
#print axioms fnExactTileBox_holds
end Go.Proofs.YtncnppkpkemajaaDoor
