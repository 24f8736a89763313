/- FnExactDump: at every argument Dump of the landed program answers as the specification, and writes into no argument. -/
import Derived.Test.YtfajjnkkablneaaGreatDoorCards
import Derived.Test.YtfajjnkkablneaaGreatDoorTie
import Derived.Test.YtfajjnkkablneaaGreatDoorJ3
import Derived.Test.YtfajjnkkablneaaGreatDoorRwE
import Derived.WalkKit
import Derived.Deep.DeepCutAuto
import Derived.ProofKit
import Derived.OpenShut
import Derived.ShutString
import Derived.ChangeOld
import Derived.Below
import Derived.Carry
import Derived.OpenVars
import Derived.Lib.SmallJoins
import Derived.Deep.SlicePairs
import Derived.Deep.DeepHandedRow
import Derived.Lib.LaidTab
import Derived.Stop.LaidErr
namespace Go.Proofs.YtfajjnkkablneaaGreatDoor.fnExactDump
open Go.ChangeShapes Go.WideShapes Go.ChangeAt Go.RowKit Go.Joins
set_option linter.unusedVariables false
set_option linter.unusedSimpArgs false
theorem own : ownKnob Tryz.prog.godebug = none := by kernel_rfl
theorem laidOut : laidOutB Tryz.prog = true := by kernel_rfl
theorem cells24 : Tryz.prog.cellsOf 24 = 2 := by kernel_rfl
set_option maxRecDepth 100000 in
set_option maxHeartbeats 4000000 in
theorem walk (now0 : Int) (a0 : Option Addr) (cap0 : Nat) (rs0 : List Rw) (a1 : Int) (w : World) (wnow0 : (Lit.int .i64 now0).wf = true) (hl0 : rs0.length ≤ 9223372036854775807) (w0 : RwsL w a0 rs0) (w1 : (Lit.int .i64 a1).wf = true) (hio : ItoaA w) (hkw : KW w) :
    Calls Tryz.prog 3 #[.agg #[.int .i64 now0, .slice a0 rs0.length cap0], .int .i64 a1] w fun e w' => e = .returned (.bool true) ∧ Below w.heap.size w w' := by
  clear wnow0 w1
  have HIO := hid hio
  have HKW := hid hkw
  clear hio hkw
  have HR0 := hid w0
  clear w0
  go_enter Tryz.func3, Tryz.ntmps3
  go_wp2_with fail
  refine (sz_allL now0 a0 cap0 rs0 _ hl0 (HR0.out.below (by show Below _ _ _; (repeat (first | with_reducible exact Below.refl _ _ | with_reducible assumption | (with_reducible refine btrans ?_ (by with_reducible assumption)) | with_reducible refine bdrew ?_ | with_reducible refine balloc ?_ _))))).mono ?_
  rintro e w1 ⟨⟨v, rfl, hv⟩, hb1⟩
  have q0 : w1.cell? ⟨w.heap.size, 0, none⟩ = some (.int .i64 now0) := by (repeat (first | with_reducible assumption | (refine newcell _ _ _ _ _ _ ?_ rfl; simp; done) | refine keepcell (by with_reducible assumption) ?_ | refine keepdrew ?_ | refine keepalloc ?_ _))
  have q1 : w1.cell? ⟨w.heap.size, 1, none⟩ = some (.slice a0 rs0.length cap0) := by (repeat (first | with_reducible assumption | (refine newcell _ _ _ _ _ _ ?_ rfl; simp; done) | refine keepcell (by with_reducible assumption) ?_ | refine keepdrew ?_ | refine keepalloc ?_ _))
  have hB1 : Below w.heap.size w w1 := by (repeat (first | with_reducible exact Below.refl _ _ | with_reducible assumption | (with_reducible refine btrans ?_ (by with_reducible assumption)) | with_reducible refine bdrew ?_ | with_reducible refine balloc ?_ _))
  rcases hv with rfl | ⟨hv0, hv1, HV⟩
  · go_wp2_with fail
    go_ret
    exact ⟨rfl, hB1⟩
  have hv2 : ¬ v < 0 := by omega
  have HP := hid (HR0.out.rws HV.out.2)
  have hm' : rs0.length ≤ 1099511627776 := by have := HV.out.1; omega
  clear HV HR0
  go_wp2_with fail
  refine (to_rows now0 a0 cap0 rs0 _ hm' (HP.out.below hB1)).mono ?_
  clear hB1
  rintro e w2 ⟨b2, rfl, hg2, hl2, ho2, hb2⟩
  have r0 : w2.cell? ⟨w.heap.size, 0, none⟩ = some (.int .i64 now0) := by (repeat (first | with_reducible assumption | (refine newcell _ _ _ _ _ _ ?_ rfl; simp; done) | refine keepcell (by with_reducible assumption) ?_ | refine keepdrew ?_ | refine keepalloc ?_ _))
  have r1 : w2.cell? ⟨w.heap.size, 1, none⟩ = some (.slice a0 rs0.length cap0) := by (repeat (first | with_reducible assumption | (refine newcell _ _ _ _ _ _ ?_ rfl; simp; done) | refine keepcell (by with_reducible assumption) ?_ | refine keepdrew ?_ | refine keepalloc ?_ _))
  have Ho2 := hid (show Rws (fun c => b2 < c) w2 (some ⟨b2, 0, none⟩) rs0 from .inr ⟨b2, 0, rfl, hl2, ho2⟩)
  clear ho2
  go_wp2_with fail
  have HSP := hid (spec_Dump now0 (some ⟨b2, 0, none⟩) rs0.length rs0 a1 w2 hm' Ho2.out)
  have HIM := hid (fun (W : World) (b : Nat) (h : Rws (fun c => b < c) W (some ⟨b, 0, none⟩) rs0) (hb : Below w.heap.size w W) => impl_Dump now0 (some ⟨b, 0, none⟩) rs0.length rs0 a1 W hm' h (HIO.out.below hb) (HKW.out.below hb))
  generalize dmT rs0 a1 (idsb now0 rs0 a1) (idsb now0 rs0 a1).length = u0 at *
  refine HSP.out.mono ?_
  rintro e w3 ⟨rfl, hb3⟩
  have s0 : w3.cell? ⟨w.heap.size, 0, none⟩ = some (.int .i64 now0) := by (repeat (first | with_reducible assumption | (refine newcell _ _ _ _ _ _ ?_ rfl; simp; done) | refine keepcell (by with_reducible assumption) ?_ | refine keepdrew ?_ | refine keepalloc ?_ _))
  have s1 : w3.cell? ⟨w.heap.size, 1, none⟩ = some (.slice a0 rs0.length cap0) := by (repeat (first | with_reducible assumption | (refine newcell _ _ _ _ _ _ ?_ rfl; simp; done) | refine keepcell (by with_reducible assumption) ?_ | refine keepdrew ?_ | refine keepalloc ?_ _))
  have hB3 : Below w.heap.size w w3 := by (repeat (first | with_reducible exact Below.refl _ _ | with_reducible assumption | (with_reducible refine btrans ?_ (by with_reducible assumption)) | with_reducible refine bdrew ?_ | with_reducible refine balloc ?_ _))
  clear HSP hb1 hb2 hb3 Ho2
  go_wp2_with fail
  refine (to_rows now0 a0 cap0 rs0 _ hm' (HP.out.below hB3)).mono ?_
  rintro e w5 ⟨b4, rfl, hg4, hl4, ho4, hb5⟩
  have y0 := keepcell hb5 s0
  have y1 := keepcell hb5 s1
  have Ho4 := hid (show Rws (fun c => b4 < c) w5 (some ⟨b4, 0, none⟩) rs0 from .inr ⟨b4, 0, rfl, hl4, ho4⟩)
  have hB5 := btrans hB3 hb5
  clear ho4 hb5 hB3
  go_upto_region 7 with fail
  have hal : Below w5.heap.size w5 (w5.alloc (.cells #[.int .i64 now0, .slice (some ⟨b4, 0, none⟩) rs0.length rs0.length] 29)) := balloc (Below.refl _ _) _
  have gX := new_alloc w5 w5.heap.size (.cells #[.int .i64 now0, .slice (some ⟨b4, 0, none⟩) rs0.length rs0.length] 29) rfl
  have hB6 := btrans hB5 hal
  have Ho5 := hid (Ho4.out.below hal)
  have k0 := keepcell hal y0
  have k1 := keepcell hal y1
  clear hal hB5 Ho4
  generalize w5.alloc (.cells #[.int .i64 now0, .slice (some ⟨b4, 0, none⟩) rs0.length rs0.length] 29) = w6 at *
  generalize w5.heap.size = X at *
  obtain ⟨d0, d1, _, _⟩ := cell2r gX
  go_wp2_with fail
  refine (HIM.out _ b4 Ho5.out hB6).mono ?_
  rintro e w9 ⟨rfl, hb7⟩
  have hB9 := btrans hB6 hb7
  have Ho9 := hid (Ho5.out.below hb7)
  replace gX := keepheap2 hb7 gX
  replace k0 := keepcell hb7 k0
  replace k1 := keepcell hb7 k1
  clear hb7 hB6 d0 d1 Ho5 HIM
  obtain ⟨d0, d1, _, _⟩ := cell2r gX
  clear gX q0 q1 r0 r1 s0 s1 y0 y1
  go_wp2_with fail
  go_region_held3 (fun w' => w'.cell? ⟨w.heap.size, 0, none⟩ = some (.int .i64 now0) ∧ w'.cell? ⟨w.heap.size, 1, none⟩ = some (.slice a0 rs0.length cap0) ∧ w'.cell? ⟨X, 0, none⟩ = some (.int .i64 now0) ∧ w'.cell? ⟨X, 1, none⟩ = some (.slice (some ⟨b4, 0, none⟩) rs0.length rs0.length)) ((go_split_ands; (repeat' apply And.intro) <;> (repeat (first | with_reducible assumption | with_reducible refine keepset ?_ (by dsimp only; omega) | with_reducible refine keepdrew ?_ | with_reducible refine keepcell (by with_reducible assumption) ?_ | with_reducible refine keepalloc ?_ _))))
    (first
      | (go_at_call 6; refine (to_rows now0 a0 cap0 rs0 _ hm' (HP.out.below (bdrew hB9))).mono ?_; rintro e z1 ⟨c1, rfl, hg1', hl1', ho1', hbv1⟩; have Hov1 := hid (show Rws (fun c => c1 < c) z1 (some ⟨c1, 0, none⟩) rs0 from .inr ⟨c1, 0, rfl, hl1', ho1'⟩); clear ho1'; have Hx1 := hid ((Ho9.out.below (bdrew (Below.refl _ _))).below hbv1))
      | (go_at_call 8; refine (eq_rows now0 _ _ _ _ rs0 _ hm' Hx1.out Hov1.out).mono ?_; rintro e z2 ⟨rfl, hbv2⟩))
  go_wp2_with fail
  go_ret
  exact ⟨rfl, by (repeat (first | with_reducible exact Below.refl _ _ | with_reducible assumption | (with_reducible refine btrans ?_ (by with_reducible assumption)) | with_reducible refine bdrew ?_ | with_reducible refine balloc ?_ _))⟩
theorem vars_len {H : Type} {enc : TypeId × Value → H} {P : Program} {w : World} {sp : Nat → Bool} : ∀ {ns : List String} {gs : List (DataW H)} {ps : List MemPlace}, DataW.TrodVars enc P w sp ns gs ps → gs.length = ns.length
  | [], [], _, _ => rfl
  | [], _ :: _, _, h => by simp [DataW.TrodVars] at h
  | _ :: _, [], _, h => by simp [DataW.TrodVars] at h
  | _ :: ns, _ :: ds, _, h => by
    obtain ⟨_, _, _, _, _, _, _, _, _, _, hs, _⟩ := h
    simp [vars_len hs]
set_option maxRecDepth 100000 in
theorem contract (H : Type) (enc : TypeId × Value → H) (W : World) (base : Nat) (args : Array Value) (ds gs : List (DataW H)) (before : List MemPlace)
    (hval0 : ∀ (j : Nat) t v, Tryz.f3.params[j]? = some t → args[j]? = some v → Value.okWide Tryz.prog W .any base t v)
    (hW : DataW.Whole enc Tryz.prog Tryz.f3.params.toList Rows.fnExactDumpSpec.vars false W args.toList ds gs before) (hL : laidMetH Tryz.prog Rows.fnExactDumpRow.laid W) :
    Calls Tryz.prog 3 args W fun e W' => ∃ v, e = .returned v ∧ Rows.fnExactDumpSpec.post enc Tryz.prog Tryz.f3 false true false false W args v W' := by
  have hval : ∀ (j : Nat) t v, Tryz.f3.params[j]? = some t → args[j]? = some v → Value.okWide Tryz.prog W .any base t v := hval0
  have hW' := hW
  obtain ⟨p, q, hA0, hV, rfl, hfz, hnd⟩ := hW
  have hA : DataW.TrodAll enc Tryz.prog W 0 (fun _ => true) true Tryz.f3.params.toList args.toList ds p := hA0
  rw [Tryz.params3] at hA hval
  obtain ⟨v0, vs0, d0, ds0, p0, q0, hargs, rfl, rfl, h0, r0⟩ := trodAll_cons hA
  obtain ⟨v1, vs1, d1, ds1, p1, q1, rfl, rfl, rfl, h1, r1⟩ := trodAll_cons r0
  obtain ⟨rfl, rfl, rfl⟩ := trodAll_nil r1
  obtain rfl : args = #[v0, v1] := by cases args; simp_all
  obtain ⟨_, _, _, _, g1, _, eg, _⟩ := trodVars_one hV
  subst eg
  have k0 := h0
  have lt0 : ∀ x ∈ p0, x.block < W.heap.size := by obtain ⟨m, hm⟩ := k0; exact DataW.trod_lt m _ _ _ hm
  have k1 := h1
  have lt1 : ∀ x ∈ p1, x.block < W.heap.size := by obtain ⟨m, hm⟩ := k1; exact DataW.trod_lt m _ _ _ hm
  obtain ⟨c0_0, c0_1, g0_0, g0_1, m0, rfl, rfl, rfl, hy0_0, hy0_1⟩ := open_agg2 Tryz.underlying24 (by kernel_rfl) cells24 (hval 0 24 v0 rfl rfl) h0
  obtain ⟨now0, e0_0, rfl, wnow0⟩ := DataW.trod_int Tryz.underlying3 hy0_0
  simp at e0_0
  subst e0_0
  obtain ⟨a0, cap0, rs0, e0_1, hl0, w0⟩ := open_rows hy0_1
  subst e0_1
  obtain ⟨a1, rfl, rfl, rfl, w1⟩ := open_int Tryz.underlying3 (hval 1 3 v1 rfl rfl) h1
  have hl2 : laidMet Tryz.prog Rows.fnExactDumpRow.laid W := hL
  clear hA0 hval0
  refine (walk now0 a0 cap0 rs0 a1 W wnow0 hl0 w0 w1 (itoa_ofA (g := 1) (by kernel_rfl) (Lib.tabIs_of_head (zs := Lib.pow10Tab) (rest := _) (g := 1) (t := 154) (by kernel_rfl) (by kernel_rfl) Tryz.underlying154 (by kernel_rfl) (by kernel_rfl) (by kernel_rfl) (laidMet.tail (laidMet.tail hl2))) (fun n b1 b2 w' ht => Any.strconv_Itoa Tryz.laysM171 n b1 b2 w' ht)) (kw_of (rest := []) (by kernel_rfl) (by kernel_rfl) (laidMet.tail (laidMet.tail (laidMet.tail hl2))))).mono fun e W' ⟨he, bel⟩ => ?_
  subst he
  exact ⟨_, rfl, _, _, _, [], _, _, hW', trodAll_mk1 (shut_bool Tryz.underlying4 _), (trodAll_cons_mk (Below.trod laidOut (by kernel_rfl) (of_decide_eq_true (by kernel_rfl)) k0 bel lt0) (trodAll_cons_mk (Below.trod laidOut (by kernel_rfl) (of_decide_eq_true (by kernel_rfl)) k1 bel lt1) trodAll_mk0)), Below.trodVars laidOut bel (by kernel_rfl) hV, bel.frame _, fun h => by cases h⟩
def tabs (h : Array Obj) : Array Obj := h
  |>.modify 3 (fun | .cells _ t frozen => .cells #[.int .u8 0, .int .u8 1, .int .u8 28, .int .u8 2, .int .u8 29, .int .u8 14, .int .u8 24, .int .u8 3, .int .u8 30, .int .u8 22, .int .u8 20, .int .u8 15, .int .u8 25, .int .u8 17, .int .u8 4, .int .u8 8, .int .u8 31, .int .u8 27, .int .u8 13, .int .u8 23, .int .u8 21, .int .u8 19, .int .u8 16, .int .u8 7, .int .u8 26, .int .u8 12, .int .u8 18, .int .u8 6, .int .u8 11, .int .u8 5, .int .u8 10, .int .u8 9] t frozen | o => o)
  |>.modify 4 (fun | .cells _ t frozen => .cells #[.int .u8 0, .int .u8 1, .int .u8 56, .int .u8 2, .int .u8 57, .int .u8 49, .int .u8 28, .int .u8 3, .int .u8 61, .int .u8 58, .int .u8 42, .int .u8 50, .int .u8 38, .int .u8 29, .int .u8 17, .int .u8 4, .int .u8 62, .int .u8 47, .int .u8 59, .int .u8 36, .int .u8 45, .int .u8 43, .int .u8 51, .int .u8 22, .int .u8 53, .int .u8 39, .int .u8 33, .int .u8 30, .int .u8 24, .int .u8 18, .int .u8 12, .int .u8 5, .int .u8 63, .int .u8 55, .int .u8 48, .int .u8 27, .int .u8 60, .int .u8 41, .int .u8 37, .int .u8 16, .int .u8 46, .int .u8 35, .int .u8 44, .int .u8 21, .int .u8 52, .int .u8 32, .int .u8 23, .int .u8 11, .int .u8 54, .int .u8 26, .int .u8 40, .int .u8 15, .int .u8 34, .int .u8 20, .int .u8 31, .int .u8 10, .int .u8 25, .int .u8 14, .int .u8 19, .int .u8 9, .int .u8 13, .int .u8 8, .int .u8 7, .int .u8 6] t frozen | o => o)
  |>.modify 1 (fun | .cells _ t frozen => .cells #[.int .u64 1, .int .u64 10, .int .u64 100, .int .u64 1000, .int .u64 10000, .int .u64 100000, .int .u64 1000000, .int .u64 10000000, .int .u64 100000000, .int .u64 1000000000, .int .u64 10000000000, .int .u64 100000000000, .int .u64 1000000000000, .int .u64 10000000000000, .int .u64 100000000000000, .int .u64 1000000000000000, .int .u64 10000000000000000, .int .u64 100000000000000000, .int .u64 1000000000000000000, .int .u64 10000000000000000000] t frozen | o => o)
  |>.modify 0 (fun | .cells _ t frozen => .cells #[.string ⟨#[80, 79, 73, 78, 84]⟩, .string ⟨#[76, 73, 78, 69]⟩, .string ⟨#[82, 69, 67, 84]⟩, .string ⟨#[80, 79, 76, 89]⟩] t frozen | o => o)
theorem laid_met (os : Os) : laidMet Tryz.prog Rows.fnExactDumpRow.laid (({ World.holding Tryz.prog os ⟨#[], #[], []⟩ with heap := tabs (World.holding Tryz.prog os ⟨#[], #[], []⟩).heap } : World).forCall (fun _ _ => 0) ⟨#[], #[.agg #[.int .i64 0, .slice none 0 0], .int .i64 0], []⟩).memory :=
  laidMet_of_run' 8 (by kernel_rfl) (by kernel_rfl)
theorem reads (os : Os) {H : Type} (enc : TypeId × Value → H) : ∃ x, DataW.whole enc Tryz.prog (({ World.holding Tryz.prog os ⟨#[], #[], []⟩ with heap := tabs (World.holding Tryz.prog os ⟨#[], #[], []⟩).heap } : World).forCall (fun _ _ => 0) ⟨#[], #[.agg #[.int .i64 0, .slice none 0 0], .int .i64 0], []⟩).memory Tryz.f3.params.toList Rows.fnExactDumpSpec.vars false (#[.agg #[.int .i64 0, .slice none 0 0], .int .i64 0] : Array Value).toList 8 = some x :=
  Option.isSome_iff_exists.1 (by kernel_rfl)
set_option maxRecDepth 100000 in
theorem lifted (os : Os) (started : os.Started) (H : Type) (enc : TypeId × Value → H) (F : Stop.Interp) :
    ReturnsInHanded {} Tryz.checked os 3 .any ((OpenSpec.ofChange Rows.fnExactDumpSpec).preRow enc Tryz.prog Tryz.f3 Rows.fnExactDumpRow.domain false Rows.fnExactDumpRow.laid) (((OpenSpec.ofChange Rows.fnExactDumpSpec).at F).post enc Tryz.prog Tryz.f3 false true false false) := by
  obtain ⟨x, hx⟩ := reads os enc
  refine returnsInHanded_of_row (C := Tryz.checked) (s := OpenSpec.ofChange Rows.fnExactDumpSpec) own started (by kernel_rfl) Tryz.func3
    (witness_row_at (enc := enc) (C := Tryz.checked) false ({ World.holding Tryz.prog os ⟨#[], #[], []⟩ with heap := tabs (World.holding Tryz.prog os ⟨#[], #[], []⟩).heap }) #[.agg #[.int .i64 0, .slice none 0 0], .int .i64 0] rfl (by kernel_rfl) (by kernel_rfl) (by kernel_rfl)
      (OpenSpec.preRow_of_cond 8 hx (by rfl) (fun k hk => by cases hk) (by kernel_rfl) (laid_met os))) ?_
  intro W base args ds gs before hval hW _ _ _ hL _ _
  exact contract H enc W base args ds gs before hval hW hL
theorem said : Rows.FnExactDumpSaid :=
  OpenClaim.holds_of_cond 3 Tryz.f3 rfl rfl rfl rfl rfl rfl rfl ⟨rfl, rfl, rfl, rfl, rfl⟩ rfl rfl rfl rfl rfl (by kernel_rfl) Tryz.func3 (by kernel_rfl)
    (of_decide_eq_true (by kernel_rfl)) (by unfold Func.isWrapper; first | (rw [if_pos (by decide +kernel)]; kernel_rfl) | (rw [if_neg (by decide +kernel)]; exact ⟨rfl, rfl⟩))
    (fun os started H enc _ F => by rw [OpenClaim.pre_eq_preRow]; exact lifted os started H enc F)
theorem plain (f : FuncId) (fn : Func) (hf : Tryz.pinned.checked.prog.funcNamed Rows.fnExactDumpRow.func = some f) (hfn : Tryz.pinned.checked.prog.funcs[f]? = some fn) :
    false = Tryz.pinned.checked.prog.looks [] ∧ ∀ (j : Nat) t, fn.params[j]? = some t → Tryz.pinned.checked.prog.wantsStandIn t = false := by
  obtain rfl : f = 3 := Option.some.inj ((show Tryz.prog.funcNamed Rows.fnExactDumpRow.func = some 3 by kernel_rfl).symm.trans hf) |>.symm
  obtain rfl : fn = Tryz.f3 := (Option.some.inj (Tryz.func3.symm.trans hfn)).symm
  refine ⟨by kernel_rfl, fun j t ht => ?_⟩
  rw [Tryz.params3] at ht
  have hm : t ∈ ([24, 3] : List Nat) := by simpa using Array.mem_of_getElem? ht
  exact (show ∀ t ∈ ([24, 3] : List Nat), Tryz.prog.wantsStandIn t = false from of_decide_eq_true (by kernel_rfl)) t hm
end Go.Proofs.YtfajjnkkablneaaGreatDoor.fnExactDump
namespace Go.Proofs.YtfajjnkkablneaaGreatDoor
theorem fnExactDump_holds : Rows.FnExactDumpCardSaid :=
  Claim7.holds_tied_plain_at .later [] _ _ _ _ fnExactDump.said (fun _ h => by cases h) (by kernel_rfl) (fun _ h => by cases h) fnExactDump_row_tie rfl ⟨rfl, rfl⟩ (by kernel_rfl) rfl fnExactDump.plain (by kernel_rfl)
#print axioms fnExactDump_holds
end Go.Proofs.YtfajjnkkablneaaGreatDoor
