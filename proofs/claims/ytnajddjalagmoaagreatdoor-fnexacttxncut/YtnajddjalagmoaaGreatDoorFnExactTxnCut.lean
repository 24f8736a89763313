/- At every store, number and id the landed TxnCut answers as the specification's, field by field; it writes into no argument, and its answer owns its memory. -/
import Derived.Test.YtnajddjalagmoaaGreatDoorCards
import Derived.Test.YtnajddjalagmoaaGreatDoorTie
import Derived.Test.YtnajddjalagmoaaGreatDoorC9
import Derived.WalkKit
import Derived.Deep.DeepCutAuto
import Derived.ProofKit
import Derived.OpenShut
import Derived.ShutString
import Derived.ChangeOld
import Derived.Below
import Derived.Carry
import Derived.OpenVars
import Derived.Lib.SmallJoins
import Derived.Deep.SlicePairs
import Derived.Deep.DeepHandedRow
import Derived.Lib.LaidTab
import Derived.Deep.DeepWitnessRowRef
import Derived.LaidLaws
import Derived.LaidHandle
import Derived.Stop.LaidErr
namespace Go.Proofs.YtnajddjalagmoaaGreatDoor.fnExactTxnCut
open Go.ChangeShapes Go.WideShapes Go.ChangeAt Go.RowKit Go.Joins
set_option linter.unusedVariables false
set_option linter.unusedSimpArgs false
theorem own : ownKnob Tryz.prog.godebug = none := by kernel_rfl
theorem laidOut : laidOutB Tryz.prog = true := by kernel_rfl
theorem star : "*" ++ "errors.errorString" = "*errors.errorString" := by decide
theorem rowE (u : TypeId) (h : Tryz.prog.typeName? 3 u = some "*errors.errorString") : u = 247 :=
  typeName_ptr_named (nm := "errors.errorString") (by rw [star]; kernel_rfl) (by kernel_rfl) (by decide) u (by rw [star]; exact h)
theorem parts_of {W : World} (h : laidMetH Tryz.prog Rows.fnExactTxnCutRow.laid W) : laidMet Tryz.prog [("loop.example/g00229/impl.errNone", Rows.laid_loop_example_g00229_impl_errNone), ("loop.example/g00229/impl.errMissing", Rows.laid_loop_example_g00229_impl_errMissing)] W ∧ handlesMet Tryz.prog [("errors.errorType", Rows.laid_errors_errorType)] W := h
theorem sent_of {W : World} (h : laidMetH Tryz.prog Rows.fnExactTxnCutRow.laid W) : ∃ a : Addr, W.cell? ⟨0, 0, none⟩ = some (.iface 247 (.pointer (some a))) := by
  obtain ⟨a1, s1, hv1, _⟩ := laid_sentinel (g := 0) (ti := 73) (tp := 247) (parts_of h).1 (by kernel_rfl) (by kernel_rfl) Tryz.underlying73 rowE Tryz.underlying247 Tryz.underlying286 rfl rfl Tryz.underlying9 (by kernel_rfl) (by kernel_rfl)
  exact ⟨a1, by simpa using World.var?_cell (g := 0) (by kernel_rfl) hv1 0⟩
theorem sent_ofb {W : World} (h : laidMetH Tryz.prog Rows.fnExactTxnCutRow.laid W) : ∃ a : Addr, W.cell? ⟨2, 0, none⟩ = some (.iface 247 (.pointer (some a))) := by
  obtain ⟨a1, s1, hv1, _⟩ := laid_sentinel (g := 2) (ti := 73) (tp := 247) (parts_of h).1.tail (by kernel_rfl) (by kernel_rfl) Tryz.underlying73 rowE Tryz.underlying247 Tryz.underlying286 rfl rfl Tryz.underlying9 (by kernel_rfl) (by kernel_rfl)
  exact ⟨a1, by simpa using World.var?_cell (g := 2) (by kernel_rfl) hv1 0⟩
theorem et : Tryz.prog.globalNamed "errors.errorType" = some 3 := by kernel_rfl
theorem rt : (Tryz.prog.cutTypes.find? (·.1 == "internal/reflectlite.rtype")).map (·.2) = some 173 := by kernel_rfl
theorem oneRow : ((List.range 298).filter fun t => Tryz.prog.rowNamed t [101, 114, 114, 111, 114]) = [73] := by kernel_rfl
theorem tsize : Tryz.prog.types.size = 298 := by kernel_rfl
theorem handle_of {W : World} (h : laidMetH Tryz.prog Rows.fnExactTxnCutRow.laid W) : W.cell? ⟨3, 0, none⟩ = some (.iface 173 (.agg #[.pointer (some ⟨4, 73, none⟩)])) := by
  obtain ⟨name, u, ty, e1, e2, e3, e4, e5⟩ := (parts_of h).2 _ (List.mem_singleton.2 rfl)
  have en : name = [101, 114, 114, 111, 114] := (Option.some.inj e1).symm
  subst en
  obtain rfl := Option.some.inj (rt.symm.trans e2)
  have hm : ty ∈ (List.range 298).filter fun t => Tryz.prog.rowNamed t [101, 114, 114, 111, 114] := List.mem_filter.2 ⟨List.mem_range.2 (by rw [← tsize]; exact e3), e4⟩
  rw [oneRow] at hm
  obtain rfl := List.mem_singleton.1 hm
  have hh : typeHandle Tryz.prog 73 = .pointer (some ⟨4, 73, none⟩) := by kernel_rfl
  rw [hh] at e5
  simpa using World.var?_cell et e5 0
theorem walk (now0 : Int) (a0 ta0 : Option Addr) (cap0 tcap0 : Nat) (rs0 : List Rw) (ts0 : List Tx) (a1 : Int) (a2 : Int) (w : World) (hl0 : rs0.length ≤ 9223372036854775807) (w0 : RwsL w a0 rs0) (htl0 : ts0.length ≤ 9223372036854775807) (wt0 : Txs (fun _ => True) 9223372036854775807 w ta0 ts0) (w1 : (Lit.int .i64 a1).wf = true) (w2 : (Lit.int .i64 a2).wf = true) (na nb : Addr) (hL : w.cell? ⟨0, 0, none⟩ = some (.iface 247 (.pointer (some na)))) (hLb : w.cell? ⟨2, 0, none⟩ = some (.iface 247 (.pointer (some nb)))) (hE : w.cell? ⟨3, 0, none⟩ = some (.iface 173 (.agg #[.pointer (some ⟨4, 73, none⟩)]))) :
    Calls Tryz.prog 4 #[.agg #[.int .i64 now0, .slice a0 rs0.length cap0, .slice ta0 ts0.length tcap0], .int .i64 a1, .int .i64 a2] w fun e w' => e = .returned (.bool true) ∧ Below w.heap.size w w' := by
  exact txncut_w now0 a0 cap0 rs0 ta0 tcap0 ts0 a1 a2 w hl0 w0 htl0 wt0 na nb hL hLb hE
theorem vars_len {H : Type} {enc : TypeId × Value → H} {P : Program} {w : World} {sp : Nat → Bool} : ∀ {ns : List String} {gs : List (DataW H)} {ps : List MemPlace}, DataW.TrodVars enc P w sp ns gs ps → gs.length = ns.length
  | [], [], _, _ => rfl
  | [], _ :: _, _, h => by simp [DataW.TrodVars] at h
  | _ :: _, [], _, h => by simp [DataW.TrodVars] at h
  | _ :: ns, _ :: ds, _, h => by
    obtain ⟨_, _, _, _, _, _, _, _, _, _, hs, _⟩ := h
    simp [vars_len hs]
set_option maxRecDepth 100000 in
theorem contract (H : Type) (enc : TypeId × Value → H) (W : World) (base : Nat) (args : Array Value) (ds gs : List (DataW H)) (before : List MemPlace)
    (hval0 : ∀ (j : Nat) t v, Tryz.f4.params[j]? = some t → args[j]? = some v → Value.okWide Tryz.prog W .any base t v)
    (hW : DataW.Whole enc Tryz.prog Tryz.f4.params.toList Rows.fnExactTxnCutSpec.vars false W args.toList ds gs before) (hL : laidMetH Tryz.prog Rows.fnExactTxnCutRow.laid W) :
    Calls Tryz.prog 4 args W fun e W' => ∃ v, e = .returned v ∧ Rows.fnExactTxnCutSpec.post enc Tryz.prog Tryz.f4 false true false false W args v W' := by
  have hval : ∀ (j : Nat) t v, Tryz.f4.params[j]? = some t → args[j]? = some v → Value.okWide Tryz.prog W .any base t v := hval0
  have hW' := hW
  obtain ⟨p, q, hA0, hV, rfl, hfz, hnd⟩ := hW
  have hA : DataW.TrodAll enc Tryz.prog W 0 (fun _ => true) true Tryz.f4.params.toList args.toList ds p := hA0
  rw [Tryz.params4] at hA hval
  obtain ⟨v0, vs0, d0, ds0, p0, q0, hargs, rfl, rfl, h0, r0⟩ := trodAll_cons hA
  obtain ⟨v1, vs1, d1, ds1, p1, q1, rfl, rfl, rfl, h1, r1⟩ := trodAll_cons r0
  obtain ⟨v2, vs2, d2, ds2, p2, q2, rfl, rfl, rfl, h2, r2⟩ := trodAll_cons r1
  obtain ⟨rfl, rfl, rfl⟩ := trodAll_nil r2
  obtain rfl : args = #[v0, v1, v2] := by cases args; simp_all
  have hgl : gs.length = 2 := vars_len hV
  obtain ⟨g0, g1, rfl⟩ : ∃ g0 g1, gs = [g0, g1] := by
    match gs, hgl with
    | [g0, g1], _ => exact ⟨g0, g1, rfl⟩
  have k0 := h0
  have lt0 : ∀ x ∈ p0, x.block < W.heap.size := by obtain ⟨m, hm⟩ := k0; exact DataW.trod_lt m _ _ _ hm
  have k1 := h1
  have lt1 : ∀ x ∈ p1, x.block < W.heap.size := by obtain ⟨m, hm⟩ := k1; exact DataW.trod_lt m _ _ _ hm
  have k2 := h2
  have lt2 : ∀ x ∈ p2, x.block < W.heap.size := by obtain ⟨m, hm⟩ := k2; exact DataW.trod_lt m _ _ _ hm
  obtain ⟨cs0, rfl, hsz0⟩ := okWide_struct Tryz.underlying27 (hval 0 27 v0 rfl rfl)
  obtain ⟨now0, a0, cap0, rs0, ta0, tcap0, ts0, ecs0, hl0, w0, htl0, wt0⟩ := open_store h0.choose_spec
  obtain rfl : cs0 = #[.int .i64 now0, .slice a0 rs0.length cap0, .slice ta0 ts0.length tcap0] := by cases cs0; simpa [Value.cells] using ecs0
  obtain ⟨a1, rfl, rfl, rfl, w1⟩ := open_int Tryz.underlying3 (hval 1 3 v1 rfl rfl) h1
  obtain ⟨a2, rfl, rfl, rfl, w2⟩ := open_int Tryz.underlying3 (hval 2 3 v2 rfl rfl) h2
  clear hA0 hval0
  refine (walk now0 a0 ta0 cap0 tcap0 rs0 ts0 a1 a2 W hl0 w0 htl0 wt0 w1 w2 _ _ (sent_of hL).choose_spec (sent_ofb hL).choose_spec (handle_of hL)).mono fun e W' ⟨he, bel⟩ => ?_
  subst he
  exact ⟨_, rfl, _, _, _, [], _, _, hW', trodAll_mk1 (shut_bool Tryz.underlying4 _), (trodAll_cons_mk (Below.trod laidOut (by kernel_rfl) (of_decide_eq_true (by kernel_rfl)) k0 bel lt0) (trodAll_cons_mk (Below.trod laidOut (by kernel_rfl) (of_decide_eq_true (by kernel_rfl)) k1 bel lt1) (trodAll_cons_mk (Below.trod laidOut (by kernel_rfl) (of_decide_eq_true (by kernel_rfl)) k2 bel lt2) trodAll_mk0))), Below.trodVars laidOut bel (by kernel_rfl) hV, bel.frame _, fun h => by cases h⟩
def tabs (low : Nat) (h : Array Obj) : Array Obj := h
  |>.modify 3 (fun | .cells _ t frozen => .cells #[.iface 173 (.agg #[.pointer (some ⟨4, 73, none⟩)])] t frozen | o => o)
  |>.modify 0 (fun | .cells _ t frozen => .cells #[.iface 247 (.pointer (some ⟨low, 0, none⟩))] t frozen | o => o)
  |>.modify 2 (fun | .cells _ t frozen => .cells #[.iface 247 (.pointer (some ⟨low + 1, 0, none⟩))] t frozen | o => o)
theorem laid_met (os : Os) : laidMetH Tryz.prog Rows.fnExactTxnCutRow.laid (({ World.holding Tryz.prog os ⟨#[.cells #[.string ⟨#[110, 111, 32, 115, 117, 99, 104, 32, 116, 114, 97, 110, 115, 97, 99, 116, 105, 111, 110, 32, 103, 111, 101, 115, 32, 111, 110]⟩] 286, .cells #[.string ⟨#[110, 111, 116, 104, 105, 110, 103, 32, 105, 115, 32, 115, 101, 101, 110, 32, 117, 110, 100, 101, 114, 32, 116, 104, 101, 32, 73, 100]⟩] 286], #[], []⟩ with heap := tabs (World.holding Tryz.prog default ⟨#[], #[], []⟩).heap.size (World.holding Tryz.prog os ⟨#[.cells #[.string ⟨#[110, 111, 32, 115, 117, 99, 104, 32, 116, 114, 97, 110, 115, 97, 99, 116, 105, 111, 110, 32, 103, 111, 101, 115, 32, 111, 110]⟩] 286, .cells #[.string ⟨#[110, 111, 116, 104, 105, 110, 103, 32, 105, 115, 32, 115, 101, 101, 110, 32, 117, 110, 100, 101, 114, 32, 116, 104, 101, 32, 73, 100]⟩] 286], #[], []⟩).heap } : World).forCall (fun _ _ => 0) ⟨#[], #[.agg #[.int .i64 0, .slice none 0 0, .slice none 0 0], .int .i64 0, .int .i64 0], []⟩).memory :=
  laidMetH_of_parts (laidMet_of_run' 8 (by kernel_rfl) (by kernel_rfl)) (by kernel_rfl)
theorem reads (os : Os) {H : Type} (enc : TypeId × Value → H) : ∃ x, DataW.whole enc Tryz.prog (({ World.holding Tryz.prog os ⟨#[.cells #[.string ⟨#[110, 111, 32, 115, 117, 99, 104, 32, 116, 114, 97, 110, 115, 97, 99, 116, 105, 111, 110, 32, 103, 111, 101, 115, 32, 111, 110]⟩] 286, .cells #[.string ⟨#[110, 111, 116, 104, 105, 110, 103, 32, 105, 115, 32, 115, 101, 101, 110, 32, 117, 110, 100, 101, 114, 32, 116, 104, 101, 32, 73, 100]⟩] 286], #[], []⟩ with heap := tabs (World.holding Tryz.prog default ⟨#[], #[], []⟩).heap.size (World.holding Tryz.prog os ⟨#[.cells #[.string ⟨#[110, 111, 32, 115, 117, 99, 104, 32, 116, 114, 97, 110, 115, 97, 99, 116, 105, 111, 110, 32, 103, 111, 101, 115, 32, 111, 110]⟩] 286, .cells #[.string ⟨#[110, 111, 116, 104, 105, 110, 103, 32, 105, 115, 32, 115, 101, 101, 110, 32, 117, 110, 100, 101, 114, 32, 116, 104, 101, 32, 73, 100]⟩] 286], #[], []⟩).heap } : World).forCall (fun _ _ => 0) ⟨#[], #[.agg #[.int .i64 0, .slice none 0 0, .slice none 0 0], .int .i64 0, .int .i64 0], []⟩).memory Tryz.f4.params.toList Rows.fnExactTxnCutSpec.vars false (#[.agg #[.int .i64 0, .slice none 0 0, .slice none 0 0], .int .i64 0, .int .i64 0] : Array Value).toList 8 = some x :=
  Option.isSome_iff_exists.1 (by kernel_rfl)
set_option maxRecDepth 100000 in
theorem lifted (os : Os) (started : os.Started) (H : Type) (enc : TypeId × Value → H) (F : Stop.Interp) :
    ReturnsInHanded {} Tryz.checked os 4 .any ((OpenSpec.ofChange Rows.fnExactTxnCutSpec).preRow enc Tryz.prog Tryz.f4 Rows.fnExactTxnCutRow.domain false Rows.fnExactTxnCutRow.laid) (((OpenSpec.ofChange Rows.fnExactTxnCutSpec).at F).post enc Tryz.prog Tryz.f4 false true false false) := by
  obtain ⟨x, hx⟩ := reads os enc
  refine returnsInHanded_of_row (C := Tryz.checked) (s := OpenSpec.ofChange Rows.fnExactTxnCutSpec) own started (by kernel_rfl) Tryz.func4
    (witness_row_atRef (enc := enc) (C := Tryz.checked) false ({ World.holding Tryz.prog os ⟨#[.cells #[.string ⟨#[110, 111, 32, 115, 117, 99, 104, 32, 116, 114, 97, 110, 115, 97, 99, 116, 105, 111, 110, 32, 103, 111, 101, 115, 32, 111, 110]⟩] 286, .cells #[.string ⟨#[110, 111, 116, 104, 105, 110, 103, 32, 105, 115, 32, 115, 101, 101, 110, 32, 117, 110, 100, 101, 114, 32, 116, 104, 101, 32, 73, 100]⟩] 286], #[], []⟩ with heap := tabs (World.holding Tryz.prog default ⟨#[], #[], []⟩).heap.size (World.holding Tryz.prog os ⟨#[.cells #[.string ⟨#[110, 111, 32, 115, 117, 99, 104, 32, 116, 114, 97, 110, 115, 97, 99, 116, 105, 111, 110, 32, 103, 111, 101, 115, 32, 111, 110]⟩] 286, .cells #[.string ⟨#[110, 111, 116, 104, 105, 110, 103, 32, 105, 115, 32, 115, 101, 101, 110, 32, 117, 110, 100, 101, 114, 32, 116, 104, 101, 32, 73, 100]⟩] 286], #[], []⟩).heap }) #[.agg #[.int .i64 0, .slice none 0 0, .slice none 0 0], .int .i64 0, .int .i64 0] rfl (by kernel_rfl) (by kernel_rfl) (by kernel_rfl)
      (OpenSpec.preRow_of_cond 8 hx (by rfl) (fun k hk => by cases hk) (by kernel_rfl) (laid_met os))) ?_
  intro W base args ds gs before hval hW _ _ _ hL _ _
  exact contract H enc W base args ds gs before hval hW hL
theorem said : Rows.FnExactTxnCutSaid :=
  OpenClaim.holds_of_cond 4 Tryz.f4 rfl rfl rfl rfl rfl rfl rfl ⟨rfl, rfl, rfl, rfl, rfl⟩ rfl rfl rfl rfl rfl (by kernel_rfl) Tryz.func4 (by kernel_rfl)
    (of_decide_eq_true (by kernel_rfl)) (by unfold Func.isWrapper; first | (rw [if_pos (by decide +kernel)]; kernel_rfl) | (rw [if_neg (by decide +kernel)]; exact ⟨rfl, rfl⟩))
    (fun os started H enc _ F => by rw [OpenClaim.pre_eq_preRow]; exact lifted os started H enc F)
theorem plain (f : FuncId) (fn : Func) (hf : Tryz.pinned.checked.prog.funcNamed Rows.fnExactTxnCutRow.func = some f) (hfn : Tryz.pinned.checked.prog.funcs[f]? = some fn) :
    true = Tryz.pinned.checked.prog.looks [] ∧ ∀ (j : Nat) t, fn.params[j]? = some t → Tryz.pinned.checked.prog.wantsStandIn t = false := by
  obtain rfl : f = 4 := Option.some.inj ((show Tryz.prog.funcNamed Rows.fnExactTxnCutRow.func = some 4 by kernel_rfl).symm.trans hf) |>.symm
  obtain rfl : fn = Tryz.f4 := (Option.some.inj (Tryz.func4.symm.trans hfn)).symm
  refine ⟨by kernel_rfl, fun j t ht => ?_⟩
  rw [Tryz.params4] at ht
  have hm : t ∈ ([27, 3, 3] : List Nat) := by simpa using Array.mem_of_getElem? ht
  exact (show ∀ t ∈ ([27, 3, 3] : List Nat), Tryz.prog.wantsStandIn t = false from of_decide_eq_true (by kernel_rfl)) t hm
end Go.Proofs.YtnajddjalagmoaaGreatDoor.fnExactTxnCut
namespace Go.Proofs.YtnajddjalagmoaaGreatDoor
theorem fnExactTxnCut_holds : Rows.FnExactTxnCutCardSaid :=
  Claim7.holds_tied_plain_at .later [] _ _ _ _ fnExactTxnCut.said (fun _ h => by cases h) (by kernel_rfl) (fun _ h => by cases h) fnExactTxnCut_row_tie rfl ⟨rfl, rfl⟩ (by kernel_rfl) rfl fnExactTxnCut.plain (by kernel_rfl)
#print axioms fnExactTxnCut_holds
end Go.Proofs.YtnajddjalagmoaaGreatDoor
