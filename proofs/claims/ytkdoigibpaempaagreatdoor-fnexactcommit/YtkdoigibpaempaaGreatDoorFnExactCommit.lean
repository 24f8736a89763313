/- At every store and number the landed Commit answers as the specification's, every field of the store and the code; it writes into no argument; its answer owns its memory, behind another call too; the errors that it names and the library's errorType hold what their texts lay; for a store of at most 1048576 elements in all. -/
import Derived.Test.YtkdoigibpaempaaGreatDoorCards
import Derived.Test.YtkdoigibpaempaaGreatDoorTie
import Derived.Test.YtkdoigibpaempaaGreatDoorUf
import Derived.WalkKit
import Derived.Deep.DeepCutAuto
import Derived.ProofKit
import Derived.OpenShut
import Derived.ShutString
import Derived.ChangeOld
import Derived.Below
import Derived.Carry
import Derived.OpenVars
import Derived.Lib.SmallJoins
import Derived.Deep.SlicePairs
import Derived.Deep.DeepHandedRow
import Derived.Lib.LaidTab
import Derived.Deep.DeepWitnessRowRef
import Derived.LaidLaws
import Derived.LaidHandle
import Derived.Stop.LaidErr
set_option linter.unusedSimpArgs false
set_option linter.unusedVariables false
namespace Go.Proofs.YtkdoigibpaempaaGreatDoor.fnExactCommit
open Go.ChangeShapes Go.WideShapes Go.ChangeAt Go.RowKit Go.Joins
theorem own : ownKnob Tryz.prog.godebug = none := by kernel_rfl
theorem laidOut : laidOutB Tryz.prog = true := by kernel_rfl
theorem star : "*" ++ "errors.errorString" = "*errors.errorString" := by decide
theorem rowE (u : TypeId) (h : Tryz.prog.typeName? 3 u = some "*errors.errorString") : u = 258 :=
  typeName_ptr_named (nm := "errors.errorString") (by rw [star]; kernel_rfl) (by kernel_rfl) (by decide) u (by rw [star]; exact h)
theorem parts_of {W : World} (h : laidMetH Tryz.prog Rows.fnExactCommitRow.laid W) : laidMet Tryz.prog [("loop.example/g00229/impl.errNone", Rows.laid_loop_example_g00229_impl_errNone), ("loop.example/g00229/impl.errClash", Rows.laid_loop_example_g00229_impl_errClash), ("loop.example/g00229/impl.errFull", Rows.laid_loop_example_g00229_impl_errFull)] W ∧ handlesMet Tryz.prog [("errors.errorType", Rows.laid_errors_errorType)] W := h
theorem sent_of {W : World} (h : laidMetH Tryz.prog Rows.fnExactCommitRow.laid W) : ∃ a : Addr, W.cell? ⟨0, 0, none⟩ = some (.iface 258 (.pointer (some a))) := by
  obtain ⟨a1, s1, hv1, _⟩ := laid_sentinel (g := 0) (ti := 87) (tp := 258) (parts_of h).1 (by kernel_rfl) (by kernel_rfl) Tryz.underlying87 rowE Tryz.underlying258 Tryz.underlying297 rfl rfl Tryz.underlying9 (by kernel_rfl) (by kernel_rfl)
  exact ⟨a1, by simpa using World.var?_cell (g := 0) (by kernel_rfl) hv1 0⟩
theorem sent_ofb {W : World} (h : laidMetH Tryz.prog Rows.fnExactCommitRow.laid W) : ∃ a : Addr, W.cell? ⟨1, 0, none⟩ = some (.iface 258 (.pointer (some a))) := by
  obtain ⟨a1, s1, hv1, _⟩ := laid_sentinel (g := 1) (ti := 87) (tp := 258) (parts_of h).1.tail (by kernel_rfl) (by kernel_rfl) Tryz.underlying87 rowE Tryz.underlying258 Tryz.underlying297 rfl rfl Tryz.underlying9 (by kernel_rfl) (by kernel_rfl)
  exact ⟨a1, by simpa using World.var?_cell (g := 1) (by kernel_rfl) hv1 0⟩
theorem sent_ofc {W : World} (h : laidMetH Tryz.prog Rows.fnExactCommitRow.laid W) : ∃ a : Addr, W.cell? ⟨2, 0, none⟩ = some (.iface 258 (.pointer (some a))) := by
  obtain ⟨a1, s1, hv1, _⟩ := laid_sentinel (g := 2) (ti := 87) (tp := 258) (parts_of h).1.tail.tail (by kernel_rfl) (by kernel_rfl) Tryz.underlying87 rowE Tryz.underlying258 Tryz.underlying297 rfl rfl Tryz.underlying9 (by kernel_rfl) (by kernel_rfl)
  exact ⟨a1, by simpa using World.var?_cell (g := 2) (by kernel_rfl) hv1 0⟩
theorem et : Tryz.prog.globalNamed "errors.errorType" = some 3 := by kernel_rfl
theorem rt : (Tryz.prog.cutTypes.find? (·.1 == "internal/reflectlite.rtype")).map (·.2) = some 148 := by kernel_rfl
theorem oneRow : ((List.range 309).filter fun t => Tryz.prog.rowNamed t [101, 114, 114, 111, 114]) = [87] := by kernel_rfl
theorem tsize : Tryz.prog.types.size = 309 := by kernel_rfl
theorem handle_of {W : World} (h : laidMetH Tryz.prog Rows.fnExactCommitRow.laid W) : W.cell? ⟨3, 0, none⟩ = some (.iface 148 (.agg #[.pointer (some ⟨4, 87, none⟩)])) := by
  obtain ⟨name, u, ty, e1, e2, e3, e4, e5⟩ := (parts_of h).2 _ (List.mem_singleton.2 rfl)
  have en : name = [101, 114, 114, 111, 114] := (Option.some.inj e1).symm
  subst en
  obtain rfl := Option.some.inj (rt.symm.trans e2)
  have hm : ty ∈ (List.range 309).filter fun t => Tryz.prog.rowNamed t [101, 114, 114, 111, 114] := List.mem_filter.2 ⟨List.mem_range.2 (by rw [← tsize]; exact e3), e4⟩
  rw [oneRow] at hm
  obtain rfl := List.mem_singleton.1 hm
  have hh : typeHandle Tryz.prog 87 = .pointer (some ⟨4, 87, none⟩) := by kernel_rfl
  rw [hh] at e5
  simpa using World.var?_cell et e5 0
theorem walk (now0 : Int) (a0 ta0 : Option Addr) (cap0 tcap0 : Nat) (rs0 : List Rw) (ts0 : List Tx) (a1 : Int) (w : World) (hl0 : rs0.length ≤ 9223372036854775807) (w0 : RwsL w a0 rs0) (htl0 : ts0.length ≤ 9223372036854775807) (wt0 : Txs (fun _ => True) 9223372036854775807 w ta0 ts0) (w1 : (Lit.int .i64 a1).wf = true) (na n4 n5 : Addr) (hL : w.cell? ⟨0, 0, none⟩ = some (.iface 258 (.pointer (some na)))) (hE : w.cell? ⟨3, 0, none⟩ = some (.iface 148 (.agg #[.pointer (some ⟨4, 87, none⟩)]))) (hLc : w.cell? ⟨1, 0, none⟩ = some (.iface 258 (.pointer (some n4)))) (hLf : w.cell? ⟨2, 0, none⟩ = some (.iface 258 (.pointer (some n5)))) :
    Calls Tryz.prog 3 #[.agg #[.int .i64 now0, .slice a0 rs0.length cap0, .slice ta0 ts0.length tcap0], .int .i64 a1] w fun e w' => e = .returned (.bool true) ∧ Below w.heap.size w w' := by
  exact commit_w now0 a0 cap0 rs0 ta0 tcap0 ts0 a1 w hl0 w0 htl0 wt0 na n4 n5 hL hE hLc hLf
theorem vars_len {H : Type} {enc : TypeId × Value → H} {P : Program} {w : World} {sp : Nat → Bool} : ∀ {ns : List String} {gs : List (DataW H)} {ps : List MemPlace}, DataW.TrodVars enc P w sp ns gs ps → gs.length = ns.length
  | [], [], _, _ => rfl
  | [], _ :: _, _, h => by simp [DataW.TrodVars] at h
  | _ :: _, [], _, h => by simp [DataW.TrodVars] at h
  | _ :: ns, _ :: ds, _, h => by
    obtain ⟨_, _, _, _, _, _, _, _, _, _, hs, _⟩ := h
    simp [vars_len hs]
set_option maxRecDepth 100000 in
theorem contract (H : Type) (enc : TypeId × Value → H) (W : World) (base : Nat) (args : Array Value) (ds gs : List (DataW H)) (before : List MemPlace)
    (hval0 : ∀ (j : Nat) t v, Tryz.f3.params[j]? = some t → args[j]? = some v → Value.okWide Tryz.prog W .any base t v)
    (hW : DataW.Whole enc Tryz.prog Tryz.f3.params.toList Rows.fnExactCommitSpec.vars false W args.toList ds gs before) (hL : laidMetH Tryz.prog Rows.fnExactCommitRow.laid W) :
    Calls Tryz.prog 3 args W fun e W' => ∃ v, e = .returned v ∧ Rows.fnExactCommitSpec.post enc Tryz.prog Tryz.f3 false true false false W args v W' := by
  have hval : ∀ (j : Nat) t v, Tryz.f3.params[j]? = some t → args[j]? = some v → Value.okWide Tryz.prog W .any base t v := hval0
  have hW' := hW
  obtain ⟨p, q, hA0, hV, rfl, hfz, hnd⟩ := hW
  have hA : DataW.TrodAll enc Tryz.prog W 0 (fun _ => true) true Tryz.f3.params.toList args.toList ds p := hA0
  rw [Tryz.params3] at hA hval
  obtain ⟨v0, vs0, d0, ds0, p0, q0, hargs, rfl, rfl, h0, r0⟩ := trodAll_cons hA
  obtain ⟨v1, vs1, d1, ds1, p1, q1, rfl, rfl, rfl, h1, r1⟩ := trodAll_cons r0
  obtain ⟨rfl, rfl, rfl⟩ := trodAll_nil r1
  obtain rfl : args = #[v0, v1] := by cases args; simp_all
  have hgl : gs.length = 3 := vars_len hV
  obtain ⟨g0, g1, g2, rfl⟩ : ∃ g0 g1 g2, gs = [g0, g1, g2] := by
    match gs, hgl with
    | [g0, g1, g2], _ => exact ⟨g0, g1, g2, rfl⟩
  have k0 := h0
  have lt0 : ∀ x ∈ p0, x.block < W.heap.size := by obtain ⟨m, hm⟩ := k0; exact DataW.trod_lt m _ _ _ hm
  have k1 := h1
  have lt1 : ∀ x ∈ p1, x.block < W.heap.size := by obtain ⟨m, hm⟩ := k1; exact DataW.trod_lt m _ _ _ hm
  obtain ⟨cs0, rfl, hsz0⟩ := okWide_struct Tryz.underlying27 (hval 0 27 v0 rfl rfl)
  obtain ⟨now0, a0, cap0, rs0, ta0, tcap0, ts0, ecs0, hl0, w0, htl0, wt0⟩ := open_store h0.choose_spec
  obtain rfl : cs0 = #[.int .i64 now0, .slice a0 rs0.length cap0, .slice ta0 ts0.length tcap0] := by cases cs0; simpa [Value.cells] using ecs0
  obtain ⟨a1, rfl, rfl, rfl, w1⟩ := open_int Tryz.underlying3 (hval 1 3 v1 rfl rfl) h1
  clear hA0 hval0
  refine (walk now0 a0 ta0 cap0 tcap0 rs0 ts0 a1 W hl0 w0 htl0 wt0 w1 _ _ _ (sent_of hL).choose_spec (handle_of hL) (sent_ofb hL).choose_spec (sent_ofc hL).choose_spec).mono fun e W' ⟨he, bel⟩ => ?_
  subst he
  exact ⟨_, rfl, _, _, _, [], _, _, hW', trodAll_mk1 (shut_bool Tryz.underlying4 _), (trodAll_cons_mk (Below.trod laidOut (by kernel_rfl) (of_decide_eq_true (by kernel_rfl)) k0 bel lt0) (trodAll_cons_mk (Below.trod laidOut (by kernel_rfl) (of_decide_eq_true (by kernel_rfl)) k1 bel lt1) trodAll_mk0)), Below.trodVars laidOut bel (by kernel_rfl) hV, bel.frame _, fun h => by cases h⟩
def tabs (low : Nat) (h : Array Obj) : Array Obj := h
  |>.modify 3 (fun | .cells _ t frozen => .cells #[.iface 148 (.agg #[.pointer (some ⟨4, 87, none⟩)])] t frozen | o => o)
  |>.modify 0 (fun | .cells _ t frozen => .cells #[.iface 258 (.pointer (some ⟨low, 0, none⟩))] t frozen | o => o)
  |>.modify 1 (fun | .cells _ t frozen => .cells #[.iface 258 (.pointer (some ⟨low + 1, 0, none⟩))] t frozen | o => o)
  |>.modify 2 (fun | .cells _ t frozen => .cells #[.iface 258 (.pointer (some ⟨low + 2, 0, none⟩))] t frozen | o => o)
theorem laid_met (os : Os) : laidMetH Tryz.prog Rows.fnExactCommitRow.laid (({ World.holding Tryz.prog os ⟨#[.cells #[.string ⟨#[110, 111, 32, 115, 117, 99, 104, 32, 116, 114, 97, 110, 115, 97, 99, 116, 105, 111, 110, 32, 103, 111, 101, 115, 32, 111, 110]⟩] 297, .cells #[.string ⟨#[97, 110, 111, 116, 104, 101, 114, 32, 111, 110, 101, 32, 99, 104, 97, 110, 103, 101, 100, 32, 97, 110, 32, 73, 100]⟩] 297, .cells #[.string ⟨#[116, 104, 101, 32, 114, 111, 119, 115, 32, 100, 111, 32, 110, 111, 116, 32, 116, 97, 107, 101, 32, 116, 104, 101, 32, 99, 104, 97, 110, 103, 101, 115]⟩] 297], #[], []⟩ with heap := tabs (World.holding Tryz.prog default ⟨#[], #[], []⟩).heap.size (World.holding Tryz.prog os ⟨#[.cells #[.string ⟨#[110, 111, 32, 115, 117, 99, 104, 32, 116, 114, 97, 110, 115, 97, 99, 116, 105, 111, 110, 32, 103, 111, 101, 115, 32, 111, 110]⟩] 297, .cells #[.string ⟨#[97, 110, 111, 116, 104, 101, 114, 32, 111, 110, 101, 32, 99, 104, 97, 110, 103, 101, 100, 32, 97, 110, 32, 73, 100]⟩] 297, .cells #[.string ⟨#[116, 104, 101, 32, 114, 111, 119, 115, 32, 100, 111, 32, 110, 111, 116, 32, 116, 97, 107, 101, 32, 116, 104, 101, 32, 99, 104, 97, 110, 103, 101, 115]⟩] 297], #[], []⟩).heap } : World).forCall (fun _ _ => 0) ⟨#[], #[.agg #[.int .i64 0, .slice none 0 0, .slice none 0 0], .int .i64 0], []⟩).memory :=
  laidMetH_of_parts (laidMet_of_run' 8 (by kernel_rfl) (by kernel_rfl)) (by kernel_rfl)
theorem reads (os : Os) {H : Type} (enc : TypeId × Value → H) : ∃ x, DataW.whole enc Tryz.prog (({ World.holding Tryz.prog os ⟨#[.cells #[.string ⟨#[110, 111, 32, 115, 117, 99, 104, 32, 116, 114, 97, 110, 115, 97, 99, 116, 105, 111, 110, 32, 103, 111, 101, 115, 32, 111, 110]⟩] 297, .cells #[.string ⟨#[97, 110, 111, 116, 104, 101, 114, 32, 111, 110, 101, 32, 99, 104, 97, 110, 103, 101, 100, 32, 97, 110, 32, 73, 100]⟩] 297, .cells #[.string ⟨#[116, 104, 101, 32, 114, 111, 119, 115, 32, 100, 111, 32, 110, 111, 116, 32, 116, 97, 107, 101, 32, 116, 104, 101, 32, 99, 104, 97, 110, 103, 101, 115]⟩] 297], #[], []⟩ with heap := tabs (World.holding Tryz.prog default ⟨#[], #[], []⟩).heap.size (World.holding Tryz.prog os ⟨#[.cells #[.string ⟨#[110, 111, 32, 115, 117, 99, 104, 32, 116, 114, 97, 110, 115, 97, 99, 116, 105, 111, 110, 32, 103, 111, 101, 115, 32, 111, 110]⟩] 297, .cells #[.string ⟨#[97, 110, 111, 116, 104, 101, 114, 32, 111, 110, 101, 32, 99, 104, 97, 110, 103, 101, 100, 32, 97, 110, 32, 73, 100]⟩] 297, .cells #[.string ⟨#[116, 104, 101, 32, 114, 111, 119, 115, 32, 100, 111, 32, 110, 111, 116, 32, 116, 97, 107, 101, 32, 116, 104, 101, 32, 99, 104, 97, 110, 103, 101, 115]⟩] 297], #[], []⟩).heap } : World).forCall (fun _ _ => 0) ⟨#[], #[.agg #[.int .i64 0, .slice none 0 0, .slice none 0 0], .int .i64 0], []⟩).memory Tryz.f3.params.toList Rows.fnExactCommitSpec.vars false (#[.agg #[.int .i64 0, .slice none 0 0, .slice none 0 0], .int .i64 0] : Array Value).toList 8 = some x :=
  Option.isSome_iff_exists.1 (by kernel_rfl)
set_option maxRecDepth 100000 in
theorem lifted (os : Os) (started : os.Started) (H : Type) (enc : TypeId × Value → H) (F : Stop.Interp) :
    ReturnsInHanded {} Tryz.checked os 3 .any ((OpenSpec.ofChange Rows.fnExactCommitSpec).preRow enc Tryz.prog Tryz.f3 Rows.fnExactCommitRow.domain false Rows.fnExactCommitRow.laid) (((OpenSpec.ofChange Rows.fnExactCommitSpec).at F).post enc Tryz.prog Tryz.f3 false true false false) := by
  obtain ⟨x, hx⟩ := reads os enc
  refine returnsInHanded_of_row (C := Tryz.checked) (s := OpenSpec.ofChange Rows.fnExactCommitSpec) own started (by kernel_rfl) Tryz.func3
    (witness_row_atRef (enc := enc) (C := Tryz.checked) false ({ World.holding Tryz.prog os ⟨#[.cells #[.string ⟨#[110, 111, 32, 115, 117, 99, 104, 32, 116, 114, 97, 110, 115, 97, 99, 116, 105, 111, 110, 32, 103, 111, 101, 115, 32, 111, 110]⟩] 297, .cells #[.string ⟨#[97, 110, 111, 116, 104, 101, 114, 32, 111, 110, 101, 32, 99, 104, 97, 110, 103, 101, 100, 32, 97, 110, 32, 73, 100]⟩] 297, .cells #[.string ⟨#[116, 104, 101, 32, 114, 111, 119, 115, 32, 100, 111, 32, 110, 111, 116, 32, 116, 97, 107, 101, 32, 116, 104, 101, 32, 99, 104, 97, 110, 103, 101, 115]⟩] 297], #[], []⟩ with heap := tabs (World.holding Tryz.prog default ⟨#[], #[], []⟩).heap.size (World.holding Tryz.prog os ⟨#[.cells #[.string ⟨#[110, 111, 32, 115, 117, 99, 104, 32, 116, 114, 97, 110, 115, 97, 99, 116, 105, 111, 110, 32, 103, 111, 101, 115, 32, 111, 110]⟩] 297, .cells #[.string ⟨#[97, 110, 111, 116, 104, 101, 114, 32, 111, 110, 101, 32, 99, 104, 97, 110, 103, 101, 100, 32, 97, 110, 32, 73, 100]⟩] 297, .cells #[.string ⟨#[116, 104, 101, 32, 114, 111, 119, 115, 32, 100, 111, 32, 110, 111, 116, 32, 116, 97, 107, 101, 32, 116, 104, 101, 32, 99, 104, 97, 110, 103, 101, 115]⟩] 297], #[], []⟩).heap }) #[.agg #[.int .i64 0, .slice none 0 0, .slice none 0 0], .int .i64 0] rfl (by kernel_rfl) (by kernel_rfl) (by kernel_rfl)
      (OpenSpec.preRow_of_cond 8 hx (by rfl) (fun k hk => by cases hk) (by kernel_rfl) (laid_met os))) ?_
  intro W base args ds gs before hval hW _ _ _ hL _ _
  exact contract H enc W base args ds gs before hval hW hL
theorem said : Rows.FnExactCommitSaid :=
  OpenClaim.holds_of_cond 3 Tryz.f3 rfl rfl rfl rfl rfl rfl rfl ⟨rfl, rfl, rfl, rfl, rfl⟩ rfl rfl rfl rfl rfl (by kernel_rfl) Tryz.func3 (by kernel_rfl)
    (of_decide_eq_true (by kernel_rfl)) (by unfold Func.isWrapper; first | (rw [if_pos (by decide +kernel)]; kernel_rfl) | (rw [if_neg (by decide +kernel)]; exact ⟨rfl, rfl⟩))
    (fun os started H enc _ F => by rw [OpenClaim.pre_eq_preRow]; exact lifted os started H enc F)
theorem plain (f : FuncId) (fn : Func) (hf : Tryz.pinned.checked.prog.funcNamed Rows.fnExactCommitRow.func = some f) (hfn : Tryz.pinned.checked.prog.funcs[f]? = some fn) :
    true = Tryz.pinned.checked.prog.looks [] ∧ ∀ (j : Nat) t, fn.params[j]? = some t → Tryz.pinned.checked.prog.wantsStandIn t = false := by
  obtain rfl : f = 3 := Option.some.inj ((show Tryz.prog.funcNamed Rows.fnExactCommitRow.func = some 3 by kernel_rfl).symm.trans hf) |>.symm
  obtain rfl : fn = Tryz.f3 := (Option.some.inj (Tryz.func3.symm.trans hfn)).symm
  refine ⟨by kernel_rfl, fun j t ht => ?_⟩
  rw [Tryz.params3] at ht
  have hm : t ∈ ([27, 3] : List Nat) := by simpa using Array.mem_of_getElem? ht
  exact (show ∀ t ∈ ([27, 3] : List Nat), Tryz.prog.wantsStandIn t = false from of_decide_eq_true (by kernel_rfl)) t hm
end Go.Proofs.YtkdoigibpaempaaGreatDoor.fnExactCommit
namespace Go.Proofs.YtkdoigibpaempaaGreatDoor
theorem fnExactCommit_holds : Rows.FnExactCommitCardSaid :=
  Claim7.holds_tied_plain_at .later [] _ _ _ _ fnExactCommit.said (fun _ h => by cases h) (by kernel_rfl) (fun _ h => by cases h) fnExactCommit_row_tie rfl ⟨rfl, rfl⟩ (by kernel_rfl) rfl fnExactCommit.plain (by kernel_rfl)
#print axioms fnExactCommit_holds
end Go.Proofs.YtkdoigibpaempaaGreatDoor
