/- For every argument the landed TileDown answers as the specification's TileDown, field by field; it writes into no argument, and its answer owns its memory; the table of the tiles' sides holds what the program's text lays. -/
import Derived.Test.YtncnppkpkemajaaDoorCards
import Derived.Test.YtncnppkpkemajaaDoorTie
import Derived.Test.YtncnppkpkemajaaDoorTileM
import Derived.WalkKit
import Derived.Deep.DeepCutAuto
import Derived.ProofKit
import Derived.OpenShut
import Derived.ShutString
import Derived.ChangeOld
import Derived.Below
import Derived.Carry
import Derived.OpenVars
import Derived.Lib.SmallJoins
import Derived.Deep.SlicePairs
import Derived.Deep.DeepHandedRow
import Derived.Lib.LaidTab
import Derived.Stop.LaidErr
namespace Go.Proofs.YtncnppkpkemajaaDoor.fnExactTileDown
open Go.ChangeShapes Go.WideShapes Go.ChangeAt Go.RowKit Go.Joins
set_option linter.unusedVariables false
set_option linter.unusedSimpArgs false
theorem own : ownKnob Tryd.prog.godebug = none := by kernel_rfl
theorem laidOut : laidOutB Tryd.prog = true := by kernel_rfl
theorem cells40 : Tryd.prog.cellsOf 40 = 3 := by kernel_rfl
theorem fl_grown {w w' : World} {a : Option Addr} {zs : List Int} {r : Option Nat} (h : Fl w a zs) (hg : w.grownBy w' r) (hne : ∀ p, a = some p → r ≠ some p.block) : Fl w' a zs := by
  rcases h with h | ⟨b, off, rfl, hb, h⟩
  · exact .inl h
  · refine .inr ⟨b, off, rfl, Nat.lt_of_lt_of_le hb hg.size, fun i hi => ?_⟩
    have e := hg.block b hb (fun e => hne _ rfl e.symm)
    have := h i hi
    unfold World.cell? at this ⊢
    rw [e]; exact this
theorem cell_grown {w w' : World} {p : Addr} {v : Value} {r : Option Nat} (h : w.cell? p = some v) (hg : w.grownBy w' r) (hne : r ≠ some p.block) : w'.cell? p = some v := by
  have hb := World.block_lt_of_cell? w _ h
  have e := hg.block p.block hb (fun e => hne e.symm)
  unfold World.cell? at h ⊢
  rw [e]; exact h
theorem dnn_le (l c r : Int) : dnn l c r ≤ 4 := by unfold dnn; split <;> omega
theorem walk (x0 y0 z0 : Int) (w : World) (wx0 : (Lit.int .i64 x0).wf = true) (wy0 : (Lit.int .i64 y0).wf = true) (wz0 : (Lit.int .i64 z0).wf = true) (hT : Tab w) :
    Calls Tryd.prog 7 #[.agg #[.int .i64 x0, .int .i64 y0, .int .i64 z0]] w fun e w' => e = .returned (.bool true) ∧ Below w.heap.size w w' := by
  have HT := hid hT
  have hn4 := dnn_le x0 y0 z0
  have hzl := dn_len x0 y0 z0
  generalize hn : dnn x0 y0 z0 = n at *
  generalize hzs : dn x0 y0 z0 = zs at *
  have HS : Hid (∀ w, Calls Tryd.prog 23 #[.agg #[.int .i64 x0, .int .i64 y0, .int .i64 z0]] w fun e w' => ∃ v, e = .returned v ∧ TlNew w w' v n zs) := hid (fun w => by rw [← hn, ← hzs]; exact spec_tiledown x0 y0 z0 w)
  have HI : Hid (∀ w, Tab w → Calls Tryd.prog 22 #[.agg #[.int .i64 x0, .int .i64 y0, .int .i64 z0]] w fun e w' => ∃ v, e = .returned v ∧ TlNew w w' v n zs) := hid (fun w h => by rw [← hn, ← hzs]; exact impl_tiledown x0 y0 z0 w h)
  clear hT hn hzs
  go_enter Tryd.func7, Tryd.ntmps7
  go_wp2_with fail
  have a0 : ∀ j : Nat, True := fun _ => trivial
  generalize hwb : w.alloc (.cells #[.int .i64 x0, .int .i64 y0, .int .i64 z0] 40) = wb
  have gb : wb.heap[w.heap.size]? = some (.cells #[.int .i64 x0, .int .i64 y0, .int .i64 z0] 40 (0, 0)) := by rw [← hwb]; exact new_alloc _ _ _ rfl
  have Bb : Below w.heap.size w wb := by rw [← hwb]; exact balloc (Below.refl _ _) _
  clear hwb
  obtain ⟨cb_0, cb_1, cb_2, _, _, _⟩ := cellT gb
  have hlb : w.heap.size < wb.heap.size := World.block_lt_of_cell? wb _ cb_0
  clear gb
  refine (to_tile x0 y0 z0 _).mono ?_
  rintro e w1 ⟨rfl, b1⟩
  have cw1_0 : w1.cell? ⟨w.heap.size, 0, none⟩ = some (.int .i64 x0) := keepcell b1 cb_0
  have cw1_1 : w1.cell? ⟨w.heap.size, 1, none⟩ = some (.int .i64 y0) := keepcell b1 cb_1
  have cw1_2 : w1.cell? ⟨w.heap.size, 2, none⟩ = some (.int .i64 z0) := keepcell b1 cb_2
  have B1 : Below w.heap.size w w1 := btrans Bb b1
  have hl1 := b1.size
  clear b1 cb_0 cb_1 cb_2 Bb
  go_wp2_with fail
  refine (HS.out _).mono ?_
  rintro e w2 ⟨v2, rfl, sa, scap, rfl, hsc, hso, b2, hsb⟩
  have cw2_0 : w2.cell? ⟨w.heap.size, 0, none⟩ = some (.int .i64 x0) := keepcell b2 cw1_0
  have cw2_1 : w2.cell? ⟨w.heap.size, 1, none⟩ = some (.int .i64 y0) := keepcell b2 cw1_1
  have cw2_2 : w2.cell? ⟨w.heap.size, 2, none⟩ = some (.int .i64 z0) := keepcell b2 cw1_2
  have B2 : Below w.heap.size w w2 := btrans B1 b2
  have hl2 := b2.size
  have S2 := hid hso.fl
  have SL : Hid (∀ p, sa = some p → n = 0 ∨ p.block < w2.heap.size) := hid (fun p hp => by
    rcases hso with h | ⟨b, rfl, hb, _, _⟩
    · left; rw [h] at hzl; simp at hzl; omega
    · injection hp with hp; subst hp; right; exact hb)
  clear hso b2 cw1_0 cw1_1 cw1_2 B1 hsb
  go_wp2_with fail
  refine (to_tile x0 y0 z0 _).mono ?_
  rintro e w3 ⟨rfl, b3⟩
  have cw3_0 : w3.cell? ⟨w.heap.size, 0, none⟩ = some (.int .i64 x0) := keepcell b3 cw2_0
  have cw3_1 : w3.cell? ⟨w.heap.size, 1, none⟩ = some (.int .i64 y0) := keepcell b3 cw2_1
  have cw3_2 : w3.cell? ⟨w.heap.size, 2, none⟩ = some (.int .i64 z0) := keepcell b3 cw2_2
  have B3 : Below w.heap.size w w3 := btrans B2 b3
  have hl3 := b3.size
  have S3 := hid (S2.out.below b3)
  clear b3 cw2_0 cw2_1 cw2_2 B2 S2
  go_wp2_with fail
  refine (HI.out _ (HT.out.below B3)).mono ?_
  rintro e w4 ⟨v4, rfl, ga, gcap, rfl, hgc, hgo, b4, hgb⟩
  have cw4_0 : w4.cell? ⟨w.heap.size, 0, none⟩ = some (.int .i64 x0) := keepcell b4 cw3_0
  have cw4_1 : w4.cell? ⟨w.heap.size, 1, none⟩ = some (.int .i64 y0) := keepcell b4 cw3_1
  have cw4_2 : w4.cell? ⟨w.heap.size, 2, none⟩ = some (.int .i64 z0) := keepcell b4 cw3_2
  have B4 : Below w.heap.size w w4 := btrans B3 b4
  have hl4 := b4.size
  have S4 := hid (S3.out.below b4)
  have G4 := hid hgo
  have GB := hid hgb
  clear b4 cw3_0 cw3_1 cw3_2 B3 S3 hgo hgb
  go_wp2_with fail
  refine (eq_tiles ga sa gcap scap n zs _ (by omega) hgc hsc hzl G4.out.fl S4.out).mono ?_
  rintro e w5 ⟨rfl, b5⟩
  have cw5_0 : w5.cell? ⟨w.heap.size, 0, none⟩ = some (.int .i64 x0) := keepcell b5 cw4_0
  have cw5_1 : w5.cell? ⟨w.heap.size, 1, none⟩ = some (.int .i64 y0) := keepcell b5 cw4_1
  have cw5_2 : w5.cell? ⟨w.heap.size, 2, none⟩ = some (.int .i64 z0) := keepcell b5 cw4_2
  have B5 : Below w.heap.size w w5 := btrans B4 b5
  have hl5 := b5.size
  have S5 := hid (S4.out.below b5)
  have G5 := hid (G4.out.below b5)
  clear b5 cw4_0 cw4_1 cw4_2 B4 S4 G4
  go_wp2_with fail
  refine (mark_tiles _ ga gcap n zs (by omega) hgc hzl G5.out).mono ?_
  rintro e w6 ⟨rfl, hm6, hg6⟩
  have hra : ∀ b : Nat, ga.map (·.block) = some b → w3.heap.size ≤ b := fun b hb => by
    cases ga with
    | none => cases hb
    | some p => injection hb with hb; subst hb; exact GB.out p rfl
  have cw6_0 : w6.cell? ⟨w.heap.size, 0, none⟩ = some (.int .i64 x0) := cell_grown cw5_0 hg6 (fun e => by have := hra _ e; dsimp only at this; omega)
  have cw6_1 : w6.cell? ⟨w.heap.size, 1, none⟩ = some (.int .i64 y0) := cell_grown cw5_1 hg6 (fun e => by have := hra _ e; dsimp only at this; omega)
  have cw6_2 : w6.cell? ⟨w.heap.size, 2, none⟩ = some (.int .i64 z0) := cell_grown cw5_2 hg6 (fun e => by have := hra _ e; dsimp only at this; omega)
  have B6 : Below w.heap.size w w6 := B5.grown hg6 B5.size (fun k hk => by have := hra k hk; omega)
  have hl6 := hg6.size
  have S6 : Hid (n = 0 ∨ Fl w6 sa zs) := hid (by
    by_cases hn0 : n = 0
    · exact .inl hn0
    · refine .inr (fl_grown S5.out hg6 (fun p hp e => ?_))
      have h1 := hra _ e
      rcases SL.out p hp with h | h
      · exact hn0 h
      · omega)
  have S6' : Hid (Fl w6 sa zs) := hid (by
    rcases S6.out with h | h
    · left; apply List.eq_nil_of_length_eq_zero; omega
    · exact h)
  have G6 := hid hm6
  clear hg6 cw5_0 cw5_1 cw5_2 B5 S5 G5 hm6 S6 hra
  have hz : ¬ ((1 : Int) + 3 * (n : Int) < 0) := by omega
  go_wp2_with fail
  refine (held_tiles _ ga gcap n (by omega) hgc G6.out.fl).mono ?_
  rintro e w' ⟨rfl, hw⟩
  replace hw := hw.symm
  subst hw
  go_wp2_with fail
  refine (to_tile x0 y0 z0 _).mono ?_
  rintro e w7 ⟨rfl, b7⟩
  have cw7_0 : w7.cell? ⟨w.heap.size, 0, none⟩ = some (.int .i64 x0) := keepcell b7 cw6_0
  have cw7_1 : w7.cell? ⟨w.heap.size, 1, none⟩ = some (.int .i64 y0) := keepcell b7 cw6_1
  have cw7_2 : w7.cell? ⟨w.heap.size, 2, none⟩ = some (.int .i64 z0) := keepcell b7 cw6_2
  have B7 : Below w.heap.size w w7 := btrans B6 b7
  have S7 := hid (S6'.out.below b7)
  have G7 := hid (G6.out.below b7)
  clear b7 cw6_0 cw6_1 cw6_2 B6 S6' G6
  go_wp2_with fail
  refine (HI.out _ (HT.out.below B7)).mono ?_
  rintro e w8 ⟨v8, rfl, ha, hcap, rfl, hhc, hho, b8, hhb⟩
  have B8 : Below w.heap.size w w8 := btrans B7 b8
  have S8 := hid (S7.out.below b8)
  have G8 := hid (G7.out.below b8)
  have H8 := hid hho
  clear b8 B7 S7 G7 hho hhb
  go_wp2_with fail
  refine (eq_tiles ha sa hcap scap n zs _ (by omega) hhc hsc hzl H8.out.fl S8.out).mono ?_
  rintro e w9 ⟨rfl, b9⟩
  have B9 : Below w.heap.size w w9 := btrans B8 b9
  have G9 := hid (G8.out.below b9)
  clear b9 B8 S8 G8
  go_wp2_with fail
  refine (held_tiles _ ga gcap n (by omega) hgc G9.out.fl).mono ?_
  rintro e w' ⟨rfl, hw⟩
  replace hw := hw.symm
  subst hw
  go_wp2_with fail
  go_ret
  exact ⟨rfl, B9⟩
theorem contract (H : Type) (enc : TypeId × Value → H) (W : World) (base : Nat) (args : Array Value) (ds gs : List (DataW H)) (before : List MemPlace)
    (hval0 : ∀ (j : Nat) t v, Tryd.f7.params[j]? = some t → args[j]? = some v → Value.okWide Tryd.prog W .any base t v)
    (hW : DataW.Whole enc Tryd.prog Tryd.f7.params.toList Rows.fnExactTileDownSpec.vars false W args.toList ds gs before) (hL : laidMetH Tryd.prog Rows.fnExactTileDownRow.laid W) :
    Calls Tryd.prog 7 args W fun e W' => ∃ v, e = .returned v ∧ Rows.fnExactTileDownSpec.post enc Tryd.prog Tryd.f7 false true false false W args v W' := by
  have hval : ∀ (j : Nat) t v, Tryd.f7.params[j]? = some t → args[j]? = some v → Value.okWide Tryd.prog W .any base t v := hval0
  have hW' := hW
  obtain ⟨p, q, hA0, hV, rfl, hfz, hnd⟩ := hW
  have hA : DataW.TrodAll enc Tryd.prog W 0 (fun _ => true) true Tryd.f7.params.toList args.toList ds p := hA0
  rw [Tryd.params7] at hA hval
  obtain ⟨v0, vs0, d0, ds0, p0, q0, hargs, rfl, rfl, h0, r0⟩ := trodAll_cons hA
  obtain ⟨rfl, rfl, rfl⟩ := trodAll_nil r0
  obtain rfl : args = #[v0] := by cases args; simp_all
  obtain ⟨_, _, _, _, g1, _, eg, _⟩ := trodVars_one hV
  subst eg
  have k0 := h0
  have lt0 : ∀ x ∈ p0, x.block < W.heap.size := by obtain ⟨m, hm⟩ := k0; exact DataW.trod_lt m _ _ _ hm
  obtain ⟨c0_0, c0_1, c0_2, g0_0, g0_1, g0_2, m0, rfl, rfl, rfl, hy0_0, hy0_1, hy0_2⟩ := open_agg3 Tryd.underlying40 (by kernel_rfl) cells40 (hval 0 40 v0 rfl rfl) h0
  obtain ⟨x0, e0_0, rfl, wx0⟩ := DataW.trod_int Tryd.underlying3 hy0_0
  obtain ⟨y0, e0_1, rfl, wy0⟩ := DataW.trod_int Tryd.underlying3 hy0_1
  obtain ⟨z0, e0_2, rfl, wz0⟩ := DataW.trod_int Tryd.underlying3 hy0_2
  simp at e0_0 e0_1 e0_2
  subst e0_0 e0_1 e0_2
  clear hA0 hval0
  refine (walk x0 y0 z0 W wx0 wy0 wz0 (tab_of_is (Lib.tabIs_of_head (g := 0) (rest := []) (by kernel_rfl) (by kernel_rfl) Tryd.underlying55 Tryd.underlying3 (by kernel_rfl) (by kernel_rfl) hL) (by kernel_rfl))).mono fun e W' ⟨he, bel⟩ => ?_
  subst he
  exact ⟨_, rfl, _, _, _, [], _, _, hW', trodAll_mk1 (shut_bool Tryd.underlying4 _), (trodAll_cons_mk (Below.trod laidOut (by kernel_rfl) (of_decide_eq_true (by kernel_rfl)) k0 bel lt0) trodAll_mk0), Below.trodVars laidOut bel (by kernel_rfl) hV, bel.frame _, fun h => by cases h⟩
def tabs (h : Array Obj) : Array Obj := h
  |>.modify 0 (fun | .cells _ t frozen => .cells #[.int .i64 65536, .int .i64 32768, .int .i64 16384, .int .i64 8192, .int .i64 4096, .int .i64 2048, .int .i64 1024, .int .i64 512, .int .i64 256] t frozen | o => o)
theorem laid_met (os : Os) : laidMet Tryd.prog Rows.fnExactTileDownRow.laid (({ World.holding Tryd.prog os ⟨#[], #[], []⟩ with heap := tabs (World.holding Tryd.prog os ⟨#[], #[], []⟩).heap } : World).forCall (fun _ _ => 0) ⟨#[], #[.agg #[.int .i64 0, .int .i64 0, .int .i64 0]], []⟩).memory :=
  laidMet_of_run' 8 (by kernel_rfl) (by kernel_rfl)
theorem reads (os : Os) {H : Type} (enc : TypeId × Value → H) : ∃ x, DataW.whole enc Tryd.prog (({ World.holding Tryd.prog os ⟨#[], #[], []⟩ with heap := tabs (World.holding Tryd.prog os ⟨#[], #[], []⟩).heap } : World).forCall (fun _ _ => 0) ⟨#[], #[.agg #[.int .i64 0, .int .i64 0, .int .i64 0]], []⟩).memory Tryd.f7.params.toList Rows.fnExactTileDownSpec.vars false (#[.agg #[.int .i64 0, .int .i64 0, .int .i64 0]] : Array Value).toList 8 = some x :=
  Option.isSome_iff_exists.1 (by kernel_rfl)
set_option maxRecDepth 100000 in
theorem lifted (os : Os) (started : os.Started) (H : Type) (enc : TypeId × Value → H) (F : Stop.Interp) :
    ReturnsInHanded {} Tryd.checked os 7 .any ((OpenSpec.ofChange Rows.fnExactTileDownSpec).preRow enc Tryd.prog Tryd.f7 Rows.fnExactTileDownRow.domain false Rows.fnExactTileDownRow.laid) (((OpenSpec.ofChange Rows.fnExactTileDownSpec).at F).post enc Tryd.prog Tryd.f7 false true false false) := by
  obtain ⟨x, hx⟩ := reads os enc
  refine returnsInHanded_of_row (C := Tryd.checked) (s := OpenSpec.ofChange Rows.fnExactTileDownSpec) own started (by kernel_rfl) Tryd.func7
    (witness_row_at (enc := enc) (C := Tryd.checked) false ({ World.holding Tryd.prog os ⟨#[], #[], []⟩ with heap := tabs (World.holding Tryd.prog os ⟨#[], #[], []⟩).heap }) #[.agg #[.int .i64 0, .int .i64 0, .int .i64 0]] rfl (by kernel_rfl) (by kernel_rfl) (by kernel_rfl)
      (OpenSpec.preRow_of_cond 8 hx (by rfl) (fun k hk => by cases hk) (by kernel_rfl) (laid_met os))) ?_
  intro W base args ds gs before hval hW _ _ _ hL _ _
  exact contract H enc W base args ds gs before hval hW hL
theorem said : Rows.FnExactTileDownSaid :=
  OpenClaim.holds_of_cond 7 Tryd.f7 rfl rfl rfl rfl rfl rfl rfl ⟨rfl, rfl, rfl, rfl, rfl⟩ rfl rfl rfl rfl rfl (by kernel_rfl) Tryd.func7 (by kernel_rfl)
    (of_decide_eq_true (by kernel_rfl)) (by unfold Func.isWrapper; first | (rw [if_pos (by decide +kernel)]; kernel_rfl) | (rw [if_neg (by decide +kernel)]; exact ⟨rfl, rfl⟩))
    (fun os started H enc _ F => by rw [OpenClaim.pre_eq_preRow]; exact lifted os started H enc F)
theorem plain (f : FuncId) (fn : Func) (hf : Tryd.pinned.checked.prog.funcNamed Rows.fnExactTileDownRow.func = some f) (hfn : Tryd.pinned.checked.prog.funcs[f]? = some fn) :
    false = Tryd.pinned.checked.prog.looks [] ∧ ∀ (j : Nat) t, fn.params[j]? = some t → Tryd.pinned.checked.prog.wantsStandIn t = false := by
  obtain rfl : f = 7 := Option.some.inj ((show Tryd.prog.funcNamed Rows.fnExactTileDownRow.func = some 7 by kernel_rfl).symm.trans hf) |>.symm
  obtain rfl : fn = Tryd.f7 := (Option.some.inj (Tryd.func7.symm.trans hfn)).symm
  refine ⟨by kernel_rfl, fun j t ht => ?_⟩
  rw [Tryd.params7] at ht
  have hm : t ∈ ([40] : List Nat) := by simpa using Array.mem_of_getElem? ht
  exact (show ∀ t ∈ ([40] : List Nat), Tryd.prog.wantsStandIn t = false from of_decide_eq_true (by kernel_rfl)) t hm
end Go.Proofs.YtncnppkpkemajaaDoor.fnExactTileDown
namespace Go.Proofs.YtncnppkpkemajaaDoor
theorem fnExactTileDown_holds : Rows.FnExactTileDownCardSaid :=
  Claim7.holds_tied_plain_at .later [] _ _ _ _ fnExactTileDown.said (fun _ h => by cases h) (by kernel_rfl) (fun _ h => by cases h) fnExactTileDown_row_tie rfl ⟨rfl, rfl⟩ (by kernel_rfl) rfl fnExactTileDown.plain (by kernel_rfl)
#print axioms fnExactTileDown_holds
end Go.Proofs.YtncnppkpkemajaaDoor
