/- For every code of a draw the law of weaving holds: two numbers come back from what the landed Weave wove them to, halved both they are woven to a quarter, and Weave and Part answer as the specification's. -/
import Derived.Test.YtaiifgmlnjgkpaaRows
import Derived.WalkKit
import Derived.ProofKit
import Derived.OpenShut
import Derived.Test.YtaiifgmlnjgkpaaWeave2
import Derived.ShutString
import Derived.ChangeOld
import Derived.Below
namespace Go.Proofs.Ytaiifgmlnjgkpaa.fnWeave
open Go.ChangeShapes Go.WideShapes Go.ChangeAt Go.RowKit
open Go.ChangeMaps (open_string shut_string)
set_option linter.unusedVariables false

theorem own : ownKnob Try.prog.godebug = none := by kernel_rfl
theorem laidOut : laidOutB Try.prog = true := by kernel_rfl

/-- WHAT THE WALK IS TOLD OF A SLICE OF INTEGERS THAT CAME IN: it is nil; or it leads to a row of 'cap' cells, the numbers 'zs' (the first 'len' are its elements, the rest its spare room), each fitting its kind. -/
def IsRow (k : IntKind) (w : World) (a : Option Addr) (len cap : Nat) (zs : List Int) : Prop :=
  (a = none ∧ len = 0 ∧ cap = 0 ∧ zs = []) ∨
  ∃ x, a = some x ∧ len ≤ cap ∧ cap ≤ maxLen ∧ zs.length = cap ∧ (∀ i, i < zs.length → w.cell? (x.add i) = some (.int k (zs.getD i 0))) ∧ ∀ n ∈ zs, (Lit.int k n).wf = true

/-! ### STEP 1: THE WALK: the Go text returns true, AND WRITES NOTHING THAT WAS THERE: 'Below w.heap.size w w'' (Derived/Below.lean: '.refl', '.alloc', '.drew', '.setCell' at a new block, '.trans'). Open each 'IsRow' by 'rcases' AHEAD of 'go_enter'; part every test ahead of the walk. -/
theorem code_of {w : World} {a : Option Addr} {len cap : Nat} {zs : List Int} (h : IsRow .u8 w a len cap zs) (hl : len ≤ 1048576) : CodeAt w a len w.heap.size := by
  refine ⟨hl, ?_⟩
  rcases h with ⟨_, h, _⟩ | ⟨x, rfl, h1, h2, h3, h4, h5⟩
  · exact .inl h
  · by_cases h0 : len = 0
    · exact .inl h0
    · obtain ⟨b, off, spot⟩ := x
      have hspot : spot = none := by simpa [Addr.add] using World.cell?_spot (h4 0 (by omega))
      subst hspot
      have hb := World.block_lt_of_cell? w _ (h4 0 (by omega))
      refine .inr ⟨b, off, rfl, by simpa [Addr.add] using hb, fun k hk => ?_⟩
      have hk' : k < zs.length := by omega
      have hw := bounds_u8 (h5 zs[k] (List.getElem_mem hk'))
      refine ⟨zs[k], hw.1, hw.2, ?_⟩
      have hc := h4 k hk'
      rw [Addr.add_lit] at hc
      simpa [List.getD, List.getElem?_eq_getElem hk'] using hc
theorem len_of {k : IntKind} {w : World} {a : Option Addr} {len cap : Nat} {zs : List Int} (h : IsRow k w a len cap zs) : len ≤ 9223372036854775807 := by
  rcases h with ⟨_, h, _⟩ | ⟨x, rfl, h1, h2, _⟩
  · omega
  · unfold maxLen at h2; omega
set_option maxRecDepth 100000 in
set_option maxHeartbeats 4000000 in
theorem walk (a0 : Option Addr) (len0 cap0 : Nat) (z0 : List Int) (w : World) (w0 : IsRow .u8 w a0 len0 cap0 z0) :
    Calls Try.prog 4 #[.slice a0 len0 cap0] w fun e w' => e = .returned (.bool true) ∧ Below w.heap.size w w' := by
  have hlen := len_of w0
  by_cases hbig : len0 ≤ 1048576
  · have hc := code_of w0 hbig
    have hd : (len0 : Int) ≤ 1048576 := by omega
    have HC := hide hc
    clear hc w0
    go_enter Try.func4, Try.ntmps4
    go_wp2_with (go_at_call 5; go_in)
    refine (draw_weave _ a0 len0 cap0 HC.out).mono ?_
    rintro e w1 ⟨x, y, rfl, hx, hy, hb1⟩
    go_wp2_with fail
    refine (impl_weave_any x y _).mono ?_
    rintro e w1' ⟨rfl, hw⟩
    replace hw := hw.symm
    subst hw
    go_wp2_with fail
    refine (draw_part _ a0 len0 cap0 ((HC.out.below hb1).mono hb1.size)).mono ?_
    rintro e w2 ⟨m, rfl, hm, hb2⟩
    replace hb1 := hb1.trans (hb2.mono hb1.size)
    clear hb2
    have Hpw := hide (pt_wv x y)
    have Hwp := hide (wv_pt m)
    have Hn := hide (rfl : wv x y = wv x y)
    go_wp2_with fail
    refine (impl_part_any m _).mono ?_
    rintro e w2' ⟨rfl, hw⟩
    replace hw := hw.symm
    subst hw
    go_wp2_with fail
    refine (spec_part_any m _).mono ?_
    rintro e w2' ⟨rfl, hw⟩
    replace hw := hw.symm
    subst hw
    go_wp2_with fail
    refine (spec_weave_any x y _).mono ?_
    rintro e w2' ⟨rfl, hw⟩
    replace hw := hw.symm
    subst hw
    clear hx hy hm
    generalize hn : wv x y = n at Hpw ⊢
    generalize hp : pt1 m = p at Hwp ⊢
    generalize hq : pt2 m = q at Hwp ⊢
    clear hn hp hq Hn
    by_cases hp0 : 0 ≤ p
    · go_wp2_with fail
      refine (impl_weave_any p q _).mono ?_
      rintro e w2' ⟨rfl, hw⟩
      replace hw := hw.symm
      subst hw
      rw [Hwp.out hp0]
      by_cases hn0 : n < 0
      · go_wp2_with fail
        go_ret
        exact ⟨rfl, hb1⟩
      · have hn1 : 0 ≤ n := by omega
        obtain ⟨⟨x0, x1, y0, y1, n2⟩, g1, g2, g3⟩ := Hpw.out hn1
        have G1 := hide g1
        have G2 := hide g2
        have G3 := hide g3
        clear g1 g2 g3
        go_wp2_with fail
        refine (impl_part_any n _).mono ?_
        rw [G1.out, G2.out]
        rintro e w2' ⟨rfl, hw⟩
        replace hw := hw.symm
        subst hw
        go_wp2_with fail
        refine (impl_weave_any (x / 2) (y / 2) _).mono ?_
        rw [G3.out]
        rintro e w2' ⟨rfl, hw⟩
        replace hw := hw.symm
        subst hw
        go_wp2_with fail
        go_ret
        exact ⟨rfl, hb1⟩
    · have hp1 : decide (0 ≤ p) = false := by simp; omega
      by_cases hn0 : n < 0
      · go_wp2_with fail
        go_ret
        exact ⟨rfl, hb1⟩
      · have hn1 : 0 ≤ n := by omega
        obtain ⟨⟨x0, x1, y0, y1, n2⟩, g1, g2, g3⟩ := Hpw.out hn1
        have G1 := hide g1
        have G2 := hide g2
        have G3 := hide g3
        clear g1 g2 g3
        go_wp2_with fail
        refine (impl_part_any n _).mono ?_
        rw [G1.out, G2.out]
        rintro e w2' ⟨rfl, hw⟩
        replace hw := hw.symm
        subst hw
        go_wp2_with fail
        refine (impl_weave_any (x / 2) (y / 2) _).mono ?_
        rw [G3.out]
        rintro e w2' ⟨rfl, hw⟩
        replace hw := hw.symm
        subst hw
        go_wp2_with fail
        go_ret
        exact ⟨rfl, hb1⟩
  · have hd : 1048576 < (len0 : Int) := by omega
    clear w0
    go_enter Try.func4, Try.ntmps4
    go_wp2_with (go_at_call 5; go_in)
    go_ret
    exact ⟨rfl, Below.refl _ _⟩

/-! ### THE ROW's STEP: WRITTEN OUT: LEAVE IT -/
set_option maxRecDepth 100000 in
theorem lifted (os : Os) (started : os.Started) (H : Type) (enc : TypeId × Value → H) :
    ReturnsInHanded {} Try.checked os 4 .any (Rows.fnWeaveSpec.pre6 enc Try.prog Try.f4 Rows.fnWeaveRow.domain false) (Rows.fnWeaveSpec.post enc Try.prog Try.f4 false true false false) := by
  refine returnsInHanded_of_change (C := Try.checked) own started (by kernel_rfl) Try.func4
    (ChangeSpec.witness6 (enc := enc) (C := Try.checked) false ⟨#[], #[.slice none 0 0], []⟩ 8 (by kernel_rfl) (by kernel_rfl) (by kernel_rfl) (by kernel_rfl)) ?_
  intro W base args ds gs before hval0 hW hcnd _
  have hval : ∀ (j : Nat) t v, Try.f4.params[j]? = some t → args[j]? = some v → Value.okWide Try.prog W .any base t v := hval0
  have hW' := hW
  obtain ⟨p, q, hA0, hV, rfl, hfz, hnd⟩ := hW
  have hA : DataW.TrodAll enc Try.prog W 0 (fun _ => true) true Try.f4.params.toList args.toList ds p := hA0
  rw [Try.params4] at hA hval
  obtain ⟨v0, vs0, d0, ds0, p0, q0, hargs, rfl, rfl, h0, r0⟩ := trodAll_cons hA
  obtain ⟨rfl, rfl, rfl⟩ := trodAll_nil r0
  obtain rfl : args = #[v0] := by cases args; simp_all
  obtain ⟨rfl, rfl⟩ := trodVars_none hV
  obtain ⟨a0, len0, cap0, rfl⟩ := okWide_slice Try.underlying22 (hval 0 22 v0 rfl rfl)
  have k0 := h0
  have lt0 : ∀ x ∈ p0, x.block < W.heap.size := by obtain ⟨m, hm⟩ := k0; exact DataW.trod_lt m _ _ _ hm
  obtain ⟨z0, w0⟩ : ∃ zs, IsRow .u8 W a0 len0 cap0 zs := by
    obtain ⟨fuel, hf⟩ := h0
    rcases open_ints Try.underlying22 Try.underlying5 (by kernel_rfl) hf with ⟨hcs, _⟩ | ⟨x, l, c, zs, hcs, _, hl, hm, hz, _, hcell, hwz⟩
    · simp [Value.cells] at hcs
      obtain ⟨rfl, rfl, rfl⟩ := hcs
      exact ⟨[], .inl ⟨rfl, rfl, rfl, rfl⟩⟩
    · simp [Value.cells] at hcs
      obtain ⟨rfl, rfl, rfl⟩ := hcs
      exact ⟨zs, .inr ⟨_, rfl, hl, hm, by simpa using hz, hcell, hwz⟩⟩
  clear hA0 hval0
  refine (walk a0 len0 cap0 z0 W w0).mono fun e W' ⟨he, bel⟩ => ?_
  subst he
  exact ⟨_, rfl, _, _, _, [], _, [], hW', trodAll_mk1 (shut_bool Try.underlying4 _), (trodAll_cons_mk (Below.trod laidOut (by kernel_rfl) (of_decide_eq_true (by kernel_rfl)) k0 bel lt0) trodAll_mk0), rfl, bel.frame _, fun h => by cases h⟩

theorem over : Rows.fnWeaveRow.holds Try.pinned (OpenSpec.ofChange Rows.fnWeaveSpec) :=
  OpenClaim.holds_of_wide 4 Try.f4 rfl rfl rfl rfl rfl rfl rfl ⟨rfl, rfl, rfl, rfl, rfl⟩ rfl rfl rfl rfl rfl (by kernel_rfl) Try.func4 (by kernel_rfl)
    (of_decide_eq_true (by kernel_rfl)) (by unfold Func.isWrapper; first | (rw [if_pos (by decide +kernel)]; kernel_rfl) | (rw [if_neg (by decide +kernel)]; exact ⟨rfl, rfl⟩))
    (fun os started H enc _ => lifted os started H enc)

/-- THE STATEMENT -/
theorem proved : Rows.FnWeaveSaid := over
end Go.Proofs.Ytaiifgmlnjgkpaa.fnWeave
namespace Go.Proofs.Ytaiifgmlnjgkpaa
theorem fnWeave_holds : Rows.FnWeaveSaid := fnWeave.proved
#print axioms fnWeave_holds
end Go.Proofs.Ytaiifgmlnjgkpaa
