/- For every code of a draw the law of folding holds: a number comes back folded and in bytes from the landed functions, no other bytes are its, and they answer as the specification's. -/
import Derived.Test.YtaiifgmlnjgkpaaRows
import Derived.WalkKit
import Derived.ProofKit
import Derived.OpenShut
import Derived.Deep.RegionHeld3
import Derived.Test.YtaiifgmlnjgkpaaFold2
import Derived.ShutString
import Derived.ChangeOld
import Derived.Below
namespace Go.Proofs.Ytaiifgmlnjgkpaa.fnFold
open Go.ChangeShapes Go.WideShapes Go.ChangeAt Go.RowKit
open Go.ChangeMaps (open_string shut_string)
set_option linter.unusedVariables false

theorem own : ownKnob Try.prog.godebug = none := by kernel_rfl
theorem laidOut : laidOutB Try.prog = true := by kernel_rfl

/-- WHAT THE WALK IS TOLD OF A SLICE OF INTEGERS THAT CAME IN: it is nil; or it leads to a row of 'cap' cells, the numbers 'zs' (the first 'len' are its elements, the rest its spare room), each fitting its kind. -/
def IsRow (k : IntKind) (w : World) (a : Option Addr) (len cap : Nat) (zs : List Int) : Prop :=
  (a = none ∧ len = 0 ∧ cap = 0 ∧ zs = []) ∨
  ∃ x, a = some x ∧ len ≤ cap ∧ cap ≤ maxLen ∧ zs.length = cap ∧ (∀ i, i < zs.length → w.cell? (x.add i) = some (.int k (zs.getD i 0))) ∧ ∀ n ∈ zs, (Lit.int k n).wf = true

/-! ### STEP 1: THE WALK: the Go text returns true, AND WRITES NOTHING THAT WAS THERE: 'Below w.heap.size w w'' (Derived/Below.lean: '.refl', '.alloc', '.drew', '.setCell' at a new block, '.trans'). Open each 'IsRow' by 'rcases' AHEAD of 'go_enter'; part every test ahead of the walk. -/
theorem code_of {w : World} {a : Option Addr} {len cap : Nat} {zs : List Int} (h : IsRow .u8 w a len cap zs) (hl : len ≤ 1048576) : CodeAt w a len w.heap.size := by
  refine ⟨hl, ?_⟩
  rcases h with ⟨_, h, _⟩ | ⟨x, rfl, h1, h2, h3, h4, h5⟩
  · exact .inl h
  · by_cases h0 : len = 0
    · exact .inl h0
    · obtain ⟨b, off, spot⟩ := x
      have hspot : spot = none := by simpa [Addr.add] using World.cell?_spot (h4 0 (by omega))
      subst hspot
      have hb := World.block_lt_of_cell? w _ (h4 0 (by omega))
      refine .inr ⟨b, off, rfl, by simpa [Addr.add] using hb, fun k hk => ?_⟩
      have hk' : k < zs.length := by omega
      have hw := bounds_u8 (h5 zs[k] (List.getElem_mem hk'))
      refine ⟨zs[k], hw.1, hw.2, ?_⟩
      have hc := h4 k hk'
      rw [Addr.add_lit] at hc
      simpa [List.getD, List.getElem?_eq_getElem hk'] using hc
theorem len_of {k : IntKind} {w : World} {a : Option Addr} {len cap : Nat} {zs : List Int} (h : IsRow k w a len cap zs) : len ≤ 9223372036854775807 := by
  rcases h with ⟨_, h, _⟩ | ⟨x, rfl, h1, h2, _⟩
  · omega
  · unfold maxLen at h2; omega
theorem mid_small (s : ByteArray) (h : s.size ≤ 5) : ((⟨#[97]⟩ : ByteArray) ++ s ++ ⟨#[98]⟩).size ≤ 1000 := by
  rw [ByteArray.size_append, ByteArray.size_append, one_size, one_size]; omega
theorem below_drewN (B : Nat) (w : World) (n : Nat) : Below B w (w.drewN n) := ⟨rfl, rfl, rfl, Nat.le_refl _, fun _ _ => rfl⟩
set_option maxRecDepth 100000 in
set_option maxHeartbeats 8000000 in
theorem walk (a0 : Option Addr) (len0 cap0 : Nat) (z0 : List Int) (w : World) (w0 : IsRow .u8 w a0 len0 cap0 z0) :
    Calls Try.prog 3 #[.slice a0 len0 cap0] w fun e w' => e = .returned (.bool true) ∧ Below w.heap.size w w' := by
  have hlen := len_of w0
  by_cases hbig : len0 ≤ 1048576
  · have hc := code_of w0 hbig
    have hd : (len0 : Int) ≤ 1048576 := by omega
    have HC := hide hc
    clear hc w0
    go_enter Try.func3, Try.ntmps3
    go_wp2_with (go_at_call 5; go_in)
    refine (draw_fold _ a0 len0 cap0 HC.out).mono ?_
    rintro e w1 ⟨x, rfl, hx, hb⟩
    go_wp2_with fail
    refine (impl_fold x _).mono ?_
    rintro e w' ⟨rfl, hw⟩
    replace hw := hw.symm
    subst hw
    go_wp2_with fail
    refine (draw_putnum _ a0 len0 cap0 ((HC.out.below hb).mono hb.size)).mono ?_
    rintro e w2 ⟨n, rfl, hn, hb2⟩
    replace hb := hb.trans (hb2.mono hb.size)
    clear hb2
    go_wp2_with fail
    refine (impl_put_any n _).mono ?_
    rintro e w3 ⟨rfl, hb2⟩
    replace hb := hb.trans (hb2.mono hb.size)
    clear hb2
    go_wp2_with fail
    refine (draw_getnum _ a0 len0 cap0 ((HC.out.below hb).mono hb.size)).mono ?_
    rintro e w4 ⟨u, i, rfl, hu, hi, hb2⟩
    replace hb := hb.trans (hb2.mono hb.size)
    clear hb2
    go_wp2_with fail
    refine (impl_get_any u i hu _).mono ?_
    rintro e w' ⟨rfl, hw⟩
    replace hw := hw.symm
    subst hw
    go_wp2_with fail
    refine (spec_get_any u i hu hi _).mono ?_
    rintro e w5 ⟨rfl, hb2⟩
    replace hb := hb.trans (hb2.mono hb.size)
    clear hb2
    go_wp2_with fail
    refine (draw_unfold _ a0 len0 cap0 ((HC.out.below hb).mono hb.size)).mono ?_
    rintro e w6 ⟨k, rfl, hk, hb2⟩
    replace hb := hb.trans (hb2.mono hb.size)
    clear hb2
    have Hf := hide (un_fo x)
    have Hg := hide (gt_sound u i)
    have Hb := hide (gt_back n)
    have hsz := pn_size n
    go_wp2_with fail
    refine (spec_fold x _).mono ?_
    rintro e w' ⟨rfl, hw⟩
    replace hw := hw.symm
    subst hw
    go_wp2_with fail
    refine (spec_put_any n _).mono ?_
    rintro e w7 ⟨rfl, hb2⟩
    replace hb := hb.trans (hb2.mono hb.size)
    clear hb2
    go_wp2_with fail
    refine (impl_unfold k _).mono ?_
    rintro e w' ⟨rfl, hw⟩
    replace hw := hw.symm
    subst hw
    go_wp2_with fail
    refine (spec_unfold k _).mono ?_
    rintro e w' ⟨rfl, hw⟩
    replace hw := hw.symm
    subst hw
    clear hx hn hi hk
    generalize fo x = f at Hf ⊢
    generalize gnN (gt u i) = y at Hg ⊢
    generalize gnK (gt u i) = to at Hg ⊢
    generalize pn n = s at Hb hsz ⊢
    generalize un k = kk
    by_cases hf0 : 0 ≤ f
    · go_wp2_with fail
      refine (impl_unfold f _).mono ?_
      rw [Hf.out hf0]
      rintro e w' ⟨rfl, hw⟩
      replace hw := hw.symm
      subst hw
      go_wp2_with fail
      by_cases ht : 0 < to
      · obtain ⟨a, b, c, rfl, rfl, rfl, q1, q2, q3⟩ := Hg.out ht
        have r1 : 0 ≤ (c : Int) := by omega
        have r2 : (c : Int) ≤ (u.size : Int) := by omega
        have r3 : (a : Int) ≤ (c : Int) := by omega
        have r4 : 0 ≤ (a : Int) := by omega
        have ht2 : decide ((0 : Int) < (c : Int)) = true := by simp; omega
        have ht4 : 0 < c := by omega
        have ht3 : decide (0 < c) = true := by simpa using ht4
        clear Hg
        go_region_held3 (fun _ => True) (trivial) (first | (go_at_call 9; refine (impl_put_any (b : Int) _).mono ?_; rintro e w8 ⟨rfl, hb2⟩))
        all_goals
          replace hb := hb.trans ((below_drew hb2).mono hb.size)
          clear hb2
          by_cases hE : s.toList.isEmpty = true
          · go_wp2_with fail
            go_ret
            exact ⟨rfl, hb⟩
          · have hF : s.toList.isEmpty = false := by simpa using hE
            obtain ⟨k1, k2⟩ := Hb.out hF
            have K1 := hide k1
            have K2 := hide k2
            have HS : Hid (((⟨#[97]⟩ : ByteArray) ++ s ++ ⟨#[98]⟩).size ≤ 1000) := mid_small s hsz
            clear k1 k2 hE
            go_wp2_with fail
            refine (impl_get_any _ 1 HS.out _).mono ?_
            rw [K1.out, K2.out]
            rintro e w' ⟨rfl, hw⟩
            replace hw := hw.symm
            subst hw
            go_wp2_with fail
            go_ret
            exact ⟨rfl, hb⟩
      · have ht' : decide (0 < to) = false := by simp; omega
        clear Hg
        go_quiet (fail)
        replace hb : Below w.heap.size w _ := hb.trans (below_drewN _ _ nq)
        by_cases hE : s.toList.isEmpty = true
        · go_wp2_with fail
          go_ret
          exact ⟨rfl, hb⟩
        · have hF : s.toList.isEmpty = false := by simpa using hE
          obtain ⟨k1, k2⟩ := Hb.out hF
          have K1 := hide k1
          have K2 := hide k2
          have HS : Hid (((⟨#[97]⟩ : ByteArray) ++ s ++ ⟨#[98]⟩).size ≤ 1000) := mid_small s hsz
          clear k1 k2 hE
          go_wp2_with fail
          refine (impl_get_any _ 1 HS.out _).mono ?_
          rw [K1.out, K2.out]
          rintro e w' ⟨rfl, hw⟩
          replace hw := hw.symm
          subst hw
          go_wp2_with fail
          go_ret
          exact ⟨rfl, hb⟩
    · have hf1 : decide (0 ≤ f) = false := by simp; omega
      go_wp2_with fail
      by_cases ht : 0 < to
      · obtain ⟨a, b, c, rfl, rfl, rfl, q1, q2, q3⟩ := Hg.out ht
        have r1 : 0 ≤ (c : Int) := by omega
        have r2 : (c : Int) ≤ (u.size : Int) := by omega
        have r3 : (a : Int) ≤ (c : Int) := by omega
        have r4 : 0 ≤ (a : Int) := by omega
        have ht2 : decide ((0 : Int) < (c : Int)) = true := by simp; omega
        have ht4 : 0 < c := by omega
        have ht3 : decide (0 < c) = true := by simpa using ht4
        clear Hg
        go_region_held3 (fun _ => True) (trivial) (first | (go_at_call 9; refine (impl_put_any (b : Int) _).mono ?_; rintro e w8 ⟨rfl, hb2⟩))
        all_goals
          replace hb := hb.trans ((below_drew hb2).mono hb.size)
          clear hb2
          by_cases hE : s.toList.isEmpty = true
          · go_wp2_with fail
            go_ret
            exact ⟨rfl, hb⟩
          · have hF : s.toList.isEmpty = false := by simpa using hE
            obtain ⟨k1, k2⟩ := Hb.out hF
            have K1 := hide k1
            have K2 := hide k2
            have HS : Hid (((⟨#[97]⟩ : ByteArray) ++ s ++ ⟨#[98]⟩).size ≤ 1000) := mid_small s hsz
            clear k1 k2 hE
            go_wp2_with fail
            refine (impl_get_any _ 1 HS.out _).mono ?_
            rw [K1.out, K2.out]
            rintro e w' ⟨rfl, hw⟩
            replace hw := hw.symm
            subst hw
            go_wp2_with fail
            go_ret
            exact ⟨rfl, hb⟩
      · have ht' : decide (0 < to) = false := by simp; omega
        clear Hg
        go_quiet (fail)
        replace hb : Below w.heap.size w _ := hb.trans (below_drewN _ _ nq)
        by_cases hE : s.toList.isEmpty = true
        · go_wp2_with fail
          go_ret
          exact ⟨rfl, hb⟩
        · have hF : s.toList.isEmpty = false := by simpa using hE
          obtain ⟨k1, k2⟩ := Hb.out hF
          have K1 := hide k1
          have K2 := hide k2
          have HS : Hid (((⟨#[97]⟩ : ByteArray) ++ s ++ ⟨#[98]⟩).size ≤ 1000) := mid_small s hsz
          clear k1 k2 hE
          go_wp2_with fail
          refine (impl_get_any _ 1 HS.out _).mono ?_
          rw [K1.out, K2.out]
          rintro e w' ⟨rfl, hw⟩
          replace hw := hw.symm
          subst hw
          go_wp2_with fail
          go_ret
          exact ⟨rfl, hb⟩
  · have hd : 1048576 < (len0 : Int) := by omega
    clear w0
    go_enter Try.func3, Try.ntmps3
    go_wp2_with (go_at_call 5; go_in)
    go_ret
    exact ⟨rfl, Below.refl _ _⟩

/-! ### THE ROW's STEP: WRITTEN OUT: LEAVE IT -/
set_option maxRecDepth 100000 in
theorem lifted (os : Os) (started : os.Started) (H : Type) (enc : TypeId × Value → H) :
    ReturnsInHanded {} Try.checked os 3 .any (Rows.fnFoldSpec.pre6 enc Try.prog Try.f3 Rows.fnFoldRow.domain false) (Rows.fnFoldSpec.post enc Try.prog Try.f3 false true false false) := by
  refine returnsInHanded_of_change (C := Try.checked) own started (by kernel_rfl) Try.func3
    (ChangeSpec.witness6 (enc := enc) (C := Try.checked) false ⟨#[], #[.slice none 0 0], []⟩ 8 (by kernel_rfl) (by kernel_rfl) (by kernel_rfl) (by kernel_rfl)) ?_
  intro W base args ds gs before hval0 hW hcnd _
  have hval : ∀ (j : Nat) t v, Try.f3.params[j]? = some t → args[j]? = some v → Value.okWide Try.prog W .any base t v := hval0
  have hW' := hW
  obtain ⟨p, q, hA0, hV, rfl, hfz, hnd⟩ := hW
  have hA : DataW.TrodAll enc Try.prog W 0 (fun _ => true) true Try.f3.params.toList args.toList ds p := hA0
  rw [Try.params3] at hA hval
  obtain ⟨v0, vs0, d0, ds0, p0, q0, hargs, rfl, rfl, h0, r0⟩ := trodAll_cons hA
  obtain ⟨rfl, rfl, rfl⟩ := trodAll_nil r0
  obtain rfl : args = #[v0] := by cases args; simp_all
  obtain ⟨rfl, rfl⟩ := trodVars_none hV
  obtain ⟨a0, len0, cap0, rfl⟩ := okWide_slice Try.underlying22 (hval 0 22 v0 rfl rfl)
  have k0 := h0
  have lt0 : ∀ x ∈ p0, x.block < W.heap.size := by obtain ⟨m, hm⟩ := k0; exact DataW.trod_lt m _ _ _ hm
  obtain ⟨z0, w0⟩ : ∃ zs, IsRow .u8 W a0 len0 cap0 zs := by
    obtain ⟨fuel, hf⟩ := h0
    rcases open_ints Try.underlying22 Try.underlying5 (by kernel_rfl) hf with ⟨hcs, _⟩ | ⟨x, l, c, zs, hcs, _, hl, hm, hz, _, hcell, hwz⟩
    · simp [Value.cells] at hcs
      obtain ⟨rfl, rfl, rfl⟩ := hcs
      exact ⟨[], .inl ⟨rfl, rfl, rfl, rfl⟩⟩
    · simp [Value.cells] at hcs
      obtain ⟨rfl, rfl, rfl⟩ := hcs
      exact ⟨zs, .inr ⟨_, rfl, hl, hm, by simpa using hz, hcell, hwz⟩⟩
  clear hA0 hval0
  refine (walk a0 len0 cap0 z0 W w0).mono fun e W' ⟨he, bel⟩ => ?_
  subst he
  exact ⟨_, rfl, _, _, _, [], _, [], hW', trodAll_mk1 (shut_bool Try.underlying4 _), (trodAll_cons_mk (Below.trod laidOut (by kernel_rfl) (of_decide_eq_true (by kernel_rfl)) k0 bel lt0) trodAll_mk0), rfl, bel.frame _, fun h => by cases h⟩

theorem over : Rows.fnFoldRow.holds Try.pinned (OpenSpec.ofChange Rows.fnFoldSpec) :=
  OpenClaim.holds_of_wide 3 Try.f3 rfl rfl rfl rfl rfl rfl rfl ⟨rfl, rfl, rfl, rfl, rfl⟩ rfl rfl rfl rfl rfl (by kernel_rfl) Try.func3 (by kernel_rfl)
    (of_decide_eq_true (by kernel_rfl)) (by unfold Func.isWrapper; first | (rw [if_pos (by decide +kernel)]; kernel_rfl) | (rw [if_neg (by decide +kernel)]; exact ⟨rfl, rfl⟩))
    (fun os started H enc _ => lifted os started H enc)

/-- THE STATEMENT -/
theorem proved : Rows.FnFoldSaid := over
end Go.Proofs.Ytaiifgmlnjgkpaa.fnFold
namespace Go.Proofs.Ytaiifgmlnjgkpaa
theorem fnFold_holds : Rows.FnFoldSaid := fnFold.proved
#print axioms fnFold_holds
end Go.Proofs.Ytaiifgmlnjgkpaa
