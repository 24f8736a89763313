/- container/heap over candidates: up, down, Push, Pop; add and take. -/
import Derived.Test.YtnaobljoopjhgaaGreatNc
namespace Go.Proofs.YtnaobljoopjhgaaGreat
open Go.RowKit
set_option linter.unusedSimpArgs false
set_option linter.unusedVariables false
/-- What has been done to the heap since w: its list is a permutation. -/
def HS (B nb : Nat) (w wr : World) : Prop := Below B w wr ∧ OK9 nb w wr
theorem HS.refl (B nb : Nat) (w : World) : HS B nb w w := ⟨Below.refl _ _, Lib.OthersKept.refl _ _ w⟩
theorem HS.trans {B nb : Nat} {w a b : World} (h : HS B nb w a) (k : HS B nb a b) : HS B nb w b := ⟨h.1.trans k.1, h.2.trans k.2⟩
theorem below_mono {B : Nat} {w w' : World} (h : Below w.heap.size w w') (hB : B ≤ w.heap.size) : Below B w w' := ⟨h.os, h.tape, h.output, h.size, fun k hk => h.block k (by omega)⟩
theorem HS.below {B nb : Nat} {w a b : World} (h : HS B nb w a) (k : Below a.heap.size a b) (hB : B ≤ a.heap.size) : HS B nb w b := h.trans ⟨below_mono k hB, ok_below k⟩
theorem NH.lt {B nb : Nat} {hs : List Cn} {w : World} (h : NH B nb hs w) : B ≤ w.heap.size := by
  obtain ⟨g, c, h1, _, h3⟩ := h
  have := lt_of_block h1
  omega
set_option maxRecDepth 100000 in
set_option maxHeartbeats 2000000 in
theorem up_c (B nb : Nat) (hs : List Cn) (j : Nat) (w : World) (hn : hs.length ≤ 1000000) (h : NH B nb hs w) (hu : UpI hs j) : Calls Tryz.prog 68 #[hI nb, .int .i64 j] w fun e w' => e = .returned (.tuple #[]) ∧ ∃ hs', hs'.Perm hs ∧ Hp hs' hs'.length ∧ NH B nb hs' w' ∧ HS B nb w w' := by
  have HN := hid hn
  have HP0 : Hid (hs.Perm hs ∧ UpI hs j) := hid ⟨List.Perm.refl _, hu⟩
  have HH0 := hid h
  clear h hu
  have nal := na_less
  have nas := na_swap
  go_enter Tryz.func68, Tryz.ntmps68
  go_wp2_with fail
  go_loopw [1] (fun tj wr => ∃ j' : Nat, ∃ hs' : List Cn, tj = .int .i64 j' ∧ Hid (hs'.Perm hs ∧ UpI hs' j') ∧ Hid (NH B nb hs' wr) ∧ Hid (HS B nb w wr)) (fun tj _ => (intOf tj).toNat)
  case atStart => exact ⟨j, hs, rfl, HP0, HH0, hid (HS.refl _ _ _)⟩
  case round =>
    clear HP0 HH0
    obtain ⟨j', hs', rfl, HP, HH, HW⟩ := hrel
    have hjl := HP.out.2.1
    have HPL := hid HP.out.1.length_eq
    have hjn : j' < 1000000 := by have := HPL.out; omega
    by_cases hj0 : j' = 0
    · subst hj0
      have HE := hid (up_end HP.out.2 (.inl rfl))
      have hq : IntKind.i64.wrap (((0 : Nat) : Int) - 1) = -1 := by decide
      have hq2 : Int.tdiv (-1) 2 = 0 := by decide
      go_wp2_with fail
      go_end0
      exact ⟨rfl, hs', HP.out.1, HE.out, HH.out, HW.out⟩
    · obtain ⟨i, hi⟩ : ∃ i, i = (j' - 1) / 2 := ⟨_, rfl⟩
      have hw1 : IntKind.i64.wrap ((j' : Int) - 1) = ((j' - 1 : Nat) : Int) := by rw [IntWalk.i64_in _ ⟨by omega, by omega⟩]; omega
      have hd : Int.tdiv ((j' - 1 : Nat) : Int) 2 = (i : Int) := by rw [hi, Int.tdiv_eq_ediv_of_nonneg (by omega)]; omega
      have hd2 : ((j' - 1 : Nat) : Int) / 2 = (i : Int) := by rw [hi]; omega
      have hw2 : IntKind.i64.wrap (i : Int) = (i : Int) := IntWalk.i64_in _ ⟨by omega, by omega⟩
      have hij : i < j' := by omega
      have hne : ((i : Int) == (j' : Int)) = false := by rw [beq_eq_false_iff_ne]; omega
      obtain ⟨g, c, hb, hown, hB⟩ := HH.out
      obtain ⟨k0, k1⟩ := cell1n hb
      have mel := fun n => me_less n nb _ wr k0
      have HL := hid (less_c g hs'.length c hs' j' i wr (by rw [HPL.out]; omega) rfl hjl (by omega) (own_cn hown rfl).2.2.2.1)
      have HST := hid (fun (hl : ltc (at_ hs' j') (at_ hs' ((j' - 1) / 2))) => up_step HP.out.2 (by omega) hl)
      have HEN := hid (fun (hl : lec (at_ hs' ((j' - 1) / 2)) (at_ hs' j')) => up_end HP.out.2 (.inr hl))
      have HSP := hid (swp_perm (hs := hs') (i := i) (j := j') (by omega) hjl)
      have hBw := HH.out.lt
      rw [← hi] at HST HEN
      clear hi
      clear hb hown k1
      generalize hq : ltcb (at_ hs' j') (at_ hs' i) = q at *
      go_wp2_with fail
      refine HL.out.mono ?_
      rintro e z ⟨rfl, hz⟩
      replace HH := hid (HH.out.below hz)
      replace HW := hid (HW.out.below hz hBw)
      clear hz mel k0 HL
      cases q
      · have HE := hid (HEN.out (ltcb_no hq))
        clear hq hd hd2 hw1 hw2 hne HST HEN HSP hjl
        go_wp2_with fail
        go_end0
        exact ⟨rfl, hs', HP.out.1, HE.out, HH.out, HW.out⟩
      · have HU := hid (HST.out ((ltcb_iff _ _).1 hq))
        clear hq hd hd2 hw1 hne HST HEN
        obtain ⟨g, c, hb, hown, hB⟩ := HH.out
        obtain ⟨k0, k1⟩ := cell1n hb
        have mes := fun n => me_swap n nb _ z k0
        have HX := hid (swap_c B nb g c hs' i j' z (by rw [HPL.out]; omega) (by omega) hjl hB hb hown)
        clear hb hown k1
        go_wp2_with fail
        refine HX.out.mono ?_
        rintro e y ⟨rfl, hy1, hy2, hy3⟩
        have HH2 := hid hy1
        have HW2 := hid (HW.out.trans ⟨hy2, hy3⟩)
        have HP2 := hid (And.intro (HSP.out.trans HP.out.1) HU.out)
        clear hy1 hy2 hy3 mes k0 HX
        go_wp2_with fail
        go_roundw
        case rel => exact ⟨i, swp hs' i j', rfl, HP2, HH2, HW2⟩
        case measure => simp [intOf]; omega
set_option maxRecDepth 100000 in
set_option maxHeartbeats 4000000 in
theorem down_c (B nb : Nat) (hs : List Cn) (n : Nat) (w : World) (hn : hs.length ≤ 1000000) (hnl : n ≤ hs.length) (h : NH B nb hs w) (hu : DnI hs n 0) : Calls Tryz.prog 71 #[hI nb, .int .i64 0, .int .i64 n] w fun e w' => (∃ v, e = .returned v) ∧ ∃ hs', hs'.Perm hs ∧ (∀ k, n ≤ k → at_ hs' k = at_ hs k) ∧ Hp hs' n ∧ NH B nb hs' w' ∧ HS B nb w w' := by
  have HU0 := hid hu
  have HH0 := hid h
  clear h hu
  have nal := na_less
  have nas := na_swap
  go_enter Tryz.func71, Tryz.ntmps71
  go_wp2_with fail
  go_loopw [7] (fun ti wr => ∃ i : Nat, ∃ hs' : List Cn, ti = .int .i64 i ∧ i ≤ n ∧ Hid (hs'.Perm hs ∧ (∀ k, n ≤ k → at_ hs' k = at_ hs k) ∧ DnI hs' n i) ∧ Hid (NH B nb hs' wr) ∧ Hid (HS B nb w wr)) (fun ti _ => n - (intOf ti).toNat)
  case atStart => exact ⟨0, hs, rfl, Nat.zero_le _, hid ⟨List.Perm.refl _, fun _ _ => rfl, HU0.out⟩, HH0, hid (HS.refl _ _ _)⟩
  case round =>
    clear HU0 HH0
    obtain ⟨i, hs', rfl, hin, HP, HH, HW⟩ := hrel
    have HPL := hid HP.out.1.length_eq
    obtain ⟨j1, hj1⟩ : ∃ j1 : Nat, j1 = 2 * i + 1 := ⟨_, rfl⟩
    have hw1 : IntKind.i64.wrap (2 * (i : Int)) = 2 * (i : Int) := by rw [IntWalk.i64_in _ ⟨by omega, by omega⟩]
    have hw2 : IntKind.i64.wrap (2 * (i : Int) + 1) = (j1 : Int) := by rw [IntWalk.i64_in _ ⟨by omega, by omega⟩]; omega
    have hj0 : (0 : Int) ≤ (j1 : Int) := by omega
    have hnn : ¬ ((j1 : Int) < 0) := by omega
    by_cases hj : n ≤ j1
    · have HE := hid (dn_end HP.out.2.2 (fun k k0 kl ke => absurd kl (by omega)))
      have hc : (n : Int) ≤ (j1 : Int) := by omega
      clear hj1
      go_wp2_with fail
      go_ret
      exact ⟨⟨_, rfl⟩, hs', HP.out.1, HP.out.2.1, HE.out, HH.out, HW.out⟩
    · have HJ1 := hid hj1
      have hc : ¬ ((n : Int) ≤ (j1 : Int)) := by omega
      have hc' : (j1 : Int) < (n : Int) := by omega
      obtain ⟨j2, hj2⟩ : ∃ j2 : Nat, j2 = j1 + 1 := ⟨_, rfl⟩
      have HJ2 := hid hj2
      have hw3 : IntKind.i64.wrap ((j1 : Int) + 1) = (j2 : Int) := by rw [IntWalk.i64_in _ ⟨by omega, by omega⟩]; omega
      have hil : i < n := by omega
      have hj1i : 0 < j1 := by omega
      have hij1 : i < j1 := by omega
      by_cases hl2 : j2 < n
      · have hc2 : (j2 : Int) < (n : Int) := by omega
        have hij2 : i < j2 := by omega
        have hj2i : 0 < j2 := by omega
        clear hj1 hj2
        obtain ⟨g, c, hb, hown, hB⟩ := HH.out
        obtain ⟨k0, k1⟩ := cell1n hb
        have mel := fun n => me_less n nb _ wr k0
        have HL := hid (less_c g hs'.length c hs' j2 j1 wr (by rw [HPL.out]; omega) rfl (by rw [HPL.out]; omega) (by rw [HPL.out]; omega) (own_cn hown rfl).2.2.2.1)
        have hBw := HH.out.lt
        clear hb hown k1
        generalize hq1 : ltcb (at_ hs' j2) (at_ hs' j1) = q1 at *
        go_wp2_with fail
        refine HL.out.mono ?_
        rintro e z1 ⟨rfl, hz⟩
        replace HH := hid (HH.out.below hz)
        replace HW := hid (HW.out.below hz hBw)
        clear hz mel k0 HL hBw
        cases q1
        · have HQ1 := hid (ltcb_no hq1)
          clear hq1
          have HMN := hid (show ∀ k, 0 < k → k < n → (k - 1) / 2 = i → lec (at_ hs' j1) (at_ hs' k) from fun k k0 kl ke => by
            have h1 := HJ1.out
            have h2 := HJ2.out
            obtain rfl | rfl : k = j1 ∨ k = j2 := by omega
            · exact lec_refl _
            · exact HQ1.out)
          have hpj : (j1 - 1) / 2 = i := by have := HJ1.out; omega
          have HPJ := hid hpj
          clear hpj
          obtain ⟨g, c, hb, hown, hB⟩ := HH.out
          obtain ⟨k0, k1⟩ := cell1n hb
          have mel := fun n => me_less n nb _ z1 k0
          have HL := hid (less_c g hs'.length c hs' j1 i z1 (by rw [HPL.out]; omega) rfl (by rw [HPL.out]; omega) (by rw [HPL.out]; omega) (own_cn hown rfl).2.2.2.1)
          have HST := hid (fun (hl : ltc (at_ hs' j1) (at_ hs' i)) => dn_step (by rw [HPL.out]; exact hnl) HP.out.2.2 (by omega) (by omega) HPJ.out hl HMN.out)
          have HEN := hid (fun (hl : lec (at_ hs' i) (at_ hs' j1)) => dn_end HP.out.2.2 (fun k k0 kl ke => lec_trans hl (HMN.out k k0 kl ke)))
          have HSP := hid (swp_perm (hs := hs') (i := i) (j := j1) (by rw [HPL.out]; omega) (by rw [HPL.out]; omega))
          have HKE : Hid (∀ k, n ≤ k → at_ (swp hs' i j1) k = at_ hs' k) := hid (fun k hk => by rw [at_swp (by rw [HPL.out]; omega) (by rw [HPL.out]; omega), if_neg (by omega), if_neg (by omega)])
          have hBw := HH.out.lt
          clear hb hown k1
          generalize hq2 : ltcb (at_ hs' j1) (at_ hs' i) = q2 at *
          go_wp2_with fail
          refine HL.out.mono ?_
          rintro e z2 ⟨rfl, hz⟩
          replace HH := hid (HH.out.below hz)
          replace HW := hid (HW.out.below hz hBw)
          clear hz mel k0 HL
          cases q2
          · have HE := hid (HEN.out (ltcb_no hq2))
            clear hq2 HST HEN HSP HKE
            go_wp2_with fail
            go_ret
            exact ⟨⟨_, rfl⟩, hs', HP.out.1, HP.out.2.1, HE.out, HH.out, HW.out⟩
          · have HU := hid (HST.out ((ltcb_iff _ _).1 hq2))
            clear hq2 HST HEN
            obtain ⟨g, c, hb, hown, hB⟩ := HH.out
            obtain ⟨k0, k1⟩ := cell1n hb
            have mes := fun n => me_swap n nb _ z2 k0
            have HX := hid (swap_c B nb g c hs' i j1 z2 (by rw [HPL.out]; omega) (by rw [HPL.out]; omega) (by rw [HPL.out]; omega) hB hb hown)
            clear hb hown k1
            go_wp2_with fail
            refine HX.out.mono ?_
            rintro e y ⟨rfl, hy1, hy2, hy3⟩
            have HH2 := hid hy1
            have HW2 := hid (HW.out.trans ⟨hy2, hy3⟩)
            have HP2 : Hid ((swp hs' i j1).Perm hs ∧ (∀ k, n ≤ k → at_ (swp hs' i j1) k = at_ hs k) ∧ DnI (swp hs' i j1) n j1) := hid ⟨HSP.out.trans HP.out.1, fun k hk => (HKE.out k hk).trans (HP.out.2.1 k hk), HU.out⟩
            clear hy1 hy2 hy3 mes k0 HX
            go_wp2_with fail
            go_roundw
            case rel => exact ⟨j1, swp hs' i j1, rfl, by omega, HP2, HH2, HW2⟩
            case measure => simp [intOf]; omega
        · have HQ1 := hid (lec_of_lt ((ltcb_iff _ _).1 hq1))
          clear hq1
          have HMN := hid (show ∀ k, 0 < k → k < n → (k - 1) / 2 = i → lec (at_ hs' j2) (at_ hs' k) from fun k k0 kl ke => by
            have h1 := HJ1.out
            have h2 := HJ2.out
            obtain rfl | rfl : k = j1 ∨ k = j2 := by omega
            · exact HQ1.out
            · exact lec_refl _)
          have hpj : (j2 - 1) / 2 = i := by have := HJ1.out; have := HJ2.out; omega
          have HPJ := hid hpj
          clear hpj
          obtain ⟨g, c, hb, hown, hB⟩ := HH.out
          obtain ⟨k0, k1⟩ := cell1n hb
          have mel := fun n => me_less n nb _ z1 k0
          have HL := hid (less_c g hs'.length c hs' j2 i z1 (by rw [HPL.out]; omega) rfl (by rw [HPL.out]; omega) (by rw [HPL.out]; omega) (own_cn hown rfl).2.2.2.1)
          have HST := hid (fun (hl : ltc (at_ hs' j2) (at_ hs' i)) => dn_step (by rw [HPL.out]; exact hnl) HP.out.2.2 (by omega) (by omega) HPJ.out hl HMN.out)
          have HEN := hid (fun (hl : lec (at_ hs' i) (at_ hs' j2)) => dn_end HP.out.2.2 (fun k k0 kl ke => lec_trans hl (HMN.out k k0 kl ke)))
          have HSP := hid (swp_perm (hs := hs') (i := i) (j := j2) (by rw [HPL.out]; omega) (by rw [HPL.out]; omega))
          have HKE : Hid (∀ k, n ≤ k → at_ (swp hs' i j2) k = at_ hs' k) := hid (fun k hk => by rw [at_swp (by rw [HPL.out]; omega) (by rw [HPL.out]; omega), if_neg (by omega), if_neg (by omega)])
          have hBw := HH.out.lt
          clear hb hown k1
          generalize hq2 : ltcb (at_ hs' j2) (at_ hs' i) = q2 at *
          go_wp2_with fail
          refine HL.out.mono ?_
          rintro e z2 ⟨rfl, hz⟩
          replace HH := hid (HH.out.below hz)
          replace HW := hid (HW.out.below hz hBw)
          clear hz mel k0 HL
          cases q2
          · have HE := hid (HEN.out (ltcb_no hq2))
            clear hq2 HST HEN HSP HKE
            go_wp2_with fail
            go_ret
            exact ⟨⟨_, rfl⟩, hs', HP.out.1, HP.out.2.1, HE.out, HH.out, HW.out⟩
          · have HU := hid (HST.out ((ltcb_iff _ _).1 hq2))
            clear hq2 HST HEN
            obtain ⟨g, c, hb, hown, hB⟩ := HH.out
            obtain ⟨k0, k1⟩ := cell1n hb
            have mes := fun n => me_swap n nb _ z2 k0
            have HX := hid (swap_c B nb g c hs' i j2 z2 (by rw [HPL.out]; omega) (by rw [HPL.out]; omega) (by rw [HPL.out]; omega) hB hb hown)
            clear hb hown k1
            go_wp2_with fail
            refine HX.out.mono ?_
            rintro e y ⟨rfl, hy1, hy2, hy3⟩
            have HH2 := hid hy1
            have HW2 := hid (HW.out.trans ⟨hy2, hy3⟩)
            have HP2 : Hid ((swp hs' i j2).Perm hs ∧ (∀ k, n ≤ k → at_ (swp hs' i j2) k = at_ hs k) ∧ DnI (swp hs' i j2) n j2) := hid ⟨HSP.out.trans HP.out.1, fun k hk => (HKE.out k hk).trans (HP.out.2.1 k hk), HU.out⟩
            clear hy1 hy2 hy3 mes k0 HX
            go_wp2_with fail
            go_roundw
            case rel => exact ⟨j2, swp hs' i j2, rfl, by omega, HP2, HH2, HW2⟩
            case measure => simp [intOf]; omega
      · have hc2 : ¬ ((j2 : Int) < (n : Int)) := by omega
        have hc3 : (n : Int) ≤ (j2 : Int) := by omega
        clear hj1 hj2
        have HMN := hid (show ∀ k, 0 < k → k < n → (k - 1) / 2 = i → lec (at_ hs' j1) (at_ hs' k) from fun k k0 kl ke => by
          have h1 := HJ1.out
          have h2 := HJ2.out
          obtain rfl : k = j1 := by omega
          exact lec_refl _)
        have hpj : (j1 - 1) / 2 = i := by have := HJ1.out; omega
        have HPJ := hid hpj
        clear hpj
        obtain ⟨g, c, hb, hown, hB⟩ := HH.out
        obtain ⟨k0, k1⟩ := cell1n hb
        have mel := fun n => me_less n nb _ wr k0
        have HL := hid (less_c g hs'.length c hs' j1 i wr (by rw [HPL.out]; omega) rfl (by rw [HPL.out]; omega) (by rw [HPL.out]; omega) (own_cn hown rfl).2.2.2.1)
        have HST := hid (fun (hl : ltc (at_ hs' j1) (at_ hs' i)) => dn_step (by rw [HPL.out]; exact hnl) HP.out.2.2 (by omega) (by omega) HPJ.out hl HMN.out)
        have HEN := hid (fun (hl : lec (at_ hs' i) (at_ hs' j1)) => dn_end HP.out.2.2 (fun k k0 kl ke => lec_trans hl (HMN.out k k0 kl ke)))
        have HSP := hid (swp_perm (hs := hs') (i := i) (j := j1) (by rw [HPL.out]; omega) (by rw [HPL.out]; omega))
        have HKE : Hid (∀ k, n ≤ k → at_ (swp hs' i j1) k = at_ hs' k) := hid (fun k hk => by rw [at_swp (by rw [HPL.out]; omega) (by rw [HPL.out]; omega), if_neg (by omega), if_neg (by omega)])
        have hBw := HH.out.lt
        clear hb hown k1
        generalize hq2 : ltcb (at_ hs' j1) (at_ hs' i) = q2 at *
        go_wp2_with fail
        refine HL.out.mono ?_
        rintro e z2 ⟨rfl, hz⟩
        replace HH := hid (HH.out.below hz)
        replace HW := hid (HW.out.below hz hBw)
        clear hz mel k0 HL
        cases q2
        · have HE := hid (HEN.out (ltcb_no hq2))
          clear hq2 HST HEN HSP HKE
          go_wp2_with fail
          go_ret
          exact ⟨⟨_, rfl⟩, hs', HP.out.1, HP.out.2.1, HE.out, HH.out, HW.out⟩
        · have HU := hid (HST.out ((ltcb_iff _ _).1 hq2))
          clear hq2 HST HEN
          obtain ⟨g, c, hb, hown, hB⟩ := HH.out
          obtain ⟨k0, k1⟩ := cell1n hb
          have mes := fun n => me_swap n nb _ z2 k0
          have HX := hid (swap_c B nb g c hs' i j1 z2 (by rw [HPL.out]; omega) (by rw [HPL.out]; omega) (by rw [HPL.out]; omega) hB hb hown)
          clear hb hown k1
          go_wp2_with fail
          refine HX.out.mono ?_
          rintro e y ⟨rfl, hy1, hy2, hy3⟩
          have HH2 := hid hy1
          have HW2 := hid (HW.out.trans ⟨hy2, hy3⟩)
          have HP2 : Hid ((swp hs' i j1).Perm hs ∧ (∀ k, n ≤ k → at_ (swp hs' i j1) k = at_ hs k) ∧ DnI (swp hs' i j1) n j1) := hid ⟨HSP.out.trans HP.out.1, fun k hk => (HKE.out k hk).trans (HP.out.2.1 k hk), HU.out⟩
          clear hy1 hy2 hy3 mes k0 HX
          go_wp2_with fail
          go_roundw
          case rel => exact ⟨j1, swp hs' i j1, rfl, by omega, HP2, HH2, HW2⟩
          case measure => simp [intOf]; omega
set_option maxRecDepth 100000 in
set_option maxHeartbeats 2000000 in
theorem heap_push (B nb : Nat) (hs : List Cn) (x1 x2 : Int) (w : World) (hn : hs.length ≤ 100000) (h : NH B nb hs w) (hh : Hp hs hs.length) : Calls Tryz.prog 48 #[hI nb, .iface 90 (.agg #[.int .i64 x1, .int .i64 x2])] w fun e w' => e = .returned (.tuple #[]) ∧ ∃ hs', hs'.Perm (hs ++ [(x1, x2)]) ∧ Hp hs' hs'.length ∧ NH B nb hs' w' ∧ HS B nb w w' := by
  have nap := na_push
  have mep := me_push
  have nal := na_len
  have HPU := hid (push_0 B nb hs x1 x2 w (by omega) h)
  have HUP : Hid (UpI (hs ++ [(x1, x2)]) hs.length) := hid (by
    have e : ∀ k, k < hs.length → at_ (hs ++ [(x1, x2)]) k = at_ hs k := fun k hk => by
      unfold at_
      rw [List.getD_eq_getElem?_getD, List.getD_eq_getElem?_getD, List.getElem?_append_left hk]
    refine ⟨by simp, fun k k0 kl kn => ?_, fun k k0 kl ke => ?_⟩
    · simp at kl
      rw [e k (by omega), e _ (by omega)]
      exact hh k k0 (by omega)
    · simp at kl
      omega)
  clear h hh
  go_enter Tryz.func48, Tryz.ntmps48
  go_wp2_with fail
  refine HPU.out.mono ?_
  rintro e z ⟨rfl, hz1, hz2, hz3⟩
  obtain ⟨g, c, hb, hown, hB⟩ := hz1
  obtain ⟨k0, k1⟩ := cell1n hb
  have mel := fun n => me_len n nb _ z k0
  have HH := hid (show NH B nb (hs ++ [(x1, x2)]) z from ⟨g, c, hb, hown, hB⟩)
  have HW := hid (show HS B nb w z from ⟨hz2, hz3⟩)
  clear hb hown k1 hz2 hz3 HPU
  rw [show (hs ++ [(x1, x2)]).length = hs.length + 1 by simp] at mel
  have hw1 : IntKind.i64.wrap (((hs.length + 1 : Nat) : Int) - 1) = (hs.length : Int) := by rw [IntWalk.i64_in _ ⟨by omega, by omega⟩]; omega
  have hw2 : IntKind.i64.wrap ((hs.length : Int) + 1 - 1) = (hs.length : Int) := by rw [IntWalk.i64_in _ ⟨by omega, by omega⟩]; omega
  go_wp2_with fail
  refine (len_c _ _ _ _).mono ?_
  rintro e z2 ⟨rfl, hz⟩
  subst hz
  go_wp2_with fail
  refine (up_c B nb (hs ++ [(x1, x2)]) hs.length _ (by simp; omega) HH.out HUP.out).mono ?_
  rintro e y ⟨rfl, hs', h1, h2, h3, h4⟩
  have HF := hid (show _ ∧ _ ∧ _ ∧ _ from ⟨h1, h2, h3, HW.out.trans h4⟩)
  clear h1 h2 h3 h4
  go_wp2_with fail
  go_end0
  exact ⟨rfl, hs', HF.out⟩
end Go.Proofs.YtnaobljoopjhgaaGreat
