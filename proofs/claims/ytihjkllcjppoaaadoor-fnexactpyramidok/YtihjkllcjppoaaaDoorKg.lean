/- PyramidOk of both sides. -/
import Derived.Test.YtihjkllcjppoaaaDoorKf
namespace Go.Proofs.YtihjkllcjppoaaaDoor
open Go.RowKit
set_option linter.unusedSimpArgs false
set_option linter.unusedVariables false
def ctb (x : Int × Int) : Bool := kok x.1 && decide (0 < x.2)
def pasc (ps : List (Int × Int)) (i : Nat) : Bool := decide (i = 0) || decide ((ps.getD (i - 1) (0, 0)).1 < (ps.getD i (0, 0)).1)
def pyi (ps : List (Int × Int)) (i : Nat) : Bool := pasc ps i && ctb (ps.getD i (0, 0))
def pyb (ps : List (Int × Int)) : Bool := (List.range ps.length).all (pyi ps)
/-- The keys are numbers of 64 bits. -/
def KsIn (ps : List (Int × Int)) : Prop := ∀ i, i < ps.length → i64ok (ps.getD i (0, 0)).1
theorem pyb_no {ps : List (Int × Int)} {i : Nat} (hi : i < ps.length) (h : pyi ps i = false) : pyb ps = false := by
  cases e : pyb ps
  · rfl
  · have := (List.all_eq_true.1 e) i (List.mem_range.2 hi)
    rw [h] at this; cases this
theorem pyb_yes {ps : List (Int × Int)} (h : ∀ i, i < ps.length → pyi ps i = true) : pyb ps = true :=
  List.all_eq_true.2 fun i hi => h i (List.mem_range.1 hi)
set_option maxHeartbeats 2000000 in
theorem impl_PyramidOk (a : Option Addr) (cap : Nat) (ps : List (Int × Int)) (w : World) (ht : Tab w) (hk : KsIn ps) (hm : ps.length ≤ 1099511627776) (hc : ps.length ≤ cap) (h : Pts w a ps) : Calls Tryd.prog 8 #[.slice a ps.length cap] w fun e w' => e = .returned (.bool (pyb ps)) ∧ Below w.heap.size w w' := by
  have HT := hid ht
  have HK := hid hk
  have HR := hid h
  have HNO : Hid (∀ i, i < ps.length → pyi ps i = false → pyb ps = false) := hid (fun i hi h => pyb_no hi h)
  have HYE : Hid ((∀ i, i < ps.length → pyi ps i = true) → pyb ps = true) := hid pyb_yes
  generalize pyb ps = pb at *
  obtain ⟨n, hn⟩ : ∃ n, n = ps.length := ⟨_, rfl⟩
  have HN := hid hn.symm
  rw [← hn] at hm hc ⊢
  clear hn ht hk h
  go_enter Tryd.func8, Tryd.ntmps8
  go_wp2_with fail
  go_loopw [8] (fun ti wr => ∃ i : Nat, ti = .int .i64 i ∧ i ≤ n ∧ Hid (∀ m, m < i → pyi ps m = true) ∧ Hid (Below w.heap.size w wr)) (fun ti _ => n - (intOf ti).toNat)
  case atStart => exact ⟨0, rfl, Nat.zero_le _, hid (fun m hh => absurd hh (by omega)), hid (Below.refl _ _)⟩
  case round =>
    obtain ⟨i, rfl, hi, HA, HBW⟩ := hrel
    by_cases hlt : i < n
    · have d1 : (i : Int) < (n : Int) := by omega
      have hir : i < ps.length := by rw [HN.out]; exact hlt
      obtain ⟨b, o, rfl, hbs, hall⟩ : ∃ b o, a = some ⟨b, o, none⟩ ∧ b < w.heap.size ∧ PtsAt w b o ps := by
        rcases HR.out with h | h
        · rw [h] at hir; simp at hir
        · exact h
      obtain ⟨k0, k1⟩ := hall i hir
      replace k0 := keepcell HBW.out k0
      replace k1 := keepcell HBW.out k1
      have HP1 : Hid (∀ k, k + 1 = i → wr.cell? ⟨b, o + k * 2, none⟩ = some (.int .i64 (ps.getD k (0, 0)).1)) := hid (fun k hk => keepcell HBW.out (hall k (by omega)).1)
      have HPY : Hid (pyi ps i = (pasc ps i && (kok (ps.getD i (0, 0)).1 && decide (0 < (ps.getD i (0, 0)).2)))) := hid rfl
      have HAS : Hid (pasc ps i = (decide (i = 0) || decide ((ps.getD (i - 1) (0, 0)).1 < (ps.getD i (0, 0)).1))) := hid rfl
      have HNOI := hid (HNO.out i hir)
      have HNEXT : Hid (pyi ps i = true → ∀ m, m < i + 1 → pyi ps m = true) := hid (fun e1 m hm => by
        by_cases e : m = i
        · subst e; exact e1
        · exact HA.out m (by omega))
      have HKI := hid (HK.out i hir)
      clear hall
      generalize pyi ps i = ei at HPY HNOI HNEXT
      generalize pasc ps i = ab at HPY HAS
      generalize (ps.getD i (0, 0)).1 = kk at *
      generalize (ps.getD i (0, 0)).2 = nn at *
      have HCR := hid (fun (W : World) (h : Tab W) => impl_cright kk nn HKI.out W h)
      have hBx : Below wr.heap.size wr (wr.alloc (.cells #[.int .i64 kk, .int .i64 nn] 38)) := balloc (Below.refl _ _) _
      have gx := new_alloc wr wr.heap.size (.cells #[.int .i64 kk, .int .i64 nn] 38) rfl
      have HB1 := hid (btrans HBW.out hBx)
      have HP2 : Hid (∀ k, k + 1 = i → (wr.alloc (.cells #[.int .i64 kk, .int .i64 nn] 38)).cell? ⟨b, o + k * 2, none⟩ = some (.int .i64 (ps.getD k (0, 0)).1)) := hid (fun k hk => keepalloc (HP1.out k hk) _)
      go_upto_region 4 with fail
      clear k0 k1 hBx HP1
      generalize wr.alloc (.cells #[.int .i64 kk, .int .i64 nn] 38) = W1 at *
      obtain ⟨X, hX⟩ : ∃ X, X = wr.heap.size := ⟨_, rfl⟩
      rw [← hX] at gx ⊢
      clear hX
      obtain ⟨x0, x1⟩ := cell2 gx
      have HT1 := hid (HT.out.below HB1.out)
      go_cut [5] from 13 to 25 (fun t wx => t = .bool ab ∧ Hid (Below W1.heap.size W1 wx))
      case first =>
        rcases Nat.eq_zero_or_pos i with hz | hp
        · have HAB : Hid (ab = true) := hid (by rw [HAS.out, hz]; rfl)
          subst hz
          clear HAS
          cases HAB.out
          go_quiet (fail)
          go_wp2_with fail
          go_meet
          exact ⟨rfl, hid (bdrewN (Below.refl _ _))⟩
        · obtain ⟨k, rfl⟩ : ∃ k, i = k + 1 := ⟨i - 1, by omega⟩
          have y0 := HP2.out k rfl
          simp only [Nat.add_sub_cancel] at HAS
          generalize (ps.getD k (0, 0)).1 = pk at y0 HAS
          have hz0 : ¬ ((k + 1 : Nat) : Int) = 0 := by omega
          have hz1 : decide (((k + 1 : Nat) : Int) = 0) = false := by simpa using hz0
          have hz2 : (((k + 1 : Nat) : Int) == 0) = false := by simpa using hz0
          have hw1 : IntKind.i64.wrap (((k + 1 : Nat) : Int) - 1) = (k : Int) := by rw [IntKind.wrap_i64]; omega
          have hw2 : IntKind.i64.wrap (k : Int) = (k : Int) := by rw [IntKind.wrap_i64]; omega
          have hk0 : (0 : Int) ≤ (k : Int) := by omega
          have hk1 : (k : Int) < (n : Int) := by omega
          have hz3 : (((k : Int) + 1) == 0) = false := by rw [beq_eq_false_iff_ne]; omega
          have HAB : Hid (ab = decide (pk < kk)) := hid (by rw [HAS.out]; simp)
          clear HAS
          go_quiet (fail)
          go_wp2_with fail
          go_meet
          exact ⟨by rw [HAB.out], hid (bdrewN (Below.refl _ _))⟩
      case rest =>
        obtain ⟨rfl, HWX⟩ := hcut
        replace x0 := keepcell HWX.out x0
        replace x1 := keepcell HWX.out x1
        replace HT1 := hid (HT1.out.below HWX.out)
        replace HB1 := hid (btrans HB1.out HWX.out)
        cases ab
        · have HEI : Hid (ei = false) := hid (by rw [HPY.out]; rfl)
          go_wp2_with fail
          go_ret
          exact ⟨by rw [HNOI.out HEI.out]; rfl, HB1.out⟩
        · go_wp2_with fail
          refine (HCR.out _ HT1.out).mono ?_
          rintro e z ⟨rfl, hz⟩
          have HEI : Hid (ei = (kok kk && decide (0 < nn))) := hid (by rw [HPY.out]; rfl)
          have HBZ := hid (btrans HB1.out hz)
          generalize (kok kk && decide (0 < nn)) = eb at *
          cases eb
          · go_wp2_with fail
            go_ret
            exact ⟨by rw [HNOI.out HEI.out]; rfl, HBZ.out⟩
          · go_wp2_with fail
            go_roundw
            case rel => exact ⟨i + 1, by go_num, by omega, hid (HNEXT.out HEI.out), HBZ⟩
            case measure => simp [intOf]; omega
    · have hin : i = n := by omega
      have HY : Hid (pb = true) := hid (HYE.out (fun m hm => HA.out m (by rw [hin, ← HN.out]; exact hm)))
      clear hin
      go_wp2_with fail
      go_ret
      exact ⟨by rw [HY.out]; rfl, HBW.out⟩
set_option maxHeartbeats 2000000 in
theorem spec_PyramidOk (a : Option Addr) (cap : Nat) (ps : List (Int × Int)) (w : World) (hk : KsIn ps) (hm : ps.length ≤ 1099511627776) (hc : ps.length ≤ cap) (h : Pts w a ps) : Calls Tryd.prog 6 #[.slice a ps.length cap] w fun e w' => e = .returned (.bool (pyb ps)) ∧ Below w.heap.size w w' := by
  have HK := hid hk
  have HR := hid h
  have HNO : Hid (∀ i, i < ps.length → pyi ps i = false → pyb ps = false) := hid (fun i hi h => pyb_no hi h)
  have HYE : Hid ((∀ i, i < ps.length → pyi ps i = true) → pyb ps = true) := hid pyb_yes
  generalize pyb ps = pb at *
  obtain ⟨n, hn⟩ : ∃ n, n = ps.length := ⟨_, rfl⟩
  have HN := hid hn.symm
  rw [← hn] at hm hc ⊢
  clear hn hk h
  go_enter Tryd.func6, Tryd.ntmps6
  go_wp2_with fail
  go_loopw [3] (fun ti wr => ∃ i : Nat, ti = .int .i64 i ∧ i ≤ n ∧ Hid (∀ m, m < i → pyi ps m = true) ∧ Hid (Below w.heap.size w wr)) (fun ti _ => n - (intOf ti).toNat)
  case atStart => exact ⟨0, rfl, Nat.zero_le _, hid (fun m hh => absurd hh (by omega)), hid (Below.refl _ _)⟩
  case round =>
    obtain ⟨i, rfl, hi, HA, HBW⟩ := hrel
    by_cases hlt : i < n
    · have d1 : (i : Int) < (n : Int) := by omega
      have d0 : (0 : Int) ≤ (i : Int) := by omega
      have hir : i < ps.length := by rw [HN.out]; exact hlt
      obtain ⟨b, o, rfl, hbs, hall⟩ : ∃ b o, a = some ⟨b, o, none⟩ ∧ b < w.heap.size ∧ PtsAt w b o ps := by
        rcases HR.out with h | h
        · rw [h] at hir; simp at hir
        · exact h
      obtain ⟨k0, k1⟩ := hall i hir
      replace k0 := keepcell HBW.out k0
      replace k1 := keepcell HBW.out k1
      have HP1 : Hid (∀ k, k + 1 = i → wr.cell? ⟨b, o + k * 2, none⟩ = some (.int .i64 (ps.getD k (0, 0)).1)) := hid (fun k hk => keepcell HBW.out (hall k (by omega)).1)
      have HPY : Hid (pyi ps i = (pasc ps i && (kok (ps.getD i (0, 0)).1 && decide (0 < (ps.getD i (0, 0)).2)))) := hid rfl
      have HAS : Hid (pasc ps i = (decide (i = 0) || decide ((ps.getD (i - 1) (0, 0)).1 < (ps.getD i (0, 0)).1))) := hid rfl
      have HNOI := hid (HNO.out i hir)
      have HNEXT : Hid (pyi ps i = true → ∀ m, m < i + 1 → pyi ps m = true) := hid (fun e1 m hm => by
        by_cases e : m = i
        · subst e; exact e1
        · exact HA.out m (by omega))
      have HKI := hid (HK.out i hir)
      clear hall
      generalize pyi ps i = ei at HPY HNOI HNEXT
      generalize pasc ps i = ab at HPY HAS
      generalize (ps.getD i (0, 0)).1 = kk at *
      generalize (ps.getD i (0, 0)).2 = nn at *
      have HCR := hid (fun (W : World) => spec_ktile kk HKI.out W)
      generalize kok kk = ck at *
      go_wp2_with fail
      refine (HCR.out _).mono ?_
      rintro e z ⟨x1, x2, x3, rfl, hz⟩
      replace k0 := keepcell hz k0
      replace k1 := keepcell hz k1
      have HBZ := hid (btrans HBW.out hz)
      have HP3 : Hid (∀ k, k + 1 = i → (z.alloc (.cells #[.int .i64 x1, .int .i64 x2, .int .i64 x3] 32)).cell? ⟨b, o + k * 2, none⟩ = some (.int .i64 (ps.getD k (0, 0)).1)) := hid (fun k hk => keepalloc (keepcell hz (HP1.out k hk)) _)
      have hBx : Below z.heap.size z (z.alloc (.cells #[.int .i64 x1, .int .i64 x2, .int .i64 x3] 32)) := balloc (Below.refl _ _) _
      have HB1 := hid (btrans HBZ.out hBx)
      replace k0 := keepcell hBx k0
      replace k1 := keepcell hBx k1
      go_upto_region 5 with fail
      clear HP1 hBx
      generalize z.alloc (.cells #[.int .i64 x1, .int .i64 x2, .int .i64 x3] 32) = W1 at *
      go_cut [48] from 21 to 48 (fun t wx => t = .bool (!ei) ∧ Hid (Below W1.heap.size W1 wx))
      case first =>
        cases ck
        · have HEI : Hid (ei = false) := hid (by rw [HPY.out]; simp)
          clear HAS
          go_quiet (fail)
          go_wp2_with fail
          go_meet
          exact ⟨by rw [HEI.out]; rfl, hid (bdrewN (Below.refl _ _))⟩
        by_cases hn1 : nn < 1
        · have HEI : Hid (ei = false) := hid (by rw [HPY.out, show decide (0 < nn) = false by simp; omega]; simp)
          have hn2 : decide (nn < 1) = true := by simpa using hn1
          clear HAS
          go_quiet (fail)
          go_wp2_with fail
          go_meet
          exact ⟨by rw [HEI.out]; rfl, hid (bdrewN (Below.refl _ _))⟩
        have hn2 : decide (nn < 1) = false := by simpa using hn1
        have HEI : Hid (ei = ab) := hid (by rw [HPY.out, show decide (0 < nn) = true by simp; omega]; simp)
        rcases Nat.eq_zero_or_pos i with hz | hp
        · have HAB : Hid (ei = true) := hid (by rw [HEI.out, HAS.out, hz]; rfl)
          subst hz
          have hz2 : decide ((0 : Int) < ((0 : Nat) : Int)) = false := by simp
          clear HAS
          go_quiet (fail)
          go_wp2_with fail
          go_meet
          exact ⟨by rw [HAB.out]; rfl, hid (bdrewN (Below.refl _ _))⟩
        · obtain ⟨k, rfl⟩ : ∃ k, i = k + 1 := ⟨i - 1, by omega⟩
          have y0 := HP3.out k rfl
          simp only [Nat.add_sub_cancel] at HAS
          generalize (ps.getD k (0, 0)).1 = pk at y0 HAS
          have hz1 : decide ((0 : Int) < ((k + 1 : Nat) : Int)) = true := by simp <;> omega
          have hz2 : decide ((0 : Int) < ((k : Int) + 1)) = true := by simp <;> omega
          have hw1 : IntKind.i64.wrap (((k + 1 : Nat) : Int) - 1) = (k : Int) := by rw [IntKind.wrap_i64]; omega
          have hw2 : IntKind.i64.wrap (k : Int) = (k : Int) := by rw [IntKind.wrap_i64]; omega
          have hk0 : (0 : Int) ≤ (k : Int) := by omega
          have hk1 : (k : Int) < (n : Int) := by omega
          have HAB : Hid ((!ei) = decide (kk ≤ pk)) := hid (by rw [HEI.out, HAS.out]; by_cases hq : kk ≤ pk <;> simp [hq] <;> omega)
          clear HAS
          go_quiet (fail)
          go_wp2_with fail
          go_meet
          exact ⟨by rw [HAB.out], hid (bdrewN (Below.refl _ _))⟩
      case rest =>
        obtain ⟨rfl, HWX⟩ := hcut
        replace HB1 := hid (btrans HB1.out HWX.out)
        cases ei
        · have HF : Hid (pb = false) := hid (HNOI.out rfl)
          go_wp2_with fail
          go_ret
          exact ⟨by rw [HF.out]; rfl, HB1.out⟩
        · have HNX := hid (HNEXT.out rfl)
          go_wp2_with fail
          go_roundw
          case rel => exact ⟨i + 1, by go_num, by omega, HNX, HB1⟩
          case measure => simp [intOf]; omega
    · have hin : i = n := by omega
      have HY : Hid (pb = true) := hid (HYE.out (fun m hm => HA.out m (by rw [hin, ← HN.out]; exact hm)))
      clear hin
      go_wp2_with fail
      go_ret
      exact ⟨by rw [HY.out]; rfl, HBW.out⟩
end Go.Proofs.YtihjkllcjppoaaaDoor
