/- The tile of a count's key, on both sides; when a count is right. -/
import Derived.Test.YtdhdfgobefapiaaDoorKc
import Derived.Test.YtdhdfgobefapiaaDoorTileT
import Derived.BigQuiet
namespace Go.Proofs.YtdhdfgobefapiaaDoor
open Go.RowKit
set_option linter.unusedSimpArgs false
set_option linter.unusedVariables false
/-- A key has a right woven part. -/
def kin (k : Int) : Prop := 0 ≤ k.tdiv 16 ∧ k.tdiv 16 ≤ 4294967295
instance (k : Int) : Decidable (kin k) := by unfold kin; infer_instance
def kcol (k : Int) : Int := if kin k then ((Tm.P 16 (k.tdiv 16).toNat : Nat) : Int) else -1
def krow (k : Int) : Int := if kin k then ((Tm.P 16 ((k.tdiv 16).toNat / 2) : Nat) : Int) else -1
def klev (k : Int) : Int := k.tmod 16
/-- A key is that of a tile. -/
def ktok (k : Int) : Bool := tok (klev k) (kcol k) (krow k)
def kok (k : Int) : Bool := ktok k && decide (klev k ≤ 4)
def i64ok (k : Int) : Prop := -9223372036854775808 ≤ k ∧ k ≤ 9223372036854775807
theorem tdiv_bounds {k : Int} (h : i64ok k) : -9223372036854775808 ≤ k.tdiv 16 ∧ k.tdiv 16 ≤ 9223372036854775807 ∧ -15 ≤ k.tmod 16 ∧ k.tmod 16 ≤ 15 := by
  have h1 := Int.tmod_add_mul_tdiv k 16
  have h2 := Int.tmod_lt_of_pos k (show (0 : Int) < 16 by omega)
  obtain ⟨h3, h4⟩ := h
  rcases Int.le_total 0 k with hk | hk
  · have h5 := Int.tmod_nonneg (b := 16) hk
    have h6 : 0 ≤ k.tdiv 16 := Int.tdiv_nonneg hk (by omega)
    omega
  · have h5 : -16 < k.tmod 16 := Int.lt_tmod_of_pos k (by omega)
    omega
theorem ktok_neg {k : Int} (h : k < 0) : ktok k = false := by
  have h1 := Int.tmod_add_mul_tdiv k 16
  have h2 : -16 < k.tmod 16 := Int.lt_tmod_of_pos k (by omega)
  have h5 : k.tmod 16 ≤ 0 := by
    have := Int.tmod_nonneg (a := -k) (b := 16) (by omega)
    rw [Int.neg_tmod] at this; omega
  by_cases h6 : k.tmod 16 < 0
  · unfold ktok tok lok klev
    have : decide (0 ≤ k.tmod 16) = false := by simpa using h6
    rw [this]; rfl
  · have h7 : ¬ kin k := by unfold kin; omega
    unfold ktok tok plok kcol
    rw [if_neg h7]
    simp
theorem impl_ctile (k n : Int) (hk : i64ok k) (w : World) : Calls Tryd.prog 27 #[.agg #[.int .i64 k, .int .i64 n]] w fun e w' => e = .returned (.agg #[.int .i64 (klev k), .int .i64 (kcol k), .int .i64 (krow k)]) ∧ Below w.heap.size w w' := by
  obtain ⟨b1, b2, b3, b4⟩ := tdiv_bounds hk
  have hw1 : IntKind.i64.wrap (k.tdiv 16) = k.tdiv 16 := by rw [IntKind.wrap_i64]; omega
  have hw2 : IntKind.i64.wrap (k.tmod 16) = k.tmod 16 := by rw [IntKind.wrap_i64]; omega
  by_cases h : kin k
  · have hq : k.tdiv 16 = (((k.tdiv 16).toNat : Nat) : Int) := by unfold kin at h; omega
    have h' : (k.tdiv 16).toNat ≤ 4294967295 := by unfold kin at h; omega
    have HP := hid (fun W => impl_part (k.tdiv 16).toNat _ _ h' (hid rfl) (hid rfl) W)
    rw [← hq] at HP
    have e1 : klev k = k.tmod 16 := rfl
    rw [show kcol k = ((Tm.P 16 (k.tdiv 16).toNat : Nat) : Int) by unfold kcol; rw [if_pos h], show krow k = ((Tm.P 16 ((k.tdiv 16).toNat / 2) : Nat) : Int) by unfold krow; rw [if_pos h], e1]
    generalize Tm.P 16 (k.tdiv 16).toNat = p at *
    generalize Tm.P 16 ((k.tdiv 16).toNat / 2) = q at *
    clear hq h' h e1
    generalize hd : k.tdiv 16 = d at *
    generalize hm : k.tmod 16 = m at *
    go_enter Tryd.func27, Tryd.ntmps27
    go_wp2_with fail
    refine (HP.out _).mono ?_
    rintro e w' ⟨rfl, rfl⟩
    go_wp2_with fail
    exact bodyPost_ret (v := .agg #[.int .i64 m, .int .i64 p, .int .i64 q]) (by simp [results, Tryd.results27, go_sem]) rfl ⟨rfl, by (repeat (first | with_reducible exact Below.refl _ _ | with_reducible assumption | (with_reducible refine btrans ?_ (by with_reducible assumption)) | with_reducible refine bdrew ?_ | with_reducible refine bdrewN ?_ | with_reducible refine balloc ?_ _ | with_reducible refine bset ?_ (by simp; omega) _))⟩
  · have h' : k.tdiv 16 < 0 ∨ 4294967295 < k.tdiv 16 := by unfold kin at h; omega
    have HP := hid (fun W => impl_part_no (k.tdiv 16) h' W)
    have e1 : klev k = k.tmod 16 := rfl
    rw [show kcol k = -1 by unfold kcol; rw [if_neg h], show krow k = -1 by unfold krow; rw [if_neg h], e1]
    clear h' h e1
    generalize hd : k.tdiv 16 = d at *
    generalize hm : k.tmod 16 = m at *
    go_enter Tryd.func27, Tryd.ntmps27
    go_wp2_with fail
    refine (HP.out _).mono ?_
    rintro e w' ⟨rfl, rfl⟩
    go_wp2_with fail
    exact bodyPost_ret (v := .agg #[.int .i64 m, .int .i64 (-1), .int .i64 (-1)]) (by simp [results, Tryd.results27, go_sem]) rfl ⟨rfl, by (repeat (first | with_reducible exact Below.refl _ _ | with_reducible assumption | (with_reducible refine btrans ?_ (by with_reducible assumption)) | with_reducible refine bdrew ?_ | with_reducible refine bdrewN ?_ | with_reducible refine balloc ?_ _ | with_reducible refine bset ?_ (by simp; omega) _))⟩
end Go.Proofs.YtdhdfgobefapiaaDoor
