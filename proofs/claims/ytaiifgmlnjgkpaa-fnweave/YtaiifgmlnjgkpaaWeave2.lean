/- The landed Weave and Part and the specification's, each at every argument, by one function each; and how the two undo each other. -/
import Derived.Test.YtaiifgmlnjgkpaaWeave
import Derived.Test.YtaiifgmlnjgkpaaDraw3
namespace Go.Proofs.Ytaiifgmlnjgkpaa
open Go.RowKit
def wv (x y : Int) : Int := if x < 0 ∨ 65535 < x ∨ y < 0 ∨ 65535 < y then -1 else ((Tm.S 16 x.toNat + 2 * Tm.S 16 y.toNat : Nat) : Int)
def pt1 (n : Int) : Int := if n < 0 ∨ 4294967295 < n then -1 else ((Tm.P 16 n.toNat : Nat) : Int)
def pt2 (n : Int) : Int := if n < 0 ∨ 4294967295 < n then -1 else ((Tm.P 16 (n.toNat / 2) : Nat) : Int)
theorem impl_weave_any (x y : Int) (w : World) : Calls Try.prog 19 #[.int .i64 x, .int .i64 y] w fun e w' => e = .returned (.int .i64 (wv x y)) ∧ w' = w := by
  unfold wv
  by_cases h : x < 0 ∨ 65535 < x ∨ y < 0 ∨ 65535 < y
  · rw [if_pos h]; exact impl_weave_no x y h w
  · rw [if_neg h]
    obtain ⟨a, rfl⟩ := Int.eq_ofNat_of_zero_le (show 0 ≤ x by omega)
    obtain ⟨b, rfl⟩ := Int.eq_ofNat_of_zero_le (show 0 ≤ y by omega)
    exact impl_weave a b _ (by omega) (by omega) rfl w
theorem spec_weave_any (x y : Int) (w : World) : Calls Try.prog 23 #[.int .i64 x, .int .i64 y] w fun e w' => e = .returned (.int .i64 (wv x y)) ∧ w' = w := by
  unfold wv
  by_cases h : x < 0 ∨ 65535 < x ∨ y < 0 ∨ 65535 < y
  · rw [if_pos h]; exact spec_weave_no x y h w
  · rw [if_neg h]
    obtain ⟨a, rfl⟩ := Int.eq_ofNat_of_zero_le (show 0 ≤ x by omega)
    obtain ⟨b, rfl⟩ := Int.eq_ofNat_of_zero_le (show 0 ≤ y by omega)
    exact spec_weave a b (by omega) (by omega) w
theorem impl_part_any (n : Int) (w : World) : Calls Try.prog 21 #[.int .i64 n] w fun e w' => e = .returned (.tuple #[.int .i64 (pt1 n), .int .i64 (pt2 n)]) ∧ w' = w := by
  unfold pt1 pt2
  by_cases h : n < 0 ∨ 4294967295 < n
  · rw [if_pos h, if_pos h]; exact impl_part_no n h w
  · rw [if_neg h, if_neg h]
    obtain ⟨a, rfl⟩ := Int.eq_ofNat_of_zero_le (show 0 ≤ n by omega)
    exact impl_part a _ _ (by omega) rfl rfl w
theorem spec_part_any (n : Int) (w : World) : Calls Try.prog 22 #[.int .i64 n] w fun e w' => e = .returned (.tuple #[.int .i64 (pt1 n), .int .i64 (pt2 n)]) ∧ w' = w := by
  unfold pt1 pt2
  by_cases h : n < 0 ∨ 4294967295 < n
  · rw [if_pos h, if_pos h]; exact spec_part_no n h w
  · rw [if_neg h, if_neg h]
    obtain ⟨a, rfl⟩ := Int.eq_ofNat_of_zero_le (show 0 ≤ n by omega)
    exact spec_part a (by omega) w
theorem wv_pt (m : Int) (h : 0 ≤ pt1 m) : wv (pt1 m) (pt2 m) = m := by
  unfold pt1 at h
  by_cases h1 : m < 0 ∨ 4294967295 < m
  · rw [if_pos h1] at h; omega
  · unfold pt1 pt2
    rw [if_neg h1, if_neg h1]
    obtain ⟨a, rfl⟩ := Int.eq_ofNat_of_zero_le (show 0 ≤ m by omega)
    have p1 := Tm.P_lt 16 a
    have p2 := Tm.P_lt 16 (a / 2)
    have hsp := Tm.S_P 16 a (by omega)
    rw [Int.toNat_natCast]
    unfold wv
    rw [if_neg (by omega), Int.toNat_natCast, Int.toNat_natCast, hsp]
theorem pt_wv (x y : Int) (h : 0 ≤ wv x y) : (0 ≤ x ∧ x ≤ 65535 ∧ 0 ≤ y ∧ y ≤ 65535 ∧ wv x y ≤ 4294967295) ∧ pt1 (wv x y) = x ∧ pt2 (wv x y) = y ∧ wv (x / 2) (y / 2) = wv x y / 4 := by
  unfold wv at h
  by_cases h1 : x < 0 ∨ 65535 < x ∨ y < 0 ∨ 65535 < y
  · rw [if_pos h1] at h; omega
  · obtain ⟨a, rfl⟩ := Int.eq_ofNat_of_zero_le (show 0 ≤ x by omega)
    obtain ⟨b, rfl⟩ := Int.eq_ofNat_of_zero_le (show 0 ≤ y by omega)
    have s1 := Tm.S_lt 16 a
    have s2 := Tm.S_lt 16 b
    have q := Tm.S_quarter a b (by omega) (by omega)
    have e : wv (a : Int) (b : Int) = ((Tm.S 16 a + 2 * Tm.S 16 b : Nat) : Int) := by
      unfold wv; rw [if_neg h1, Int.toNat_natCast, Int.toNat_natCast]
    have e4 : wv ((a : Int) / 2) ((b : Int) / 2) = ((Tm.S 16 (a / 2) + 2 * Tm.S 16 (b / 2) : Nat) : Int) := by
      unfold wv; rw [if_neg (by omega), show ((a : Int) / 2).toNat = a / 2 by omega, show ((b : Int) / 2).toNat = b / 2 by omega]
    have k1 := Tm.P_S 16 a b (by omega)
    have k2 := Tm.P_S2 16 a b (by omega)
    rw [e, e4, q]
    refine ⟨by omega, ?_, ?_, by omega⟩
    · unfold pt1; rw [if_neg (by omega), Int.toNat_natCast, k1]
    · unfold pt2; rw [if_neg (by omega), Int.toNat_natCast, k2]
end Go.Proofs.Ytaiifgmlnjgkpaa
