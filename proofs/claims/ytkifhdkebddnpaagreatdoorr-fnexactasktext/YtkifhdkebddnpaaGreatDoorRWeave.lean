/- The landed Weave and Part, and the specification's, each answer the woven (parted) number at every argument: contracts for the two statements on them. -/
import Derived.Test.YtkifhdkebddnpaaGreatDoorRRows
import Derived.Test.YtkifhdkebddnpaaGreatDoorRMath
import Derived.WalkKit
import Derived.Handy
import Derived.Laws.BitsAllLaws
namespace Go.Proofs.YtkifhdkebddnpaaGreatDoorR
open Go.RowKit
theorem hidw {p : Prop} (h : p) : Hid p := h
theorem S_none (x : Nat) : Tm.S 0 x = 0 := rfl
theorem S_more (k x : Nat) : Tm.S (k + 1) x = x % 2 + 4 * Tm.S k (x / 2) := rfl
theorem ret_int {k : IntKind} {a b : Int} (h : a = b) : Ending.returned (.int k a) = .returned (.int k b) := by rw [h]
theorem in_calls (x a b : Int) (w : World) : Calls Tryz.prog 10 #[.int .i64 x, .int .i64 a, .int .i64 b] w fun e w' => e = .returned (.bool (decide (a ≤ x) && decide (x ≤ b))) ∧ w' = w := by
  by_cases h : a ≤ x
  · go_enter Tryz.func10, Tryz.ntmps10
    go_wp2
    go_ret
    exact ⟨by simp [h], rfl⟩
  · have hd : decide (a ≤ x) = false := by simpa using h
    go_enter Tryz.func10, Tryz.ntmps10
    go_wp2
    go_ret
    exact ⟨by simp, rfl⟩
theorem u32_step (a c m : Nat) (ha : a < 4294967296) (h : a * c < 4294967296) (hm : m < 4294967296) :
    bits .and .u32 (bits .or .u32 (a : Int) ((a : Int) * (c : Int) % 4294967296)) (m : Int) = ((Nat.land (Nat.lor a (Nat.mul a c)) m : Nat) : Int) := by
  have e : (a : Int) * (c : Int) % 4294967296 = ((a * c : Nat) : Int) := by
    rw [← Int.natCast_mul]; omega
  rw [e, u32_or_nat a (a * c) ha h, u32_and_nat _ m (Nat.or_lt_two_pow (n := 32) ha h) hm]
  rfl
theorem u32_shr_step (a c m : Nat) (ha : a < 4294967296) (hm : m < 4294967296) :
    bits .and .u32 (bits .or .u32 (a : Int) ((a : Int) / (c : Int))) (m : Int) = ((Nat.land (Nat.lor a (Nat.div a c)) m : Nat) : Int) := by
  have e : (a : Int) / (c : Int) = ((a / c : Nat) : Int) := by simp
  have h : a / c < 4294967296 := Nat.lt_of_le_of_lt (Nat.div_le_self _ _) ha
  rw [e, u32_or_nat a (a / c) ha h, u32_and_nat _ m (Nat.or_lt_two_pow (n := 32) ha h) hm]
  rfl
theorem land_le (a m : Nat) : Nat.land a m ≤ m := Nat.and_le_right
theorem w_bound (a w : Nat) (B : Nat) (ha : a ≤ 3) (hw : w ≤ B) : a * w ≤ 3 * B := Nat.mul_le_mul ha hw
theorem w_step (n w d s : Nat) : n + d * w + 4 * w * s = n + w * (d + 4 * s) := by
  rw [Nat.mul_add, Nat.mul_comm d w, ← Nat.mul_assoc, Nat.mul_comm w 4]; omega
theorem pow4_le (k : Nat) (h : k < 16) : 4 ^ k ≤ 1073741824 := by
  have := Nat.pow_le_pow_right (n := 4) (by omega) (show k ≤ 15 by omega)
  simpa using this
theorem P_none (x : Nat) : Tm.P 0 x = 0 := rfl
theorem P_more (k x : Nat) : Tm.P (k + 1) x = x % 2 + 2 * Tm.P k (x / 4) := rfl
theorem p_step (n w d s : Nat) : n + d * w + 2 * w * s = n + w * (d + 2 * s) := by
  rw [Nat.mul_add, Nat.mul_comm d w, ← Nat.mul_assoc, Nat.mul_comm w 2]; omega
theorem pow2_le (k : Nat) (h : k < 16) : 2 ^ k ≤ 32768 := by
  have := Nat.pow_le_pow_right (n := 2) (by omega) (show k ≤ 15 by omega)
  simpa using this
theorem or_as (x y a b : Nat) (ha : Hid (a = Tm.S 16 x)) (hb : Hid (b = Tm.S 16 y)) : a ≤ 1431655765 ∧ b ≤ 1431655765 ∧ bits .or .u32 (a : Int) ((b : Int) * 2) = ((Tm.S 16 x + 2 * Tm.S 16 y : Nat) : Int) := by
  have hS1 := Tm.S_lt 16 x
  have hS2 := Tm.S_lt 16 y
  rw [← ha.out] at hS1 ⊢
  rw [← hb.out] at hS2 ⊢
  refine ⟨by omega, by omega, ?_⟩
  have := u32_or_nat a (b * 2) (by omega) (by omega)
  rw [Int.natCast_mul, Int.cast_ofNat_Int] at this
  rw [this, Nat.mul_comm b 2]
  congr 1
  rw [ha.out, hb.out, Tm.S_or]
end Go.Proofs.YtkifhdkebddnpaaGreatDoorR
