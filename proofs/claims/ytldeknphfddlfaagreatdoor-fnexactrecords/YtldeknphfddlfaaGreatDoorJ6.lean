/- Texts of stores, joined: Dec. -/
import Derived.Test.YtldeknphfddlfaaGreatDoorRows
import Derived.WalkKit
import Derived.WalkSpells
import Derived.Handy
import Derived.Lib.ItoaMem
set_option linter.unusedSimpArgs false
set_option linter.unusedVariables false
namespace Go.Proofs.YtldeknphfddlfaaGreatDoor
open Go.RowKit
theorem hidd {p : Prop} (h : p) : Hid p := h
theorem cut_digit (d : Nat) (h : d < 10) : (⟨#[48, 49, 50, 51, 52, 53, 54, 55, 56, 57]⟩ : ByteArray).extract d (d + 1) = ⟨#[UInt8.ofNat (48 + d)]⟩ := by
  have : d = 0 ∨ d = 1 ∨ d = 2 ∨ d = 3 ∨ d = 4 ∨ d = 5 ∨ d = 6 ∨ d = 7 ∨ d = 8 ∨ d = 9 := by omega
  rcases this with rfl | rfl | rfl | rfl | rfl | rfl | rfl | rfl | rfl | rfl <;> rfl
theorem put_front (b : UInt8) (l : List UInt8) : (⟨#[b]⟩ : ByteArray) ++ ⟨l.toArray⟩ = ⟨(b :: l).toArray⟩ := by
  apply ByteArray.ext
  rw [ByteArray.data_append]
  simp
theorem dec_step (n u : Nat) (l : List UInt8) (_hu : u ≠ 0) (h : Lib.decDigits n = Lib.decDigits u ++ l) :
    (u / 10 = 0 → Lib.decDigits n = UInt8.ofNat (48 + u % 10) :: l) ∧ (0 < u / 10 → Lib.decDigits n = Lib.decDigits (u / 10) ++ UInt8.ofNat (48 + u % 10) :: l) := by
  constructor
  · intro h0
    rw [h, Lib.decDigits_one (show u < 10 by omega), show u % 10 = u by omega]; rfl
  · intro h0
    rw [h, Lib.decDigits, dif_neg (by omega)]; simp
theorem len_le (u n : Nat) (k : Nat) (hu : u ≠ 0) (h : u * 10 ^ k ≤ n) (hn : n ≤ 9223372036854775808) : k ≤ 18 := by
  rcases Nat.lt_or_ge 18 k with hk | hk
  · have h2 : 10 ^ 19 ≤ 10 ^ k := Nat.pow_le_pow_right (by omega) hk
    have h3 : 1 * 10 ^ k ≤ u * 10 ^ k := Nat.mul_le_mul (by omega) (Nat.le_refl _)
    omega
  · exact hk
theorem down_le (u n k : Nat) (h : u * 10 ^ k ≤ n) : u / 10 * 10 ^ (k + 1) ≤ n := by
  have h1 : u / 10 * 10 * 10 ^ k ≤ u * 10 ^ k := Nat.mul_le_mul (by omega) (Nat.le_refl _)
  rw [Nat.pow_succ, Nat.mul_comm (10 ^ k) 10, ← Nat.mul_assoc]; omega
theorem tmod_neg (u : Nat) : (-(u : Int)).tmod 10 = -((u % 10 : Nat) : Int) := by rw [Int.neg_tmod]; congr 1
theorem tdiv_neg (u : Nat) : (-(u : Int)).tdiv 10 = -((u / 10 : Nat) : Int) := by rw [Int.neg_tdiv]; congr 1
theorem neg_front (l : List UInt8) : (⟨#[45]⟩ : ByteArray) ++ ⟨l.toArray⟩ = ⟨(45 :: l).toArray⟩ := put_front 45 l
end Go.Proofs.YtldeknphfddlfaaGreatDoor
