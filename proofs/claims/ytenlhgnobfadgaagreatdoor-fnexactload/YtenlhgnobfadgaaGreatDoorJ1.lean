/- Texts of stores, joined: Dec. -/
import Derived.Test.YtenlhgnobfadgaaGreatDoorRows
import Derived.WalkKit
import Derived.WalkSpells
import Derived.Handy
import Derived.Lib.ItoaMem
set_option linter.unusedSimpArgs false
set_option linter.unusedVariables false
namespace Go.Proofs.YtenlhgnobfadgaaGreatDoor
open Go.RowKit
theorem hidd {p : Prop} (h : p) : Hid p := h
theorem cut_digit (d : Nat) (h : d < 10) : (⟨#[48, 49, 50, 51, 52, 53, 54, 55, 56, 57]⟩ : ByteArray).extract d (d + 1) = ⟨#[UInt8.ofNat (48 + d)]⟩ := by
  have : d = 0 ∨ d = 1 ∨ d = 2 ∨ d = 3 ∨ d = 4 ∨ d = 5 ∨ d = 6 ∨ d = 7 ∨ d = 8 ∨ d = 9 := by omega
  rcases this with rfl | rfl | rfl | rfl | rfl | rfl | rfl | rfl | rfl | rfl <;> rfl
theorem put_front (b : UInt8) (l : List UInt8) : (⟨#[b]⟩ : ByteArray) ++ ⟨l.toArray⟩ = ⟨(b :: l).toArray⟩ := by
  apply ByteArray.ext
  rw [ByteArray.data_append]
  simp
theorem dec_step (n u : Nat) (l : List UInt8) (_hu : u ≠ 0) (h : Lib.decDigits n = Lib.decDigits u ++ l) :
    (u / 10 = 0 → Lib.decDigits n = UInt8.ofNat (48 + u % 10) :: l) ∧ (0 < u / 10 → Lib.decDigits n = Lib.decDigits (u / 10) ++ UInt8.ofNat (48 + u % 10) :: l) := by
  constructor
  · intro h0
    rw [h, Lib.decDigits_one (show u < 10 by omega), show u % 10 = u by omega]; rfl
  · intro h0
    rw [h, Lib.decDigits, dif_neg (by omega)]; simp
theorem len_le (u n : Nat) (k : Nat) (hu : u ≠ 0) (h : u * 10 ^ k ≤ n) (hn : n ≤ 9223372036854775808) : k ≤ 18 := by
  rcases Nat.lt_or_ge 18 k with hk | hk
  · have h2 : 10 ^ 19 ≤ 10 ^ k := Nat.pow_le_pow_right (by omega) hk
    have h3 : 1 * 10 ^ k ≤ u * 10 ^ k := Nat.mul_le_mul (by omega) (Nat.le_refl _)
    omega
  · exact hk
theorem down_le (u n k : Nat) (h : u * 10 ^ k ≤ n) : u / 10 * 10 ^ (k + 1) ≤ n := by
  have h1 : u / 10 * 10 * 10 ^ k ≤ u * 10 ^ k := Nat.mul_le_mul (by omega) (Nat.le_refl _)
  rw [Nat.pow_succ, Nat.mul_comm (10 ^ k) 10, ← Nat.mul_assoc]; omega
set_option maxHeartbeats 400000 in
theorem spec_dec_pos (n : Nat) (h0 : 1 ≤ n) (h1 : n ≤ 9223372036854775807) (w : World) : Calls Tryz.prog 39 #[.int .i64 n] w fun e w' => e = .returned (.string ⟨(Lib.decDigits n).toArray⟩) ∧ w' = w := by
  have hz : ((n : Int) == 0) = false := by rw [beq_eq_false_iff_ne]; omega
  go_enter Tryz.func39, Tryz.ntmps39
  go_wp2
  go_loop [3, 4] (fun tout tm => ∃ u : Nat, ∃ l : List UInt8, tout = .string ⟨l.toArray⟩ ∧ tm = .int .i64 u ∧ u ≤ 9223372036854775807 ∧ l.length ≤ 64 ∧ Hid (u * 10 ^ l.length ≤ n) ∧ Hid ((u = 0 → Lib.decDigits n = l) ∧ (0 < u → Lib.decDigits n = Lib.decDigits u ++ l))) (fun _ tm => (intOf tm).toNat)
  case atStart => exact ⟨n, [], rfl, rfl, h1, by simp, by simp [Hid], by omega, by simp⟩
  case round =>
    obtain ⟨u, l, rfl, rfl, hu, hl, HL, H⟩ := hrel
    by_cases hu0 : u = 0
    · subst hu0
      have hfin := H.out.1 rfl
      have Hf := hidd hfin
      clear hfin H HL
      go_wp2
      go_ret
      exact ⟨by rw [Hf.out]; rfl, rfl⟩
    · have hb : ((u : Int) != 0) = true := by rw [bne_iff_ne]; omega
      have b1 : 0 ≤ (u : Int) % 10 := by omega
      have b2 : (u : Int) % 10 + 1 ≤ 10 := by omega
      have b3 : 0 ≤ (u : Int) % 10 + 1 := by omega
      have b4 : (u : Int) % 10 ≤ (u : Int) % 10 + 1 := by omega
      have hst := dec_step n u l hu0 (H.out.2 (by omega))
      have hk := len_le u n l.length hu0 HL.out (by omega)
      have hdn := down_le u n l.length HL.out
      have Hst := hidd hst
      have Hdn := hidd hdn
      clear hst H HL hdn
      go_wp2
      go_round
      case rel => exact ⟨u / 10, UInt8.ofNat (48 + u % 10) :: l, by rw [cut_digit _ (by omega), put_front], by go_num, by omega, by simp; omega, by simpa using Hdn, Hst⟩
      case measure => simp [intOf]; omega
theorem tmod_neg (u : Nat) : (-(u : Int)).tmod 10 = -((u % 10 : Nat) : Int) := by rw [Int.neg_tmod]; congr 1
theorem tdiv_neg (u : Nat) : (-(u : Int)).tdiv 10 = -((u / 10 : Nat) : Int) := by rw [Int.neg_tdiv]; congr 1
theorem neg_front (l : List UInt8) : (⟨#[45]⟩ : ByteArray) ++ ⟨l.toArray⟩ = ⟨(45 :: l).toArray⟩ := put_front 45 l
set_option maxHeartbeats 800000 in
theorem spec_dec_neg (n : Nat) (h0 : 1 ≤ n) (h1 : n ≤ 9223372036854775808) (w : World) : Calls Tryz.prog 39 #[.int .i64 (-(n : Int))] w fun e w' => e = .returned (.string ⟨(45 :: Lib.decDigits n).toArray⟩) ∧ w' = w := by
  have hz : (-(n : Int) == 0) = false := by rw [beq_eq_false_iff_ne]; omega
  have hneg : -(n : Int) < 0 := by omega
  go_enter Tryz.func39, Tryz.ntmps39
  go_wp2
  go_loop [3, 4] (fun tout tm => ∃ u : Nat, ∃ l : List UInt8, tout = .string ⟨l.toArray⟩ ∧ tm = .int .i64 (-(u : Int)) ∧ u ≤ 9223372036854775808 ∧ l.length ≤ 64 ∧ Hid (u * 10 ^ l.length ≤ n) ∧ Hid ((u = 0 → Lib.decDigits n = l) ∧ (0 < u → Lib.decDigits n = Lib.decDigits u ++ l))) (fun _ tm => (-(intOf tm)).toNat)
  case atStart => exact ⟨n, [], rfl, rfl, h1, by simp, by simp [Hid], by omega, by simp⟩
  case round =>
    obtain ⟨u, l, rfl, rfl, hu, hl, HL, H⟩ := hrel
    by_cases hu0 : u = 0
    · subst hu0
      have hfin := H.out.1 rfl
      have Hf := hidd hfin
      clear hfin H HL
      go_wp2
      go_ret
      exact ⟨by rw [Hf.out, ← neg_front]; rfl, rfl⟩
    · have hb : (-(u : Int) != 0) = true := by rw [bne_iff_ne]; omega
      have hst := dec_step n u l hu0 (H.out.2 (by omega))
      have hk := len_le u n l.length hu0 HL.out (by omega)
      have hdn := down_le u n l.length HL.out
      have Hst := hidd hst
      have Hdn := hidd hdn
      clear hst H HL hdn
      have ed := tdiv_neg u
      obtain ⟨d, hd⟩ : ∃ d, d = u % 10 := ⟨_, rfl⟩
      obtain ⟨q, hq⟩ : ∃ q, q = u / 10 := ⟨_, rfl⟩
      have em := tmod_neg u
      have ed := tdiv_neg u
      rw [← hd] at em
      rw [← hq] at ed
      have hd10 : d < 10 := by omega
      have hq1 : q ≤ 922337203685477580 := by omega
      have hqu : q < u := by omega
      have Hd := hidd hd
      have Hq := hidd hq
      clear hd hq
      by_cases hd0 : d = 0
      · subst hd0
        go_wp2
        go_round
        case rel => exact ⟨u / 10, UInt8.ofNat (48 + u % 10) :: l, by rw [show u % 10 = 0 from Hd.out.symm]; exact congrArg Value.string ((congrArg (· ++ _) (cut_digit 0 (by omega))).trans (put_front _ _)), by go_num, by omega, by simp; omega, by simpa using Hdn, Hst⟩
        case measure => simp [intOf]; omega
      · have c1 : -(d : Int) < 0 := by omega
        have b1 : 0 ≤ (d : Int) := by omega
        have b2 : (d : Int) + 1 ≤ 10 := by omega
        have b3 : 0 ≤ (d : Int) + 1 := by omega
        have b4 : (d : Int) ≤ (d : Int) + 1 := by omega
        go_wp2
        go_round
        case rel => exact ⟨u / 10, UInt8.ofNat (48 + u % 10) :: l, by rw [← Hd.out, cut_digit _ hd10, put_front], by go_num, by omega, by simp; omega, by simpa using Hdn, Hst⟩
        case measure => simp [intOf]; omega
theorem spec_dec (n : Int) (h0 : -9223372036854775808 ≤ n) (h1 : n ≤ 9223372036854775807) (w : World) : Calls Tryz.prog 39 #[.int .i64 n] w fun e w' => e = .returned (.string ⟨(Lib.itoa n).toArray⟩) ∧ w' = w := by
  by_cases hp : 1 ≤ n
  · obtain ⟨u, rfl⟩ := Int.eq_ofNat_of_zero_le (show 0 ≤ n by omega)
    rw [Lib.itoa_nonneg]; exact spec_dec_pos u (by omega) (by omega) w
  · by_cases hz : n = 0
    · subst hz
      have e : Lib.itoa 0 = [48] := by have := Lib.itoa_nonneg 0; rw [Lib.decDigits_one (by omega)] at this; exact this
      rw [e]
      go_enter Tryz.func39, Tryz.ntmps39
      go_wp2
      go_ret
      exact ⟨rfl, rfl⟩
    · obtain ⟨u, hu⟩ := Int.eq_ofNat_of_zero_le (show 0 ≤ -n by omega)
      have hn : n = -(u : Int) := by omega
      subst hn
      rw [Lib.itoa_neg u (by omega)]; exact spec_dec_neg u (by omega) (by omega) w
end Go.Proofs.YtenlhgnobfadgaaGreatDoor
